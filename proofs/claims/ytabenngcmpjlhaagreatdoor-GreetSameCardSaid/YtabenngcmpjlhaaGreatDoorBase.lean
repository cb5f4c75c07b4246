/- What all layers' texts lean on: small facts about worlds that grow, lists that lie in memory, blocks of a call's own. No condition. -/
import Derived.Test.YtabenngcmpjlhaaGreatDoorRows
import Derived.WalkKit
import Derived.WalkSpells
import Derived.WalkLawsBesides
import Derived.Handy
import Derived.Lib.Hide
import Derived.Lib.SliceRun
import Derived.BigQuiet
import Derived.Deep.QuietTactic
import Derived.Laws.StructEq
import Derived.Laws.Rows
import Derived.Shelf.Abstract
import Derived.DataElems
namespace Go.Proofs.YtabenngcmpjlhaaGreatDoor
open Go.RowKit
theorem below_drewN {B : Nat} {a w : World} (h : Below B a w) (n : Nat) : Below B a (w.drewN n) := ⟨h.os, h.tape, h.output, h.size, h.block⟩
theorem ext {a b c : World} (h : Below a.heap.size a b) (k : Below b.heap.size b c) : Below a.heap.size a c := h.trans (k.mono h.size)
theorem ext_drewN {a b : World} (h : Below a.heap.size a b) (n : Nat) : Below a.heap.size a (b.drewN n) := ⟨h.os, h.tape, h.output, h.size, h.block⟩
theorem add_block (a : Addr) (n : Nat) : (a.add n).block = a.block := by unfold Addr.add; split <;> rfl
def Es {α : Type} (enc : α → Value) (w : World) (D : Nat) (A : Option Addr) (l : List α) : Prop := ∀ j x, l[j]? = some x → ∃ a, A = some a ∧ a.block < D ∧ w.cell? (a.add j) = some (enc x)
theorem es_nil {α : Type} (enc : α → Value) (w : World) (D : Nat) (A : Option Addr) : Es enc w D A [] := by intro j x h; simp at h
theorem Es.below {α : Type} {enc : α → Value} {w w' : World} {D D' : Nat} {A : Option Addr} {l : List α} (h : Es enc w D A l) (hb : Below D w w') (hD : D ≤ D') : Es enc w' D' A l := by
  intro j x hj
  obtain ⟨a, ha, hlt, hc⟩ := h j x hj
  exact ⟨a, ha, by omega, (hb.cell (p := a.add j) (by rw [add_block]; exact hlt)).trans hc⟩
theorem ret_bool {a b : Bool} (h : a = b) : Ending.returned (.bool a) = .returned (.bool b) := by rw [h]
theorem take_snoc {α : Type} (l : List α) (k : Nat) (h : k < l.length) : l.take (k + 1) = l.take k ++ [l[k]] := by rw [List.take_add_one, List.getElem?_eq_getElem h]; rfl
theorem any_take {α : Type} (p : α → Bool) (l : List α) (k : Nat) (h : k < l.length) (h0 : (l.take k).any p = false) : (l.take (k + 1)).any p = p l[k] := by
  rw [take_snoc l k h, List.any_append, h0]; simp
theorem any_hit {α : Type} (p : α → Bool) (l : List α) (k : Nat) (h : k < l.length) (h1 : p l[k] = true) : l.any p = true := List.any_eq_true.2 ⟨_, List.getElem_mem h, h1⟩
theorem ret_int {k : IntKind} {a b : Int} (h : a = b) : Ending.returned (.int k a) = .returned (.int k b) := by rw [h]
theorem ret_num {k : IntKind} {a b : Int} {c d : Bool} (h : a = b) (h2 : c = d) : Ending.returned (.tuple #[.int k a, .bool c]) = .returned (.tuple #[.int k b, .bool d]) := by rw [h, h2]
theorem ret_str {a b : ByteArray} (h : a = b) : Ending.returned (.string a) = .returned (.string b) := by rw [h]
theorem ext_alloc {a b : World} (h : Below a.heap.size a b) (o : Obj) : Below a.heap.size a (b.alloc o) := h.alloc h.size o
theorem Es.up {α : Type} {enc : α → Value} {w w' : World} {A : Option Addr} {l : List α} (h : Es enc w w.heap.size A l) (hb : Below w.heap.size w w') : Es enc w' w'.heap.size A l := h.below hb hb.size
theorem below1 {w : World} {o : Obj} : Below w.heap.size w (w.alloc o) := ext_alloc (Below.refl _ _) _
theorem below2 {w : World} {o p : Obj} : Below w.heap.size w ((w.alloc o).alloc p) := ext_alloc below1 _
theorem cell_past {w : World} {p : Addr} {v : Value} (h : w.cell? p = some v) : ∀ o, (w.alloc o).cell? p = some v := fun _ => Lib.cell?_alloc_some _ h
theorem cell_past2 {w : World} {p : Addr} {v : Value} (h : w.cell? p = some v) : ∀ o q, ((w.alloc o).alloc q).cell? p = some v := fun o q => cell_past (cell_past h o) q
theorem add_succ (a : Addr) (m : Nat) : (⟨(a.add m).block, (a.add m).off + 1, none⟩ : Addr) = a.add (m + 1) := by
  have e1 : (a.add m).block = a.block := add_block a m
  have e2 : (a.add m).off = a.off + m := by unfold Addr.add; split <;> simp_all
  rw [e1, e2]
  unfold Addr.add
  rw [if_neg (by omega)]
  rfl
theorem es_cells {w : World} {D : Nat} {a : Addr} {s : List ByteArray} (h : Es Value.string w D (some a) s) : ∀ j u, (s.map Value.string)[j]? = some u → w.cell? (a.add j) = some u := by
  intro j u hu
  rw [List.getElem?_map] at hu
  obtain ⟨y, hy, rfl⟩ := Option.map_eq_some_iff.1 hu
  obtain ⟨a', ha', _, hcell⟩ := h j y hy
  injection ha' with ha'
  subst ha'
  exact hcell
theorem own_low {w : World} {base size n : Nat} {e : TypeId} {v : Value} {xs : List Value} (h : w.ownsRow base e size v n xs) : ∀ g, v.ownBlock = some g → base ≤ g := by
  intro g hg
  rcases h.2 with ⟨rfl, _⟩ | ⟨g', cap, cur, rfl, hb, _⟩
  · simp [Value.ownBlock] at hg
  · simp [Value.ownBlock] at hg; omega
theorem own_slice {w : World} {base size n : Nat} {e : TypeId} {v : Value} {xs : List Value} (h : w.ownsRow base e size v n xs) : ∃ A cap, v = .slice A n cap ∧ (A = none → cap = 0) ∧ ∀ j u, xs[j]? = some u → ∃ a, A = some a ∧ a.block < w.heap.size ∧ w.cell? (a.add j) = some u := by
  have h' := h
  rcases h.2 with ⟨rfl, h0⟩ | ⟨g, cap, cur, rfl, hb, hh, _⟩
  · refine ⟨none, 0, by rw [h0], fun _ => rfl, ?_⟩
    have : xs = [] := List.eq_nil_of_length_eq_zero (by rw [h.1, h0, Nat.zero_mul])
    subst this
    intro j u hu; simp at hu
  · refine ⟨some ⟨g, 0, none⟩, cap, rfl, (fun q => by cases q), ?_⟩
    have hlt : g < w.heap.size := by
      rcases Nat.lt_or_ge g w.heap.size with q | q
      · exact q
      · rw [Array.getElem?_eq_none q] at hh; cases hh
    intro j u hu
    exact ⟨_, rfl, hlt, h'.cells (g := g) rfl j u hu⟩
theorem own_es {w : World} {base : Nat} {v : Value} {s : List ByteArray} (h : w.ownsRow base 9 1 v s.length (s.map Value.string)) : ∃ A cap, v = .slice A s.length cap ∧ (A = none → cap = 0) ∧ Es Value.string w w.heap.size A s := by
  obtain ⟨A, cap, hv, hA, hc⟩ := own_slice h
  exact ⟨A, cap, hv, hA, fun j x hj => hc j (.string x) (by simp [hj])⟩
def Box (w : World) (b : Nat) (vs : List Value) : Prop := ∃ t, w.heap[b]? = some (.cells vs.toArray t (0, 0))
theorem Box.new (w : World) (vs : List Value) (t : TypeId) : Box (w.alloc (.cells vs.toArray t)) w.heap.size vs := ⟨t, heap_alloc_new w _⟩
theorem Box.new2 (w : World) (o : Obj) (vs : List Value) (t : TypeId) : Box ((w.alloc o).alloc (.cells vs.toArray t)) (w.heap.size + 1) vs := by
  have := Box.new (w.alloc o) vs t
  rwa [World.size_alloc] at this
theorem Box.lt {w : World} {b : Nat} {vs : List Value} (h : Box w b vs) : b < w.heap.size := by
  obtain ⟨t, h⟩ := h
  rcases Nat.lt_or_ge b w.heap.size with q | q
  · exact q
  · rw [Array.getElem?_eq_none q] at h; cases h
theorem Box.below {w w' : World} {b : Nat} {vs : List Value} (h : Box w b vs) (hb : Below w.heap.size w w') : Box w' b vs := by
  have hl := h.lt
  obtain ⟨t, h⟩ := h
  exact ⟨t, (hb.block b hl).trans h⟩
theorem Box.alloc {w : World} {b : Nat} {vs : List Value} (h : Box w b vs) (o : Obj) : Box (w.alloc o) b vs := h.below below1
theorem Box.cell {w : World} {b : Nat} {vs : List Value} (h : Box w b vs) (j : Nat) : w.cell? ⟨b, j, none⟩ = vs[j]? := by
  obtain ⟨t, h⟩ := h
  rw [cell_of_row w b j _ t (0, 0) h]
  simp
theorem Box.frozen {w : World} {b : Nat} {vs : List Value} (h : Box w b vs) (j : Nat) : w.frozen? ⟨b, j, none⟩ = false := by
  obtain ⟨t, h⟩ := h
  exact frozen_of_row w b j _ t h
theorem Box.set {w : World} {b : Nat} {vs : List Value} (h : Box w b vs) (j : Nat) (v : Value) : Box (w.setCell ⟨b, j, none⟩ v) b (vs.set j v) := by
  obtain ⟨t, h⟩ := h
  refine ⟨t, ?_⟩
  rw [heap_setCell_same w b j _ t v h]
  simp
theorem Box.other {w : World} {b : Nat} {vs : List Value} (h : Box w b vs) {p : Addr} (hp : b ≠ p.block) (v : Value) : Box (w.setCell p v) b vs := by
  obtain ⟨t, h⟩ := h
  exact ⟨t, (heap_setCell_other w p b v hp).trans h⟩
theorem Box.four {w : World} {b : Nat} {u0 u1 u2 u3 : Value} (h : Box w b [u0, u1, u2, u3]) (v0 v1 v2 v3 : Value) :
    Box ((((w.setCell ⟨b, 0, none⟩ v0).setCell ⟨b, 1, none⟩ v1).setCell ⟨b, 2, none⟩ v2).setCell ⟨b, 3, none⟩ v3) b [v0, v1, v2, v3] := (((h.set 0 v0).set 1 v1).set 2 v2).set 3 v3
theorem Box.past4 {w : World} {b b' : Nat} {vs : List Value} (h : Box w b' vs) (hn : b' ≠ b) (v0 v1 v2 v3 : Value) :
    Box ((((w.setCell ⟨b, 0, none⟩ v0).setCell ⟨b, 1, none⟩ v1).setCell ⟨b, 2, none⟩ v2).setCell ⟨b, 3, none⟩ v3) b' vs := (((h.other hn v0).other hn v1).other hn v2).other hn v3
theorem below4 {w0 w : World} {b : Nat} (h : Below w0.heap.size w0 w) (hb : w0.heap.size ≤ b) (v0 v1 v2 v3 : Value) :
    Below w0.heap.size w0 ((((w.setCell ⟨b, 0, none⟩ v0).setCell ⟨b, 1, none⟩ v1).setCell ⟨b, 2, none⟩ v2).setCell ⟨b, 3, none⟩ v3) :=
  (((h.setCell (p := ⟨b, 0, none⟩) hb v0).setCell (p := ⟨b, 1, none⟩) hb v1).setCell (p := ⟨b, 2, none⟩) hb v2).setCell (p := ⟨b, 3, none⟩) hb v3
theorem cell_new1 (w : World) (v : Value) (t : TypeId) : ∀ (j : Nat) (u : Value), [v][j]? = some u → (w.alloc (.cells #[v] t)).cell? ((⟨w.heap.size, 0, none⟩ : Addr).add j) = some u := by
  intro j u hj
  match j, hj with
  | 0, hj =>
    have : (⟨w.heap.size, 0, none⟩ : Addr).add 0 = ⟨w.heap.size, 0, none⟩ := by unfold Addr.add; split <;> simp_all
    rw [this, World.cell?_alloc_mark w _ t (0, 0)]
    simpa using hj
theorem ret_sl {A : Option Addr} {n m c : Nat} (h : n = m) : Ending.returned (.slice A n c) = .returned (.slice A m c) := by rw [h]
theorem bit_mod (x : Nat) : ((x : Int) % 2 == 1) = decide (x % 2 = 1) := by
  by_cases h : x % 2 = 1
  · rw [decide_eq_true h, beq_iff_eq]; omega
  · rw [decide_eq_false h, beq_eq_false_iff_ne]; omega
def Boxs (w : World) (L : List (Nat × List Value)) : Prop := ∀ x ∈ L, Box w x.1 x.2
theorem Boxs.nil (w : World) : Boxs w [] := by intro x h; cases h
theorem Boxs.up {w w' : World} {L : List (Nat × List Value)} (h : Boxs w L) (hb : Below w.heap.size w w') : Boxs w' L := fun x hx => (h x hx).below hb
theorem Boxs.cons {w : World} {L : List (Nat × List Value)} {b : Nat} {vs : List Value} (h0 : Box w b vs) (h : Boxs w L) : Boxs w ((b, vs) :: L) := by
  intro x hx
  rcases List.mem_cons.1 hx with rfl | hx
  · exact h0
  · exact h x hx
theorem Boxs.lay {w : World} {L : List (Nat × List Value)} (h : Boxs w L) (vs : List Value) (t : TypeId) : Boxs (w.alloc (.cells vs.toArray t)) ((w.heap.size, vs) :: L) := Boxs.cons (Box.new w vs t) (h.up below1)
theorem Boxs.hd {w : World} {L : List (Nat × List Value)} {b : Nat} {vs : List Value} (h : Boxs w ((b, vs) :: L)) : Box w b vs := h (b, vs) (by simp)
theorem Boxs.tl {w : World} {L : List (Nat × List Value)} {x : Nat × List Value} (h : Boxs w (x :: L)) : Boxs w L := fun y hy => h y (List.mem_cons_of_mem _ hy)
theorem es_new {α : Type} (enc : α → Value) (w : World) (l : List α) (t : TypeId) : Es enc (w.alloc (.cells (l.map enc).toArray t)) (w.heap.size + 1) (some ⟨w.heap.size, 0, none⟩) l := by
  intro j x hj
  refine ⟨_, rfl, Nat.lt_succ_self _, ?_⟩
  have : (⟨w.heap.size, 0, none⟩ : Addr).add j = ⟨w.heap.size, j, none⟩ := by unfold Addr.add; split <;> simp_all
  rw [this, World.cell?_alloc_mark w _ t (0, 0)]
  simp [hj]
theorem es_new2 {α : Type} (enc : α → Value) (w : World) (q : Obj) (l : List α) (t : TypeId) : Es enc ((w.alloc q).alloc (.cells (l.map enc).toArray t)) (w.heap.size + 2) (some ⟨w.heap.size + 1, 0, none⟩) l := by
  have := es_new enc (w.alloc q) l t
  rwa [World.size_alloc] at this
end Go.Proofs.YtabenngcmpjlhaaGreatDoor
