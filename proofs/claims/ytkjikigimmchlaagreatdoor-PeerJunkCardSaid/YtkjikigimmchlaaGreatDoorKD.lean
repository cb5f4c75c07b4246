/- Disks: what the small functions answer, for every argument within its type; no other condition but that the lists lie in memory. -/
import Derived.Test.YtkjikigimmchlaaGreatDoorRows
import Derived.WalkKit
import Derived.WalkSpells
import Derived.WalkLawsBesides
import Derived.Handy
import Derived.Lib.Hide
import Derived.Lib.SliceRun
import Derived.BigQuiet
import Derived.Deep.QuietTactic
import Derived.Laws.StructEq
import Derived.Laws.Rows
import Derived.Shelf.Abstract
import Derived.DataElems
namespace Go.Proofs.YtkjikigimmchlaaGreatDoor
open Go.RowKit
theorem below_drewN {B : Nat} {a w : World} (h : Below B a w) (n : Nat) : Below B a (w.drewN n) := ⟨h.os, h.tape, h.output, h.size, h.block⟩
theorem ext {a b c : World} (h : Below a.heap.size a b) (k : Below b.heap.size b c) : Below a.heap.size a c := h.trans (k.mono h.size)
theorem ext_drewN {a b : World} (h : Below a.heap.size a b) (n : Nat) : Below a.heap.size a (b.drewN n) := ⟨h.os, h.tape, h.output, h.size, h.block⟩
theorem add_block (a : Addr) (n : Nat) : (a.add n).block = a.block := by unfold Addr.add; split <;> rfl
def Es {α : Type} (enc : α → Value) (w : World) (D : Nat) (A : Option Addr) (l : List α) : Prop := ∀ j x, l[j]? = some x → ∃ a, A = some a ∧ a.block < D ∧ w.cell? (a.add j) = some (enc x)
theorem es_nil {α : Type} (enc : α → Value) (w : World) (D : Nat) (A : Option Addr) : Es enc w D A [] := by intro j x h; simp at h
theorem Es.below {α : Type} {enc : α → Value} {w w' : World} {D D' : Nat} {A : Option Addr} {l : List α} (h : Es enc w D A l) (hb : Below D w w') (hD : D ≤ D') : Es enc w' D' A l := by
  intro j x hj
  obtain ⟨a, ha, hlt, hc⟩ := h j x hj
  exact ⟨a, ha, by omega, (hb.cell (p := a.add j) (by rw [add_block]; exact hlt)).trans hc⟩
theorem ret_bool {a b : Bool} (h : a = b) : Ending.returned (.bool a) = .returned (.bool b) := by rw [h]
theorem take_snoc {α : Type} (l : List α) (k : Nat) (h : k < l.length) : l.take (k + 1) = l.take k ++ [l[k]] := by rw [List.take_add_one, List.getElem?_eq_getElem h]; rfl
theorem any_take {α : Type} (p : α → Bool) (l : List α) (k : Nat) (h : k < l.length) (h0 : (l.take k).any p = false) : (l.take (k + 1)).any p = p l[k] := by
  rw [take_snoc l k h, List.any_append, h0]; simp
theorem any_hit {α : Type} (p : α → Bool) (l : List α) (k : Nat) (h : k < l.length) (h1 : p l[k] = true) : l.any p = true := List.any_eq_true.2 ⟨_, List.getElem_mem h, h1⟩
theorem ret_int {k : IntKind} {a b : Int} (h : a = b) : Ending.returned (.int k a) = .returned (.int k b) := by rw [h]
theorem ret_num {k : IntKind} {a b : Int} {c d : Bool} (h : a = b) (h2 : c = d) : Ending.returned (.tuple #[.int k a, .bool c]) = .returned (.tuple #[.int k b, .bool d]) := by rw [h, h2]
theorem ret_str {a b : ByteArray} (h : a = b) : Ending.returned (.string a) = .returned (.string b) := by rw [h]
theorem ext_alloc {a b : World} (h : Below a.heap.size a b) (o : Obj) : Below a.heap.size a (b.alloc o) := h.alloc h.size o
theorem Es.up {α : Type} {enc : α → Value} {w w' : World} {A : Option Addr} {l : List α} (h : Es enc w w.heap.size A l) (hb : Below w.heap.size w w') : Es enc w' w'.heap.size A l := h.below hb hb.size
theorem below1 {w : World} {o : Obj} : Below w.heap.size w (w.alloc o) := ext_alloc (Below.refl _ _) _
theorem below2 {w : World} {o p : Obj} : Below w.heap.size w ((w.alloc o).alloc p) := ext_alloc below1 _
theorem cell_past {w : World} {p : Addr} {v : Value} (h : w.cell? p = some v) : ∀ o, (w.alloc o).cell? p = some v := fun _ => Lib.cell?_alloc_some _ h
theorem cell_past2 {w : World} {p : Addr} {v : Value} (h : w.cell? p = some v) : ∀ o q, ((w.alloc o).alloc q).cell? p = some v := fun o q => cell_past (cell_past h o) q
theorem add_succ (a : Addr) (m : Nat) : (⟨(a.add m).block, (a.add m).off + 1, none⟩ : Addr) = a.add (m + 1) := by
  have e1 : (a.add m).block = a.block := add_block a m
  have e2 : (a.add m).off = a.off + m := by unfold Addr.add; split <;> simp_all
  rw [e1, e2]
  unfold Addr.add
  rw [if_neg (by omega)]
  rfl
theorem es_cells {w : World} {D : Nat} {a : Addr} {s : List ByteArray} (h : Es Value.string w D (some a) s) : ∀ j u, (s.map Value.string)[j]? = some u → w.cell? (a.add j) = some u := by
  intro j u hu
  rw [List.getElem?_map] at hu
  obtain ⟨y, hy, rfl⟩ := Option.map_eq_some_iff.1 hu
  obtain ⟨a', ha', _, hcell⟩ := h j y hy
  injection ha' with ha'
  subst ha'
  exact hcell
theorem own_low {w : World} {base size n : Nat} {e : TypeId} {v : Value} {xs : List Value} (h : w.ownsRow base e size v n xs) : ∀ g, v.ownBlock = some g → base ≤ g := by
  intro g hg
  rcases h.2 with ⟨rfl, _⟩ | ⟨g', cap, cur, rfl, hb, _⟩
  · simp [Value.ownBlock] at hg
  · simp [Value.ownBlock] at hg; omega
theorem own_slice {w : World} {base size n : Nat} {e : TypeId} {v : Value} {xs : List Value} (h : w.ownsRow base e size v n xs) : ∃ A cap, v = .slice A n cap ∧ (A = none → cap = 0) ∧ ∀ j u, xs[j]? = some u → ∃ a, A = some a ∧ a.block < w.heap.size ∧ w.cell? (a.add j) = some u := by
  have h' := h
  rcases h.2 with ⟨rfl, h0⟩ | ⟨g, cap, cur, rfl, hb, hh, _⟩
  · refine ⟨none, 0, by rw [h0], fun _ => rfl, ?_⟩
    have : xs = [] := List.eq_nil_of_length_eq_zero (by rw [h.1, h0, Nat.zero_mul])
    subst this
    intro j u hu; simp at hu
  · refine ⟨some ⟨g, 0, none⟩, cap, rfl, (fun q => by cases q), ?_⟩
    have hlt : g < w.heap.size := by
      rcases Nat.lt_or_ge g w.heap.size with q | q
      · exact q
      · rw [Array.getElem?_eq_none q] at hh; cases hh
    intro j u hu
    exact ⟨_, rfl, hlt, h'.cells (g := g) rfl j u hu⟩
theorem own_es {w : World} {base : Nat} {v : Value} {s : List ByteArray} (h : w.ownsRow base 9 1 v s.length (s.map Value.string)) : ∃ A cap, v = .slice A s.length cap ∧ (A = none → cap = 0) ∧ Es Value.string w w.heap.size A s := by
  obtain ⟨A, cap, hv, hA, hc⟩ := own_slice h
  exact ⟨A, cap, hv, hA, fun j x hj => hc j (.string x) (by simp [hj])⟩
def Box (w : World) (b : Nat) (vs : List Value) : Prop := ∃ t, w.heap[b]? = some (.cells vs.toArray t (0, 0))
theorem Box.new (w : World) (vs : List Value) (t : TypeId) : Box (w.alloc (.cells vs.toArray t)) w.heap.size vs := ⟨t, heap_alloc_new w _⟩
theorem Box.new2 (w : World) (o : Obj) (vs : List Value) (t : TypeId) : Box ((w.alloc o).alloc (.cells vs.toArray t)) (w.heap.size + 1) vs := by
  have := Box.new (w.alloc o) vs t
  rwa [World.size_alloc] at this
theorem Box.lt {w : World} {b : Nat} {vs : List Value} (h : Box w b vs) : b < w.heap.size := by
  obtain ⟨t, h⟩ := h
  rcases Nat.lt_or_ge b w.heap.size with q | q
  · exact q
  · rw [Array.getElem?_eq_none q] at h; cases h
theorem Box.below {w w' : World} {b : Nat} {vs : List Value} (h : Box w b vs) (hb : Below w.heap.size w w') : Box w' b vs := by
  have hl := h.lt
  obtain ⟨t, h⟩ := h
  exact ⟨t, (hb.block b hl).trans h⟩
theorem Box.alloc {w : World} {b : Nat} {vs : List Value} (h : Box w b vs) (o : Obj) : Box (w.alloc o) b vs := h.below below1
theorem Box.cell {w : World} {b : Nat} {vs : List Value} (h : Box w b vs) (j : Nat) : w.cell? ⟨b, j, none⟩ = vs[j]? := by
  obtain ⟨t, h⟩ := h
  rw [cell_of_row w b j _ t (0, 0) h]
  simp
theorem Box.frozen {w : World} {b : Nat} {vs : List Value} (h : Box w b vs) (j : Nat) : w.frozen? ⟨b, j, none⟩ = false := by
  obtain ⟨t, h⟩ := h
  exact frozen_of_row w b j _ t h
theorem Box.set {w : World} {b : Nat} {vs : List Value} (h : Box w b vs) (j : Nat) (v : Value) : Box (w.setCell ⟨b, j, none⟩ v) b (vs.set j v) := by
  obtain ⟨t, h⟩ := h
  refine ⟨t, ?_⟩
  rw [heap_setCell_same w b j _ t v h]
  simp
theorem Box.other {w : World} {b : Nat} {vs : List Value} (h : Box w b vs) {p : Addr} (hp : b ≠ p.block) (v : Value) : Box (w.setCell p v) b vs := by
  obtain ⟨t, h⟩ := h
  exact ⟨t, (heap_setCell_other w p b v hp).trans h⟩
theorem Box.four {w : World} {b : Nat} {u0 u1 u2 u3 : Value} (h : Box w b [u0, u1, u2, u3]) (v0 v1 v2 v3 : Value) :
    Box ((((w.setCell ⟨b, 0, none⟩ v0).setCell ⟨b, 1, none⟩ v1).setCell ⟨b, 2, none⟩ v2).setCell ⟨b, 3, none⟩ v3) b [v0, v1, v2, v3] := (((h.set 0 v0).set 1 v1).set 2 v2).set 3 v3
theorem Box.past4 {w : World} {b b' : Nat} {vs : List Value} (h : Box w b' vs) (hn : b' ≠ b) (v0 v1 v2 v3 : Value) :
    Box ((((w.setCell ⟨b, 0, none⟩ v0).setCell ⟨b, 1, none⟩ v1).setCell ⟨b, 2, none⟩ v2).setCell ⟨b, 3, none⟩ v3) b' vs := (((h.other hn v0).other hn v1).other hn v2).other hn v3
theorem below4 {w0 w : World} {b : Nat} (h : Below w0.heap.size w0 w) (hb : w0.heap.size ≤ b) (v0 v1 v2 v3 : Value) :
    Below w0.heap.size w0 ((((w.setCell ⟨b, 0, none⟩ v0).setCell ⟨b, 1, none⟩ v1).setCell ⟨b, 2, none⟩ v2).setCell ⟨b, 3, none⟩ v3) :=
  (((h.setCell (p := ⟨b, 0, none⟩) hb v0).setCell (p := ⟨b, 1, none⟩) hb v1).setCell (p := ⟨b, 2, none⟩) hb v2).setCell (p := ⟨b, 3, none⟩) hb v3
theorem cell_new1 (w : World) (v : Value) (t : TypeId) : ∀ (j : Nat) (u : Value), [v][j]? = some u → (w.alloc (.cells #[v] t)).cell? ((⟨w.heap.size, 0, none⟩ : Addr).add j) = some u := by
  intro j u hj
  match j, hj with
  | 0, hj =>
    have : (⟨w.heap.size, 0, none⟩ : Addr).add 0 = ⟨w.heap.size, 0, none⟩ := by unfold Addr.add; split <;> simp_all
    rw [this, World.cell?_alloc_mark w _ t (0, 0)]
    simpa using hj
theorem ret_sl {A : Option Addr} {n m c : Nat} (h : n = m) : Ending.returned (.slice A n c) = .returned (.slice A m c) := by rw [h]
theorem bit_mod (x : Nat) : ((x : Int) % 2 == 1) = decide (x % 2 = 1) := by
  by_cases h : x % 2 = 1
  · rw [decide_eq_true h, beq_iff_eq]; omega
  · rw [decide_eq_false h, beq_eq_false_iff_ne]; omega
def Boxs (w : World) (L : List (Nat × List Value)) : Prop := ∀ x ∈ L, Box w x.1 x.2
theorem Boxs.nil (w : World) : Boxs w [] := by intro x h; cases h
theorem Boxs.up {w w' : World} {L : List (Nat × List Value)} (h : Boxs w L) (hb : Below w.heap.size w w') : Boxs w' L := fun x hx => (h x hx).below hb
theorem Boxs.cons {w : World} {L : List (Nat × List Value)} {b : Nat} {vs : List Value} (h0 : Box w b vs) (h : Boxs w L) : Boxs w ((b, vs) :: L) := by
  intro x hx
  rcases List.mem_cons.1 hx with rfl | hx
  · exact h0
  · exact h x hx
theorem Boxs.lay {w : World} {L : List (Nat × List Value)} (h : Boxs w L) (vs : List Value) (t : TypeId) : Boxs (w.alloc (.cells vs.toArray t)) ((w.heap.size, vs) :: L) := Boxs.cons (Box.new w vs t) (h.up below1)
theorem Boxs.hd {w : World} {L : List (Nat × List Value)} {b : Nat} {vs : List Value} (h : Boxs w ((b, vs) :: L)) : Box w b vs := h (b, vs) (by simp)
theorem Boxs.tl {w : World} {L : List (Nat × List Value)} {x : Nat × List Value} (h : Boxs w (x :: L)) : Boxs w L := fun y hy => h y (List.mem_cons_of_mem _ hy)
theorem es_new {α : Type} (enc : α → Value) (w : World) (l : List α) (t : TypeId) : Es enc (w.alloc (.cells (l.map enc).toArray t)) (w.heap.size + 1) (some ⟨w.heap.size, 0, none⟩) l := by
  intro j x hj
  refine ⟨_, rfl, Nat.lt_succ_self _, ?_⟩
  have : (⟨w.heap.size, 0, none⟩ : Addr).add j = ⟨w.heap.size, j, none⟩ := by unfold Addr.add; split <;> simp_all
  rw [this, World.cell?_alloc_mark w _ t (0, 0)]
  simp [hj]
theorem es_new2 {α : Type} (enc : α → Value) (w : World) (q : Obj) (l : List α) (t : TypeId) : Es enc ((w.alloc q).alloc (.cells (l.map enc).toArray t)) (w.heap.size + 2) (some ⟨w.heap.size + 1, 0, none⟩) l := by
  have := es_new enc (w.alloc q) l t
  rwa [World.size_alloc] at this
end Go.Proofs.YtkjikigimmchlaaGreatDoor
namespace Go.Proofs.YtkjikigimmchlaaGreatDoor
open Go.RowKit
def Ws (w : World) (D : Nat) (A : Option Addr) (l : List (Int × ByteArray)) : Prop :=
  ∀ j x, l[j]? = some x → ∃ a, A = some a ∧ a.block < D ∧ w.cell? (a.add (j * 2)) = some (.int .i64 x.1) ∧ w.cell? ⟨(a.add (j * 2)).block, (a.add (j * 2)).off + 1, none⟩ = some (.string x.2)
theorem ws_nil (w : World) (D : Nat) (A : Option Addr) : Ws w D A [] := by intro j x h; simp at h
theorem Ws.below {w w' : World} {D D' : Nat} {A : Option Addr} {l : List (Int × ByteArray)} (h : Ws w D A l) (hb : Below D w w') (hD : D ≤ D') : Ws w' D' A l := by
  intro j x hj
  obtain ⟨a, ha, hlt, hc, hd⟩ := h j x hj
  exact ⟨a, ha, by omega, (hb.cell (p := a.add (j * 2)) (by rw [add_block]; exact hlt)).trans hc, (hb.cell (p := ⟨(a.add (j * 2)).block, (a.add (j * 2)).off + 1, none⟩) (by show (a.add (j * 2)).block < D; rw [add_block]; exact hlt)).trans hd⟩
theorem tooLong_any (s : ByteArray) (w : World) : Calls Tryz.prog 245 #[.string s] w fun e w' => e = .returned (.bool (decide (64 < (s.size : Int)))) ∧ w' = w := by
  go_enter Tryz.func245, Tryz.ntmps245
  go_wp2
  go_ret
  exact ⟨rfl, rfl⟩
def longS (s : ByteArray) : Bool := decide (64 < (s.size : Int))
def misfitW (n : Nat) (x : Int × ByteArray) : Bool := decide (x.1 < 0) || decide ((n : Int) ≤ x.1) || longS x.2
end Go.Proofs.YtkjikigimmchlaaGreatDoor
namespace Go.Proofs.YtkjikigimmchlaaGreatDoor
open Go.RowKit
theorem toList_inj {x y : ByteArray} (h : x.toList = y.toList) : x = y := by
  rw [ByteArray.toList_eq, ByteArray.toList_eq] at h
  obtain ⟨⟨a⟩⟩ := x
  obtain ⟨⟨b⟩⟩ := y
  simp only at h
  rw [h]
theorem text_eq (x y : ByteArray) : (x.toList == y.toList) = decide (x = y) := by
  by_cases h : x = y
  · subst h; simp
  · rw [decide_eq_false h]
    exact beq_eq_false_iff_ne.2 fun e => h (toList_inj e)
theorem wr_struct : Tryz.prog.underlying 151 = some (.struct (Tryz.prog.fieldsOf 151)) := by kernel_rfl
theorem wr_held : Tryz.prog.stoodInHeld 151 = false := by kernel_rfl
theorem wr_guard : Tryz.prog.eqGuardType Tryz.prog.depth 151 = false := by kernel_rfl
theorem wr_neq (x y : Int × ByteArray) (w : World) : (binOp .neq 151 (.agg #[.int .i64 x.1, .string x.2]) (.agg #[.int .i64 y.1, .string y.2])).run Tryz.prog w = .ok (.bool (!decide (x = y))) w := by
  have u3 := Tryz.underlying3
  have u9 := Tryz.underlying9
  have a3 := Tryz.isAgg3
  have z3 := Tryz.sizeOf3
  have a9 := Tryz.isAgg9
  have z9 := Tryz.sizeOf9
  rw [run_neq_struct, show (10000 : Nat) = 9999 + 1 from rfl, run_equalIn_agg w 9999 151 _ _ wr_struct wr_held]
  simp only [Program.fieldsOf, Tryz.underlying151]
  go_simp
  obtain ⟨a, s⟩ := x
  obtain ⟨b, t⟩ := y
  by_cases h1 : a = b
  · by_cases h2 : s = t
    · simp [h1, h2]
    · have h3 : ¬ s.toList = t.toList := fun e => h2 (toList_inj e)
      simp [h1, h2, h3]
  · simp [h1]
theorem eq_take_step {α : Type} {l1 l2 : List α} {k : Nat} (h1 : k < l1.length) (h2 : k < l2.length) (h : l1.take k = l2.take k) (he : l1[k] = l2[k]) : l1.take (k + 1) = l2.take (k + 1) := by
  rw [take_snoc l1 k h1, take_snoc l2 k h2, h, he]
theorem eq_take_no {α : Type} {l1 l2 : List α} {k : Nat} (h1 : k < l1.length) (h2 : k < l2.length) (he : l1[k] ≠ l2[k]) : l1 ≠ l2 := by
  intro h; subst h; exact he rfl
theorem eq_take_yes {α : Type} {l1 l2 : List α} (hl : l1.length = l2.length) (h : l1.take l1.length = l2.take l1.length) : l1 = l2 := by
  rw [List.take_length, hl, List.take_length] at h; exact h
end Go.Proofs.YtkjikigimmchlaaGreatDoor
namespace Go.Proofs.YtkjikigimmchlaaGreatDoor
open Go.RowKit
def burnF (f : Int) : Int := if 1 < f then f - 1 else if f = 1 then 0 else f
def burnD (f : Int) (x : Bool) : Bool := if f = 1 then true else x
set_option maxHeartbeats 400000 in
theorem crash_any (A B : Option Addr) (n1 n2 m1 m2 : Nat) (f : Int) (x : Bool) (w : World) :
    Calls Tryz.prog 219 #[.agg #[.slice A n1 n2, .slice B m1 m2, .int .i64 f, .bool x]] w fun e w' => e = .returned (.agg #[.slice A n1 n2, .slice B m1 m2, .int .i64 0, .bool true]) ∧ Below w.heap.size w w' := by
  go_enter Tryz.func219, Tryz.ntmps219
  go_wp2
  refine bodyPost_ret (v := .agg #[.slice A n1 n2, .slice B m1 m2, .int .i64 0, .bool true]) (by simp [results, Tryz.results219, go_sem]) rfl ⟨rfl, ?_⟩
  exact ext_alloc (ext_alloc (Below.refl _ _) _) _
set_option maxHeartbeats 400000 in
theorem rcrash_any (A B : Option Addr) (n1 n2 m1 m2 : Nat) (f : Int) (x : Bool) (w : World) :
    Calls Tryz.prog 155 #[.agg #[.slice A n1 n2, .slice B m1 m2, .int .i64 f, .bool x]] w fun e w' => e = .returned (.agg #[.slice A n1 n2, .slice B m1 m2, .int .i64 0, .bool true]) ∧ Below w.heap.size w w' := by
  go_enter Tryz.func155, Tryz.ntmps155
  go_wp2
  refine bodyPost_ret (v := .agg #[.slice A n1 n2, .slice B m1 m2, .int .i64 0, .bool true]) (by simp [results, Tryz.results155, go_sem]) rfl ⟨rfl, ?_⟩
  exact ext_alloc (ext_alloc (Below.refl _ _) _) _
set_option maxHeartbeats 1000000 in
theorem burn_any (A B : Option Addr) (n1 n2 m1 m2 : Nat) (f : Int) (x : Bool) (w : World) (hf : f < 9223372036854775808) :
    Calls Tryz.prog 246 #[.agg #[.slice A n1 n2, .slice B m1 m2, .int .i64 f, .bool x]] w fun e w' => e = .returned (.agg #[.slice A n1 n2, .slice B m1 m2, .int .i64 (burnF f), .bool (burnD f x)]) ∧ Below w.heap.size w w' := by
  unfold burnF burnD
  by_cases h1 : f = 1
  · subst h1
    go_enter Tryz.func246, Tryz.ntmps246
    go_wp2
    refine bodyPost_ret (v := .agg #[.slice A n1 n2, .slice B m1 m2, .int .i64 0, .bool true]) (by simp [results, Tryz.results246, go_sem]) rfl ⟨rfl, ?_⟩
    exact ext_alloc (ext_alloc (ext_alloc (ext_alloc (Below.refl _ _) _) _) _) _
  · by_cases h2 : 1 < f
    · rw [if_neg h1, if_pos h2]
      have hb : (f == 1) = false := beq_eq_false_iff_ne.2 h1
      clear h1
      go_enter Tryz.func246, Tryz.ntmps246
      go_wp2
      refine bodyPost_ret (v := .agg #[.slice A n1 n2, .slice B m1 m2, .int .i64 (f - 1), .bool x]) (by simp [results, Tryz.results246, go_sem]) rfl ⟨rfl, ?_⟩
      exact ext_alloc (ext_alloc (Below.refl _ _) _) _
    · rw [if_neg h1, if_neg h2, if_neg h1]
      have hb : (f == 1) = false := beq_eq_false_iff_ne.2 h1
      clear h1
      go_enter Tryz.func246, Tryz.ntmps246
      go_wp2
      refine bodyPost_ret (v := .agg #[.slice A n1 n2, .slice B m1 m2, .int .i64 f, .bool x]) (by simp [results, Tryz.results246, go_sem]) rfl ⟨rfl, ?_⟩
      exact ext_alloc (ext_alloc (Below.refl _ _) _) _
set_option maxHeartbeats 1000000 in
theorem rburn_any (A B : Option Addr) (n1 n2 m1 m2 : Nat) (f : Int) (x : Bool) (w : World) (hf : f < 9223372036854775808) :
    Calls Tryz.prog 265 #[.agg #[.slice A n1 n2, .slice B m1 m2, .int .i64 f, .bool x]] w fun e w' => e = .returned (.agg #[.slice A n1 n2, .slice B m1 m2, .int .i64 (burnF f), .bool (burnD f x)]) ∧ Below w.heap.size w w' := by
  unfold burnF burnD
  by_cases h1 : f = 1
  · subst h1
    go_enter Tryz.func265, Tryz.ntmps265
    go_wp2
    refine bodyPost_ret (v := .agg #[.slice A n1 n2, .slice B m1 m2, .int .i64 0, .bool true]) (by simp [results, Tryz.results265, go_sem]) rfl ⟨rfl, ?_⟩
    exact ext_alloc (ext_alloc (Below.refl _ _) _) _
  · by_cases h2 : 1 < f
    · rw [if_neg h1, if_pos h2]
      have hb : (f == 1) = false := beq_eq_false_iff_ne.2 h1
      have h0 : 0 < f := by omega
      clear h1
      go_enter Tryz.func265, Tryz.ntmps265
      go_wp2
      refine bodyPost_ret (v := .agg #[.slice A n1 n2, .slice B m1 m2, .int .i64 (f - 1), .bool x]) (by simp [results, Tryz.results265, go_sem]) rfl ⟨rfl, ?_⟩
      exact ext_alloc (ext_alloc (Below.refl _ _) _) _
    · rw [if_neg h1, if_neg h2, if_neg h1]
      have hb : (f == 1) = false := beq_eq_false_iff_ne.2 h1
      have h0 : ¬ 0 < f := by omega
      clear h1
      go_enter Tryz.func265, Tryz.ntmps265
      go_wp2
      refine bodyPost_ret (v := .agg #[.slice A n1 n2, .slice B m1 m2, .int .i64 f, .bool x]) (by simp [results, Tryz.results265, go_sem]) rfl ⟨rfl, ?_⟩
      exact ext_alloc (ext_alloc (Below.refl _ _) _) _
set_option maxHeartbeats 400000 in
theorem rarm_any (A B : Option Addr) (n1 n2 m1 m2 : Nat) (f n : Int) (x : Bool) (w : World) :
    Calls Tryz.prog 99 #[.agg #[.slice A n1 n2, .slice B m1 m2, .int .i64 f, .bool x], .int .i64 n] w fun e w' => e = .returned (.agg #[.slice A n1 n2, .slice B m1 m2, .int .i64 (if n < 0 then 0 else n), .bool x]) ∧ Below w.heap.size w w' := by
  by_cases hn : n < 0
  · rw [if_pos hn]
    go_enter Tryz.func99, Tryz.ntmps99
    go_wp2
    refine bodyPost_ret (v := .agg #[.slice A n1 n2, .slice B m1 m2, .int .i64 0, .bool x]) (by simp [results, Tryz.results99, go_sem]) rfl ⟨rfl, ?_⟩
    exact ext_alloc (ext_alloc (Below.refl _ _) _) _
  · rw [if_neg hn]
    go_enter Tryz.func99, Tryz.ntmps99
    go_wp2
    refine bodyPost_ret (v := .agg #[.slice A n1 n2, .slice B m1 m2, .int .i64 n, .bool x]) (by simp [results, Tryz.results99, go_sem]) rfl ⟨rfl, ?_⟩
    exact ext_alloc (ext_alloc (Below.refl _ _) _) _
def reachE (n : Nat) (i : Int) (x : Bool) : Int := if x = true then 6 else if i < 0 then 4 else if (n : Int) ≤ i then 4 else 0
set_option maxHeartbeats 400000 in
theorem reach_any (A B : Option Addr) (n1 n2 m1 m2 : Nat) (f i : Int) (x : Bool) (w : World) :
    Calls Tryz.prog 224 #[.agg #[.slice A n1 n2, .slice B m1 m2, .int .i64 f, .bool x], .int .i64 i] w fun e w' => e = .returned (.int .i64 (reachE n1 i x)) ∧ Below w.heap.size w w' := by
  unfold reachE
  cases x with
  | true =>
    rw [if_pos rfl]
    go_enter Tryz.func224, Tryz.ntmps224
    go_wp2
    go_ret
    exact ⟨rfl, ext_alloc (Below.refl _ _) _⟩
  | false =>
    rw [if_neg (by simp)]
    by_cases h0 : i < 0
    · rw [if_pos h0]
      go_enter Tryz.func224, Tryz.ntmps224
      go_wp2
      go_ret
      exact ⟨rfl, ext_alloc (Below.refl _ _) _⟩
    · rw [if_neg h0]
      by_cases h1 : (n1 : Int) ≤ i
      · rw [if_pos h1]
        go_enter Tryz.func224, Tryz.ntmps224
        go_wp2
        go_ret
        exact ⟨rfl, ext_alloc (Below.refl _ _) _⟩
      · rw [if_neg h1]
        go_enter Tryz.func224, Tryz.ntmps224
        go_wp2
        go_ret
        exact ⟨rfl, ext_alloc (Below.refl _ _) _⟩
theorem info9 : (Tryz.prog.info? 9).map (fun i => (i.zero, i.size, i.bytes)) = some (some (.string ⟨#[]⟩), 1, 16) := by kernel_rfl
theorem info45 : (Tryz.prog.info? 151).map (fun i => (i.zero, i.size, i.bytes)) = some (some (.agg #[.int .i64 0, .string ⟨#[]⟩]), 2, 24) := by kernel_rfl
def Ty (w : World) (A : Option Addr) (T : TypeId) : Prop := ∀ a, A = some a → ∃ cs fr, w.heap[a.block]? = some (.cells cs T fr)
theorem ty_none (w : World) (T : TypeId) : Ty w none T := fun _ h => by cases h
theorem Ty.up {w w' : World} {A : Option Addr} {T : TypeId} (h : Ty w A T) (hb : Below w.heap.size w w') : Ty w' A T := fun a ha => by
  obtain ⟨cs, fr, hc⟩ := h a ha
  exact ⟨cs, fr, by rw [hb.block _ (Array.getElem?_eq_some_iff.1 hc).1]; exact hc⟩
theorem Ty.set {w : World} {A : Option Addr} {T : TypeId} (h : Ty w A T) (p : Addr) (v : Value) : Ty (w.setCell p v) A T := fun a ha => by
  obtain ⟨cs, fr, hc⟩ := h a ha
  by_cases e : a.block = p.block
  · refine ⟨if p.spot.isSome then cs else cs.setIfInBounds p.off v, fr, ?_⟩
    rw [e] at hc ⊢
    simp [World.setCell, Array.getElem?_modify, hc]
  · exact ⟨cs, fr, by rw [Below.heap_setCell _ _ _ _ e]; exact hc⟩
theorem own_ty {w : World} {base size n : Nat} {e : TypeId} {A : Option Addr} {len cap : Nat} {xs : List Value} (h : w.ownsRow base e size (.slice A len cap) n xs) : Ty w A e := fun a ha => by
  rcases h.2 with ⟨hn, _⟩ | ⟨g, c, cur, hv, _, hg, _⟩
  · injection hn with h1
    rw [ha] at h1
    cases h1
  · injection hv with h1
    rw [ha] at h1
    injection h1 with h1
    subst h1
    exact ⟨cur, _, hg⟩
theorem Ty.ne {w : World} {A : Option Addr} {T T' : TypeId} {a : Addr} {b : Nat} {cs : Array Value} {fr : Nat × Nat} (h : Ty w A T) (ha : A = some a) (hb : w.heap[b]? = some (.cells cs T' fr)) (hne : T ≠ T') : a.block ≠ b := fun e => by
  obtain ⟨c2, f2, h2⟩ := h a ha
  rw [e, hb] at h2
  injection h2 with h2
  injection h2 with _ h2
  exact hne h2.symm
structure Mem (w : World) (A : Option Addr) (n : Nat) (B : Option Addr) (m : Nat) (s : List ByteArray) (c : List (Int × ByteArray)) : Prop where
  es : Es Value.string w w.heap.size A s
  ws : Ws w w.heap.size B c
  an : A = none → n = 0
  bn : B = none → m = 0
  ta : Ty w A 9
  tb : Ty w B 151
theorem Mem.up {w w' : World} {A B : Option Addr} {n m : Nat} {s : List ByteArray} {c : List (Int × ByteArray)} (h : Mem w A n B m s c) (hb : Below w.heap.size w w') : Mem w' A n B m s c :=
  ⟨h.es.below hb hb.size, h.ws.below hb hb.size, h.an, h.bn, h.ta.up hb, h.tb.up hb⟩
theorem mem_nil (w : World) : Mem w none 0 none 0 [] [] := ⟨es_nil _ _ _ _, ws_nil _ _ _, fun _ => rfl, fun _ => rfl, ty_none _ _, ty_none _ _⟩
def GivesD (s : List ByteArray) (c : List (Int × ByteArray)) (f : Int) (x : Bool) (r : Int) (w : World) (e : Ending) (w' : World) : Prop :=
  ∃ A B n m, e = .returned (.tuple #[.agg #[.slice A s.length n, .slice B c.length m, .int .i64 f, .bool x], .int .i64 r]) ∧ Mem w' A n B m s c ∧ Below w.heap.size w w'
end Go.Proofs.YtkjikigimmchlaaGreatDoor
namespace Go.Proofs.YtkjikigimmchlaaGreatDoor
open Go.RowKit
theorem Ws.up {w w' : World} {A : Option Addr} {l : List (Int × ByteArray)} (h : Ws w w.heap.size A l) (hb : Below w.heap.size w w') : Ws w' w'.heap.size A l := h.below hb hb.size
theorem misfit_no {n : Nat} {x : Int × ByteArray} (h0 : ¬ x.1 < 0) (h1 : ¬ (n : Int) ≤ x.1) (h2 : ¬ 64 < (x.2.size : Int)) : misfitW n x = false := by
  unfold misfitW longS; rw [decide_eq_false h0, decide_eq_false h1, decide_eq_false h2]; rfl
end Go.Proofs.YtkjikigimmchlaaGreatDoor
namespace Go.Proofs.YtkjikigimmchlaaGreatDoor
open Go.RowKit
def sameB (s1 s2 : List ByteArray) (c1 c2 : List (Int × ByteArray)) (f1 f2 : Int) (x1 x2 : Bool) : Bool := decide (s1 = s2) && decide (c1 = c2) && (f1 == f2) && (x1 == x2)
theorem same_no1 {s1 s2 : List ByteArray} {c1 c2 : List (Int × ByteArray)} {f1 f2 : Int} {x1 x2 : Bool} (h : s1 ≠ s2) : sameB s1 s2 c1 c2 f1 f2 x1 x2 = false := by unfold sameB; rw [decide_eq_false h]; rfl
theorem same_no2 {s1 s2 : List ByteArray} {c1 c2 : List (Int × ByteArray)} {f1 f2 : Int} {x1 x2 : Bool} (h : c1 ≠ c2) : sameB s1 s2 c1 c2 f1 f2 x1 x2 = false := by unfold sameB; rw [decide_eq_false h, Bool.and_false]; rfl
theorem same_no3 {s1 s2 : List ByteArray} {c1 c2 : List (Int × ByteArray)} {f1 f2 : Int} {x1 x2 : Bool} (h : (f1 == f2) = false) : sameB s1 s2 c1 c2 f1 f2 x1 x2 = false := by unfold sameB; rw [h, Bool.and_false]; rfl
theorem same_no4 {s1 s2 : List ByteArray} {c1 c2 : List (Int × ByteArray)} {f1 f2 : Int} {x1 x2 : Bool} (h : (x1 == x2) = false) : sameB s1 s2 c1 c2 f1 f2 x1 x2 = false := by unfold sameB; rw [h, Bool.and_false]
theorem same_yes {s1 s2 : List ByteArray} {c1 c2 : List (Int × ByteArray)} {f1 f2 : Int} {x1 x2 : Bool} (h1 : s1 = s2) (h2 : c1 = c2) (h3 : (f1 == f2) = true) (h4 : (x1 == x2) = true) : sameB s1 s2 c1 c2 f1 f2 x1 x2 = true := by
  unfold sameB; rw [decide_eq_true h1, decide_eq_true h2, h3, h4]; rfl
set_option maxRecDepth 100000 in
set_option maxHeartbeats 2000000 in
theorem rsame_any (A1 B1 A2 B2 : Option Addr) (n1 m1 n2 m2 : Nat) (s1 s2 : List ByteArray) (c1 c2 : List (Int × ByteArray)) (f1 f2 : Int) (x1 x2 : Bool) (w : World)
    (hs1 : Es Value.string w w.heap.size A1 s1) (hc1 : Ws w w.heap.size B1 c1) (hs2 : Es Value.string w w.heap.size A2 s2) (hc2 : Ws w w.heap.size B2 c2)
    (ms1 : s1.length ≤ maxLen) (mc1 : c1.length ≤ maxLen) :
    Calls Tryz.prog 50 #[.agg #[.slice A1 s1.length n1, .slice B1 c1.length m1, .int .i64 f1, .bool x1], .agg #[.slice A2 s2.length n2, .slice B2 c2.length m2, .int .i64 f2, .bool x2]] w
      fun e w' => e = .returned (.bool (sameB s1 s2 c1 c2 f1 f2 x1 x2)) ∧ Below w.heap.size w w' := by
  unfold maxLen at ms1 mc1
  have hgd := wr_guard
  have HS1 := Lib.hid hs1; clear hs1
  have HS2 := Lib.hid hs2; clear hs2
  have HC1 := Lib.hid hc1; clear hc1
  have HC2 := Lib.hid hc2; clear hc2
  by_cases hl : s1.length = s2.length
  rotate_left
  · rw [same_no1 (fun e => hl (by rw [e]))]
    have hli : ((s1.length : Int) == (s2.length : Int)) = false := by rw [beq_eq_false_iff_ne]; omega
    have hnb : ((s1.length : Int) != (s2.length : Int)) = true := by simp [bne, hli]
    clear hl
    go_enter Tryz.func50, Tryz.ntmps50
    go_wp2
    go_ret
    exact ⟨rfl, below2⟩
  by_cases hk : c1.length = c2.length
  rotate_left
  · rw [same_no2 (fun e => hk (by rw [e]))]
    have hli : ((s1.length : Int) == (s2.length : Int)) = true := by simp [hl]
    have hnb : ((s1.length : Int) != (s2.length : Int)) = false := by simp [bne, hli]
    have hki : ((c1.length : Int) == (c2.length : Int)) = false := by rw [beq_eq_false_iff_ne]; omega
    have hkb : ((c1.length : Int) != (c2.length : Int)) = true := by simp [bne, hki]
    clear hl hk
    go_enter Tryz.func50, Tryz.ntmps50
    go_wp2
    go_ret
    exact ⟨rfl, below2⟩
  have HL := Lib.hid hl
  have HK := Lib.hid hk
  have hli : ((s1.length : Int) == (s2.length : Int)) = true := by simp [hl]
  have hnb : ((s1.length : Int) != (s2.length : Int)) = false := by simp [bne, hli]
  have hki : ((c1.length : Int) == (c2.length : Int)) = true := by simp [hk]
  have hkb : ((c1.length : Int) != (c2.length : Int)) = false := by simp [bne, hki]
  clear hl hk
  cases h3 : (f1 == f2) with
  | false =>
    rw [same_no3 h3]
    have h3b : (f1 != f2) = true := by simp [bne, h3]
    go_enter Tryz.func50, Tryz.ntmps50
    go_wp2
    go_ret
    exact ⟨rfl, below2⟩
  | true =>
  have h3b : (f1 != f2) = false := by simp [bne, h3]
  cases h4 : (x1 == x2) with
  | false =>
    rw [same_no4 h4]
    have h4b : (x1 != x2) = true := by simp [bne, h4]
    go_enter Tryz.func50, Tryz.ntmps50
    go_wp2
    go_ret
    exact ⟨rfl, below2⟩
  | true =>
  have h4b : (x1 != x2) = false := by simp [bne, h4]
  have hn1 := @same_no1 s1 s2 c1 c2 f1 f2 x1 x2
  have hn2 := @same_no2 s1 s2 c1 c2 f1 f2 x1 x2
  have hy := fun e1 e2 => @same_yes s1 s2 c1 c2 f1 f2 x1 x2 e1 e2 h3 h4
  generalize sameB s1 s2 c1 c2 f1 f2 x1 x2 = r at *
  have HN1 := Lib.hid hn1; clear hn1
  have HN2 := Lib.hid hn2; clear hn2
  have HY := Lib.hid hy; clear hy
  go_enter Tryz.func50, Tryz.ntmps50
  go_wp2
  go_loopw [5] (fun i wr => ∃ k n : Nat, k ≤ s1.length ∧ i = .int .i64 k ∧ Hid (s1.take k = s2.take k) ∧ wr = ((w.alloc (.cells #[.slice A1 s1.length n1, .slice B1 c1.length m1, .int .i64 f1, .bool x1] 30)).alloc (.cells #[.slice A2 s2.length n2, .slice B2 c2.length m2, .int .i64 f2, .bool x2] 30)).drewN n) (fun i _ => s1.length - (intOf i).toNat)
  case atStart => exact ⟨0, 0, by omega, rfl, by simp [Hid], rfl⟩
  case round =>
    obtain ⟨k, n, hk, rfl, hp, rfl⟩ := hrel
    by_cases hlt : k < s1.length
    · have hlt2 : k < s2.length := by rw [← HL.out]; exact hlt
      obtain ⟨a1, rfl, hb1, hc1⟩ := HS1.out k s1[k] (List.getElem?_eq_getElem hlt)
      obtain ⟨a2, rfl, hb2, hc2⟩ := HS2.out k s2[k] (List.getElem?_eq_getElem hlt2)
      have hd1 := cell_past2 hc1
      have hd2 := cell_past2 hc2
      have hs := eq_take_step hlt hlt2 hp.out
      have hh := eq_take_no hlt hlt2
      have HS := Lib.hid hs; clear hs
      have HH := Lib.hid hh; clear hh
      clear hp hc1 hc2
      generalize s1[k] = x at *
      generalize s2[k] = y at *
      by_cases hxy : x = y
      · have he : (x.toList == y.toList) = true := by rw [text_eq, decide_eq_true hxy]
        have HX := Lib.hid hxy; clear hxy
        go_wp2
        go_quiet (fail)
        go_wp2
        go_roundw
        case rel => exact ⟨k + 1, _, by omega, by go_num, HS.out HX.out, rfl⟩
        case measure => simp [intOf]; omega
      · have he : (x.toList == y.toList) = false := by rw [text_eq, decide_eq_false hxy]
        have hne := HN1.out (HH.out hxy)
        have HN := Lib.hid hne; clear hne
        clear hxy HH HS
        go_wp2
        go_quiet (fail)
        go_wp2
        go_ret
        exact ⟨ret_bool HN.out.symm, ext_drewN (ext_drewN below2 _) _⟩
    · obtain rfl : k = s1.length := by omega
      have hq := eq_take_yes HL.out hp.out
      have HQ := Lib.hid hq; clear hq
      clear hp
      go_wp2
      go_loopw [6] (fun i wr => ∃ k n : Nat, k ≤ c1.length ∧ i = .int .i64 k ∧ Hid (c1.take k = c2.take k) ∧ wr = ((w.alloc (.cells #[.slice A1 s1.length n1, .slice B1 c1.length m1, .int .i64 f1, .bool x1] 30)).alloc (.cells #[.slice A2 s2.length n2, .slice B2 c2.length m2, .int .i64 f2, .bool x2] 30)).drewN n) (fun i _ => c1.length - (intOf i).toNat)
      case atStart => exact ⟨0, _, by omega, rfl, by simp [Hid], rfl⟩
      case round =>
        obtain ⟨k, n, hk, rfl, hp, rfl⟩ := hrel
        by_cases hlt : k < c1.length
        · have hlt2 : k < c2.length := by rw [← HK.out]; exact hlt
          obtain ⟨a1, rfl, hb1, hc1, hd1⟩ := HC1.out k c1[k] (List.getElem?_eq_getElem hlt)
          obtain ⟨a2, rfl, hb2, hc2, hd2⟩ := HC2.out k c2[k] (List.getElem?_eq_getElem hlt2)
          have he1 := cell_past2 hc1
          have he2 := cell_past2 hc2
          have hf1 := cell_past2 hd1
          have hf2 := cell_past2 hd2
          have hs := eq_take_step hlt hlt2 hp.out
          have hh := eq_take_no hlt hlt2
          have HS := Lib.hid hs; clear hs
          have HH := Lib.hid hh; clear hh
          clear hp hc1 hc2 hd1 hd2
          generalize c1[k] = x at *
          generalize c2[k] = y at *
          have hq := wr_neq x y
          by_cases hxy : x = y
          · rw [decide_eq_true hxy] at hq
            have HX := Lib.hid hxy; clear hxy
            go_wp2
            go_quiet (fail)
            go_wp2
            go_roundw
            case rel => exact ⟨k + 1, _, by omega, by go_num, HS.out HX.out, rfl⟩
            case measure => simp [intOf]; omega
          · rw [decide_eq_false hxy] at hq
            have hne := HN2.out (HH.out hxy)
            have HN := Lib.hid hne; clear hne
            clear hxy HH HS
            go_wp2
            go_quiet (fail)
            go_wp2
            go_ret
            exact ⟨ret_bool HN.out.symm, ext_drewN (ext_drewN below2 _) _⟩
        · obtain rfl : k = c1.length := by omega
          have hq := HY.out HQ.out (eq_take_yes HK.out hp.out)
          have HR := Lib.hid hq; clear hq
          clear hp
          go_wp2
          go_ret
          exact ⟨ret_bool HR.out.symm, ext_drewN below2 _⟩
end Go.Proofs.YtkjikigimmchlaaGreatDoor
