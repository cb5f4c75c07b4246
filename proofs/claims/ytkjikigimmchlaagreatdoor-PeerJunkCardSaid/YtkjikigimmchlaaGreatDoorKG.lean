/- Disks in blocks of a call's own: their lists stay where a block that holds no text is stored into; what is held through a region that stores a disk; small facts of what a disk answers. No condition. -/
import Derived.Test.YtkjikigimmchlaaGreatDoorKA
import Derived.Test.YtkjikigimmchlaaGreatDoorPM
namespace Go.Proofs.YtkjikigimmchlaaGreatDoor
open Go.RowKit
def NoText (vs : List Value) : Prop := ∀ (i : Nat) (t : ByteArray), vs[i]? ≠ some (Value.string t)
theorem noText_four (A B : Option Addr) (n1 n2 m1 m2 : Nat) (f : Int) (x : Bool) : NoText [.slice A n1 n2, .slice B m1 m2, .int .i64 f, .bool x] := by
  intro i t h
  match i, h with
  | 0, h => simp at h
  | 1, h => simp at h
  | 2, h => simp at h
  | 3, h => simp at h
  | i + 4, h => simp at h
theorem NoText.set {vs : List Value} (h : NoText vs) (j : Nat) (v : Value) (hv : ∀ t, v ≠ .string t) : NoText (vs.set j v) := by
  intro i t e
  rw [List.getElem?_set] at e
  split at e
  · split at e
    · injection e with e
      exact hv t e
    · cases e
  · exact h i t e
theorem Es.set {w : World} {D b : Nat} {A : Option Addr} {l : List ByteArray} {vs : List Value} (h : Es Value.string w D A l) (hx : Box w b vs) (hv : NoText vs) (j : Nat) (v : Value) : Es Value.string (w.setCell ⟨b, j, none⟩ v) D A l := by
  intro k t hk
  obtain ⟨a, ha, hlt, hc⟩ := h k t hk
  refine ⟨a, ha, hlt, ?_⟩
  rw [World.cell?_setCell_other _ _ _ _ (fun e => hv j t (by rw [← hx.cell j, e]; exact hc))]
  exact hc
theorem Ws.set {w : World} {D b : Nat} {A : Option Addr} {l : List Wr} {vs : List Value} (h : Ws w D A l) (hx : Box w b vs) (hv : NoText vs) (j : Nat) (v : Value) : Ws (w.setCell ⟨b, j, none⟩ v) D A l := by
  intro k t hk
  obtain ⟨a, ha, hlt, h1, h2⟩ := h k t hk
  refine ⟨a, ha, hlt, ?_, ?_⟩
  · rw [World.cell?_setCell_other _ _ _ _ (fun e => hv (j + 1) t.2 (by rw [← hx.cell (j + 1), ← h2, ← e]))]
    exact h1
  · rw [World.cell?_setCell_other _ _ _ _ (fun e => hv j t.2 (by rw [← hx.cell j, e]; exact h2))]
    exact h2
theorem Mem.set {w : World} {A B : Option Addr} {n m b : Nat} {s : List ByteArray} {c : List Wr} {vs : List Value} (h : Mem w A n B m s c) (hx : Box w b vs) (hv : NoText vs) (j : Nat) (v : Value) : Mem (w.setCell ⟨b, j, none⟩ v) A n B m s c := by
  have hsz : (w.setCell ⟨b, j, none⟩ v).heap.size = w.heap.size := by simp
  exact ⟨by rw [hsz]; exact h.es.set hx hv j v, by rw [hsz]; exact h.ws.set hx hv j v, h.an, h.bn, h.ta.set _ _, h.tb.set _ _⟩
theorem Mem.four {w : World} {A B A0 B0 : Option Addr} {n m n1 n2 m1 m2 b : Nat} {s : List ByteArray} {c : List Wr} {f0 : Int} {x0 : Bool} (h : Mem w A n B m s c) (hx : Box w b [.slice A0 n1 n2, .slice B0 m1 m2, .int .i64 f0, .bool x0])
    (A1 B1 : Option Addr) (k1 k2 l1 l2 : Nat) (f1 : Int) (x1 : Bool) :
    Mem ((((w.setCell ⟨b, 0, none⟩ (.slice A1 k1 k2)).setCell ⟨b, 1, none⟩ (.slice B1 l1 l2)).setCell ⟨b, 2, none⟩ (.int .i64 f1)).setCell ⟨b, 3, none⟩ (.bool x1)) A n B m s c := by
  have v0 := noText_four A0 B0 n1 n2 m1 m2 f0 x0
  have v1 := v0.set 0 (.slice A1 k1 k2) (by intro t q; cases q)
  have v2 := v1.set 1 (.slice B1 l1 l2) (by intro t q; cases q)
  have v3 := v2.set 2 (.int .i64 f1) (by intro t q; cases q)
  exact (((h.set hx v0 0 _).set (hx.set 0 _) v1 1 _).set ((hx.set 0 _).set 1 _) v2 2 _).set (((hx.set 0 _).set 1 _).set 2 _) v3 3 _
structure Ans where
  s : List ByteArray
  c : List Wr
  f : Int
  x : Bool
  e : Int
theorem reach_dead (n : Nat) (i : Int) : reachE n i true = 6 := rfl
theorem reach_first {n : Nat} (h : 1 ≤ n) : reachE n 0 false = 0 := by
  unfold reachE
  rw [if_neg (by simp), if_neg (by omega), if_neg (by omega)]
theorem fit_more {n : Nat} {c : List Wr} {b : ByteArray} (h1 : 1 ≤ n) (hx : c.any (misfitW n) = false) (hb : b.size ≤ 64) : (c ++ [((0 : Int), b)]).any (misfitW n) = false := by
  rw [List.any_append, hx]
  have := misfit_no (n := n) (x := ((0 : Int), b)) (by show ¬ (0 : Int) < 0; omega) (by show ¬ (n : Int) ≤ 0; omega) (by show ¬ 64 < (b.size : Int); omega)
  simp [this]
abbrev e0 : ByteArray := ⟨#[]⟩
structure Kept (w : World) (b : Nat) (A : Option Addr) (n : Nat) (B : Option Addr) (m : Nat) (s : List ByteArray) (c : List Wr) (f : Int) (x : Bool) : Prop where
  mem : Mem w A n B m s c
  box : Box w b [.slice A s.length n, .slice B c.length m, .int .i64 f, .bool x]
theorem Kept.up {w w' : World} {b n m : Nat} {A B : Option Addr} {s : List ByteArray} {c : List Wr} {f : Int} {x : Bool} (h : Kept w b A n B m s c f x) (hb : Below w.heap.size w w') : Kept w' b A n B m s c f x := ⟨h.mem.up hb, h.box.below hb⟩
theorem Kept.new {w : World} {n m : Nat} {A B : Option Addr} {s : List ByteArray} {c : List Wr} {f : Int} {x : Bool} (h : Mem w A n B m s c) : Kept (w.alloc (.cells #[.slice A s.length n, .slice B c.length m, .int .i64 f, .bool x] 30)) w.heap.size A n B m s c f x :=
  ⟨h.up below1, Box.new w [.slice A s.length n, .slice B c.length m, .int .i64 f, .bool x] 30⟩
theorem Held.b5 {W0 w : World} {L : List (Nat × List Value)} {M : List (Nat × Nat)} {x0 x1 x2 x3 x4 x5 : Nat × List Value} (h : Held W0 (x0 :: x1 :: x2 :: x3 :: x4 :: x5 :: L) M w) : Box w x5.1 x5.2 := h.boxs.tl.tl.tl.tl.tl.hd
theorem misfit_small {n : Nat} {c : List Wr} (h : c.any (misfitW n) = false) : ∀ x ∈ c, x.2.size ≤ 64 := fun x hx => (fits h x hx).2.2
theorem long_small {s : List ByteArray} (h : s.any longS = false) : ∀ t ∈ s, t.size ≤ 64 := by
  intro t ht
  have := List.any_eq_false.1 h t ht
  unfold longS at this
  simp at this
  omega
theorem holds_small {c : List Wr} {i : Int} {t : ByteArray} (hc : ∀ x ∈ c, x.2.size ≤ 64) (ht : t.size ≤ 64) : (holdsL c i t).size ≤ 64 := by
  rcases holds_one c i t with h | ⟨x, hx, _, h⟩
  · rw [h]; exact ht
  · rw [← h]; exact hc x hx
theorem reach_in {n : Nat} {i : Int} (h0 : 0 ≤ i) (h : i < n) : reachE n i false = 0 := by
  unfold reachE
  rw [if_neg (by simp), if_neg (by omega), if_neg (by omega)]
theorem fit_add {n : Nat} {c : List Wr} {i : Int} {b : ByteArray} (h0 : 0 ≤ i) (h1 : i < n) (hx : c.any (misfitW n) = false) (hb : b.size ≤ 64) : (c ++ [(i, b)]).any (misfitW n) = false := by
  rw [List.any_append, hx]
  have := misfit_no (n := n) (x := (i, b)) (by show ¬ i < 0; omega) (by show ¬ (n : Int) ≤ i; omega) (by show ¬ 64 < (b.size : Int); omega)
  simp [this]
theorem Held.free {W0 w : World} {L : List (Nat × List Value)} {M : List (Nat × Nat)} {b n : Nat} {vs : List Value} (h : Held W0 ((b, vs) :: L) M w) (hb : W0.heap.size ≤ b) (hL : ∀ x ∈ L, x.1 ≠ b) (hn : vs.length = n) : Held W0 L ((b, n) :: M) w := by
  refine ⟨h.below, h.boxs.tl, fun y hy => ?_, fun y hy => ?_, fun x hx y hy => ?_⟩
  · rcases List.mem_cons.1 hy with rfl | hy
    · exact ⟨vs, hn, h.b0⟩
    · exact h.owns y hy
  · rcases List.mem_cons.1 hy with rfl | hy
    · exact hb
    · exact h.high y hy
  · rcases List.mem_cons.1 hy with rfl | hy
    · exact hL x hx
    · exact h.apart x (List.mem_cons_of_mem _ hx) y hy
section
variable {P : Program} {ops : Array Oper} {Q : Exit → Act → World → Prop}
theorem held_begin2 {W0 w : World} {x : Nat × List Value} {L : List (Nat × List Value)} {M : List (Nat × Nat)} {id : Nat} {a : Act} (hm : P.follows .mixedOrders = true) (h : Held W0 (x :: L) M w)
    (H : ∀ v, Held W0 (x :: L) M v → wpAnyH P .any ops Q (Held W0 L M) ops.size (Array.replicate ops.size false) a v) : (Code.region id ops true).wp P Q a w :=
  wp_region_held_drew hm h.drew.less (fun _ => H _ h.drew)
end
end Go.Proofs.YtkjikigimmchlaaGreatDoor
namespace Go.Proofs.YtkjikigimmchlaaGreatDoor
open Go.RowKit
theorem Box.grown {X Y : World} {row : Option Nat} {b : Nat} {vs : List Value} (h : Box X b vs) (hg : X.grownBy Y row) (hn : row ≠ some b) : Box Y b vs := by
  have hl := h.lt
  obtain ⟨t, h⟩ := h
  exact ⟨t, (hg.block b hl fun e => hn e.symm).trans h⟩
theorem Es.grown {X Y : World} {row : Option Nat} {A : Option Addr} {l : List ByteArray} (h : Es Value.string X X.heap.size A l) (hg : X.grownBy Y row) (hn : ∀ a, A = some a → row ≠ some a.block) : Es Value.string Y Y.heap.size A l := by
  intro j t hj
  obtain ⟨a, ha, hlt, hc⟩ := h j t hj
  refine ⟨a, ha, Nat.lt_of_lt_of_le hlt hg.size, ?_⟩
  rw [World.cell?_of_block (a := a.add j) (hg.block _ (by rw [add_block]; exact hlt) (by rw [add_block]; exact fun e => hn a ha e.symm))]
  exact hc
theorem held_start {P : Program} {ops : Array Oper} {Q : Exit → Act → World → Prop} {S : World → Prop} {w : World} {id : Nat} {a : Act} (hm : P.follows .mixedOrders = true) (hS : S w.drew)
    (H : ∀ v, Below w.heap.size w v → S v → wpAnyH P .any ops Q S ops.size (Array.replicate ops.size false) a v) : (Code.region id ops true).wp P Q a w :=
  wp_region_held_drew hm hS (fun h => H _ (Below.refl _ _).drew h)
theorem Held.grown {W0 w w' : World} {L : List (Nat × List Value)} {M : List (Nat × Nat)} {row : Option Nat} (h : Held W0 L M w) (hg : w.grownBy w' row) (h1 : ∀ g, row = some g → W0.heap.size ≤ g) (h2 : ∀ x ∈ L, row ≠ some x.1) (h3 : ∀ y ∈ M, row ≠ some y.1) : Held W0 L M w' :=
  ⟨h.below.grown hg h.below.size h1, fun x hx => (h.boxs x hx).grown hg (h2 x hx), fun y hy => by
    obtain ⟨vs, hl, hb⟩ := h.owns y hy
    exact ⟨vs, hl, hb.grown hg (h3 y hy)⟩, h.high, h.apart⟩
theorem own_cell0 {w : World} {base g n cap : Nat} {e : TypeId} {u : Value} {xs : List Value} (h : w.ownsRow base e 1 (.slice (some ⟨g, 0, none⟩) n cap) n (u :: xs)) : w.cell? ⟨g, 0, none⟩ = some u := by
  obtain ⟨A, c, hv, _, hc⟩ := own_slice h
  injection hv with q1 q2 q3
  obtain ⟨a, ha, _, hcell⟩ := hc 0 u rfl
  rw [← q1] at ha
  injection ha with ha
  subst ha
  have : (⟨g, 0, none⟩ : Addr).add 0 = ⟨g, 0, none⟩ := by unfold Addr.add; split <;> simp_all
  rw [this] at hcell
  exact hcell
theorem own_apart {w : World} {base n p : Nat} {e : TypeId} {v : Value} {t : ByteArray} {xs vs : List Value} {A : Option Addr} {a b : Nat} (h : w.ownsRow base e 1 v n (.string t :: xs)) (hx : Box w p (.slice A a b :: vs)) : ∀ g, v.ownBlock = some g → g ≠ p := by
  intro g hg e1
  subst e1
  obtain ⟨h0, h2 | ⟨g', cap, cur, rfl, r⟩⟩ := h
  · obtain ⟨rfl, rfl⟩ := h2
    simp [Value.ownBlock] at hg
  · simp [Value.ownBlock] at hg
    subst hg
    have q := own_cell0 (w := w) ⟨h0, Or.inr ⟨_, _, _, rfl, r⟩⟩
    rw [hx.cell 0] at q
    simp at q
theorem own_set_other {w : World} {base size n p : Nat} {e : TypeId} {v : Value} {xs : List Value} (h : w.ownsRow base e size v n xs) (hne : ∀ g, v.ownBlock = some g → g ≠ p) (j : Nat) (u : Value) : (w.setCell ⟨p, j, none⟩ u).ownsRow base e size v n xs := by
  obtain ⟨h1, h2⟩ := h
  refine ⟨h1, ?_⟩
  rcases h2 with h2 | ⟨g, cap, cur, hv, hg, hh, r⟩
  · exact Or.inl h2
  · have := hne g (by rw [hv]; rfl)
    exact Or.inr ⟨g, cap, cur, hv, hg, by rw [heap_setCell_other _ _ _ _ (by exact this)]; exact hh, r⟩
theorem own_set_other4 {w : World} {base size n p : Nat} {e : TypeId} {v : Value} {xs : List Value} (h : w.ownsRow base e size v n xs) (hne : ∀ g, v.ownBlock = some g → g ≠ p) (v0 v1 v2 v3 : Value) :
    ((((w.setCell ⟨p, 0, none⟩ v0).setCell ⟨p, 1, none⟩ v1).setCell ⟨p, 2, none⟩ v2).setCell ⟨p, 3, none⟩ v3).ownsRow base e size v n xs :=
  own_set_other (own_set_other (own_set_other (own_set_other h hne 0 v0) hne 1 v1) hne 2 v2) hne 3 v3
theorem own_two (w : World) (b y : ByteArray) : (w.alloc (.cells #[.string b, .string y] 9)).ownsRow w.heap.size 9 1 (.slice (some ⟨w.heap.size, 0, none⟩) 2 2) 2 [.string b, .string y] :=
  ⟨rfl, Or.inr ⟨w.heap.size, 2, _, rfl, Nat.le_refl _, heap_alloc_new w _, Nat.le_refl _, by decide, rfl, rfl⟩⟩
end Go.Proofs.YtkjikigimmchlaaGreatDoor
