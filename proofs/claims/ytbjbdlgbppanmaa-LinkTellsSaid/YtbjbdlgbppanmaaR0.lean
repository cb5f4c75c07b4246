/- Regions that draw their order and lay blocks: what is held through one, and how what is held grows by each block that is laid. No condition. -/
import Derived.Test.YtbjbdlgbppanmaaBase
import Derived.Deep.RegionHeld3
namespace Go.Proofs.Ytbjbdlgbppanmaa
open Go.RowKit

/-- A block of the call's own with so many cells, whatever they hold. -/
def Own (w : World) (b n : Nat) : Prop := ∃ vs : List Value, vs.length = n ∧ Box w b vs

theorem Own.below {w w' : World} {b n : Nat} (h : Own w b n) (hb : Below w.heap.size w w') : Own w' b n := by
  obtain ⟨vs, hl, hx⟩ := h
  exact ⟨vs, hl, hx.below hb⟩

theorem Own.lt {w : World} {b n : Nat} (h : Own w b n) : b < w.heap.size := by
  obtain ⟨vs, _, hx⟩ := h
  exact hx.lt

theorem Own.set {w : World} {b n : Nat} (h : Own w b n) (g j : Nat) (v : Value) : Own (w.setCell ⟨g, j, none⟩ v) b n := by
  obtain ⟨vs, hl, hx⟩ := h
  by_cases e : g = b
  · subst e
    exact ⟨vs.set j v, by rw [List.length_set]; exact hl, hx.set j v⟩
  · exact ⟨vs, hl, hx.other (fun q => e q.symm) v⟩

/-- What lies as it did below W0, the blocks of the call's own whose cells are known, and those that are stored into. -/
structure Held (W0 : World) (L : List (Nat × List Value)) (M : List (Nat × Nat)) (w : World) : Prop where
  below : Below W0.heap.size W0 w
  boxs : Boxs w L
  owns : ∀ y ∈ M, Own w y.1 y.2
  high : ∀ y ∈ M, W0.heap.size ≤ y.1
  apart : ∀ x ∈ L, ∀ y ∈ M, x.1 ≠ y.1

theorem Held.refl (w : World) : Held w [] [] w := ⟨Below.refl _ _, Boxs.nil w, by simp, by simp, by simp⟩

section
variable {W0 w w' : World} {L : List (Nat × List Value)} {M : List (Nat × Nat)}

theorem Held.up (h : Held W0 L M w) (hb : Below w.heap.size w w') : Held W0 L M w' := ⟨ext h.below hb, h.boxs.up hb, fun y hy => (h.owns y hy).below hb, h.high, h.apart⟩

theorem Held.drew (h : Held W0 L M w) : Held W0 L M w.drew := h.up (Below.refl _ _).drew

theorem Held.alloc (h : Held W0 L M w) (o : Obj) : Held W0 L M (w.alloc o) := h.up below1

/-- A block that is laid, its cells known. -/
theorem Held.lay (h : Held W0 L M w) (vs : List Value) (t : TypeId) : Held W0 ((w.heap.size, vs) :: L) M (w.alloc (.cells vs.toArray t)) := by
  refine ⟨(h.alloc _).below, h.boxs.lay vs t, (h.alloc _).owns, h.high, fun x hx y hy => ?_⟩
  rcases List.mem_cons.1 hx with rfl | hx
  · have := (h.owns y hy).lt
    dsimp only
    omega
  · exact h.apart x hx y hy

/-- A block that is laid, to be stored into. -/
theorem Held.own (h : Held W0 L M w) (vs : List Value) (t : TypeId) {n : Nat} (hn : vs.length = n) : Held W0 L ((w.heap.size, n) :: M) (w.alloc (.cells vs.toArray t)) := by
  refine ⟨(h.alloc _).below, (h.alloc _).boxs, fun y hy => ?_, fun y hy => ?_, fun x hx y hy => ?_⟩
  · rcases List.mem_cons.1 hy with rfl | hy
    · exact ⟨vs, hn, Box.new _ _ _⟩
    · exact (h.alloc _).owns y hy
  · rcases List.mem_cons.1 hy with rfl | hy
    · exact h.below.size
    · exact h.high y hy
  · rcases List.mem_cons.1 hy with rfl | hy
    · have := (h.boxs x hx).lt
      dsimp only
      omega
    · exact h.apart x hx y hy

/-- A cell of a block that is stored into. -/
theorem Held.set (h : Held W0 L M w) {b : Nat} (hb : ∃ n, (b, n) ∈ M) (j : Nat) (v : Value) : Held W0 L M (w.setCell ⟨b, j, none⟩ v) := by
  obtain ⟨n, hn⟩ := hb
  refine ⟨h.below.setCell (p := ⟨b, j, none⟩) (h.high _ hn) v, fun x hx => ?_, fun y hy => (h.owns y hy).set b j v, h.high, h.apart⟩
  exact (h.boxs x hx).other (h.apart x hx _ hn) v

/-- A block is forgotten. -/
theorem Held.less {x : Nat × List Value} (h : Held W0 (x :: L) M w) : Held W0 L M w := ⟨h.below, h.boxs.tl, h.owns, h.high, fun y hy => h.apart y (List.mem_cons_of_mem _ hy)⟩
theorem Held.done {y : Nat × Nat} (h : Held W0 L (y :: M) w) : Held W0 L M w := ⟨h.below, h.boxs, fun x hx => h.owns x (List.mem_cons_of_mem _ hx), fun x hx => h.high x (List.mem_cons_of_mem _ hx), fun x hx z hz => h.apart x hx z (List.mem_cons_of_mem _ hz)⟩
/-- A block that was stored into has its cells from now on. -/
theorem Held.fix {b n : Nat} {vs : List Value} (h : Held W0 L ((b, n) :: M) w) (hx : Box w b vs) (hM : ∀ y ∈ M, b ≠ y.1) : Held W0 ((b, vs) :: L) M w :=
  ⟨h.below, Boxs.cons hx h.boxs, h.done.owns, h.done.high, fun x hx' y hy => by
    rcases List.mem_cons.1 hx' with rfl | hx'
    · exact hM y hy
    · exact h.done.apart x hx' y hy⟩

theorem Held.b0 {x0 : Nat × List Value} (h : Held W0 (x0 :: L) M w) : Box w x0.1 x0.2 := h.boxs.hd
theorem Held.b1 {x0 x1 : Nat × List Value} (h : Held W0 (x0 :: x1 :: L) M w) : Box w x1.1 x1.2 := h.boxs.tl.hd
theorem Held.b2 {x0 x1 x2 : Nat × List Value} (h : Held W0 (x0 :: x1 :: x2 :: L) M w) : Box w x2.1 x2.2 := h.boxs.tl.tl.hd
theorem Held.b3 {x0 x1 x2 x3 : Nat × List Value} (h : Held W0 (x0 :: x1 :: x2 :: x3 :: L) M w) : Box w x3.1 x3.2 := h.boxs.tl.tl.tl.hd
theorem Held.b4 {x0 x1 x2 x3 x4 : Nat × List Value} (h : Held W0 (x0 :: x1 :: x2 :: x3 :: x4 :: L) M w) : Box w x4.1 x4.2 := h.boxs.tl.tl.tl.tl.hd
theorem Held.o0 {y0 : Nat × Nat} (h : Held W0 L (y0 :: M) w) : Own w y0.1 y0.2 := h.owns _ (by simp)
theorem Held.o1 {y0 y1 : Nat × Nat} (h : Held W0 L (y0 :: y1 :: M) w) : Own w y1.1 y1.2 := h.owns _ (by simp)
end

theorem Own.four {w : World} {b : Nat} (h : Own w b 4) : ∃ u0 u1 u2 u3, Box w b [u0, u1, u2, u3] := by
  obtain ⟨vs, hl, hx⟩ := h
  match vs, hl with
  | [u0, u1, u2, u3], _ => exact ⟨_, _, _, _, hx⟩
theorem Own.eight {w : World} {b : Nat} (h : Own w b 8) : ∃ u0 u1 u2 u3 u4 u5 u6 u7, Box w b [u0, u1, u2, u3, u4, u5, u6, u7] := by
  obtain ⟨vs, hl, hx⟩ := h
  match vs, hl with
  | [u0, u1, u2, u3, u4, u5, u6, u7], _ => exact ⟨_, _, _, _, _, _, _, _, hx⟩

theorem Box.eight {w : World} {b : Nat} {u0 u1 u2 u3 u4 u5 u6 u7 : Value} (h : Box w b [u0, u1, u2, u3, u4, u5, u6, u7]) (v0 v1 v2 v3 v4 v5 v6 v7 : Value) : Box ((((((((w.setCell ⟨b, 0, none⟩ v0).setCell ⟨b, 1, none⟩ v1).setCell ⟨b, 2, none⟩ v2).setCell ⟨b, 3, none⟩ v3).setCell ⟨b, 4, none⟩ v4).setCell ⟨b, 5, none⟩ v5).setCell ⟨b, 6, none⟩ v6).setCell ⟨b, 7, none⟩ v7) b [v0, v1, v2, v3, v4, v5, v6, v7] := ((((((((h.set 0 v0).set 1 v1).set 2 v2).set 3 v3).set 4 v4).set 5 v5).set 6 v6).set 7 v7)

theorem Held.set1 {W0 w : World} {L : List (Nat × List Value)} {M : List (Nat × Nat)} {b : Nat} (h : Held W0 L M w) (hb : ∃ n, (b, n) ∈ M) (v0 : Value) : Held W0 L M (w.setCell ⟨b, 0, none⟩ v0) := (h.set hb 0 v0)

theorem Held.set4 {W0 w : World} {L : List (Nat × List Value)} {M : List (Nat × Nat)} {b : Nat} (h : Held W0 L M w) (hb : ∃ n, (b, n) ∈ M) (v0 v1 v2 v3 : Value) : Held W0 L M ((((w.setCell ⟨b, 0, none⟩ v0).setCell ⟨b, 1, none⟩ v1).setCell ⟨b, 2, none⟩ v2).setCell ⟨b, 3, none⟩ v3) := ((((h.set hb 0 v0).set hb 1 v1).set hb 2 v2).set hb 3 v3)

theorem Held.set8 {W0 w : World} {L : List (Nat × List Value)} {M : List (Nat × Nat)} {b : Nat} (h : Held W0 L M w) (hb : ∃ n, (b, n) ∈ M) (v0 v1 v2 v3 v4 v5 v6 v7 : Value) : Held W0 L M ((((((((w.setCell ⟨b, 0, none⟩ v0).setCell ⟨b, 1, none⟩ v1).setCell ⟨b, 2, none⟩ v2).setCell ⟨b, 3, none⟩ v3).setCell ⟨b, 4, none⟩ v4).setCell ⟨b, 5, none⟩ v5).setCell ⟨b, 6, none⟩ v6).setCell ⟨b, 7, none⟩ v7) := ((((((((h.set hb 0 v0).set hb 1 v1).set hb 2 v2).set hb 3 v3).set hb 4 v4).set hb 5 v5).set hb 6 v6).set hb 7 v7)

section
variable {P : Program} {ops : Array Oper} {Q : Exit → Act → World → Prop} {md : Region.Mode} {S T : World → Prop}

/-- What holds behind each operation may be said to be more. -/
theorem held_more (h : ∀ w, T w → S w) : ∀ (fuel : Nat) (listed : Array Bool) (a : Act) (w : World), wpAnyH P md ops Q T fuel listed a w → wpAnyH P md ops Q S fuel listed a w
  | 0, _, _, _, H => H
  | fuel + 1, _, _, _, H => ⟨H.1, fun i hi => wpOp_mono (fun a' w' h' => ⟨h w' h'.1, held_more h fuel _ a' w' h'.2⟩) (H.2 i hi)⟩

theorem laid_box {W0 w : World} {L : List (Nat × List Value)} {M : List (Nat × Nat)} {vs : List Value} {t : TypeId} {fuel : Nat} {listed : Array Bool} {a : Act} (h : Held W0 L M w)
    (H : ∀ v, Held W0 ((w.heap.size, vs) :: L) M v → wpAnyH P md ops Q (Held W0 ((w.heap.size, vs) :: L) M) fuel listed a v) : wpAnyH P md ops Q (Held W0 L M) fuel listed a (w.alloc (.cells vs.toArray t)) :=
  held_more (fun _ h => h.less) _ _ _ _ (H _ (h.lay vs t))

theorem laid_own {W0 w : World} {L : List (Nat × List Value)} {M : List (Nat × Nat)} {vs : List Value} {t : TypeId} {fuel n : Nat} {listed : Array Bool} {a : Act} (h : Held W0 L M w) (hn : vs.length = n)
    (H : ∀ v, Held W0 L ((w.heap.size, n) :: M) v → wpAnyH P md ops Q (Held W0 L ((w.heap.size, n) :: M)) fuel listed a v) : wpAnyH P md ops Q (Held W0 L M) fuel listed a (w.alloc (.cells vs.toArray t)) :=
  held_more (fun _ h => h.done) _ _ _ _ (H _ (h.own vs t hn))

/-- A block is stored into, whole. -/
theorem stored1 {W0 w : World} {L : List (Nat × List Value)} {M : List (Nat × Nat)} {b fuel : Nat} {listed : Array Bool} {a : Act} {u0 v0 : Value} (h : Held W0 L M w) (hb : ∃ n, (b, n) ∈ M) (hx : Box w b [u0])
    (H : ∀ v, Held W0 L M v → Box v b [v0] → wpAnyH P md ops Q (Held W0 L M) fuel listed a v) : wpAnyH P md ops Q (Held W0 L M) fuel listed a (w.setCell ⟨b, 0, none⟩ v0) :=
  H _ (h.set hb 0 v0) (hx.set 0 v0)

theorem stored4 {W0 w : World} {L : List (Nat × List Value)} {M : List (Nat × Nat)} {b fuel : Nat} {listed : Array Bool} {a : Act} {u0 u1 u2 u3 v0 v1 v2 v3 : Value} (h : Held W0 L M w) (hb : ∃ n, (b, n) ∈ M) (hx : Box w b [u0, u1, u2, u3])
    (H : ∀ v, Held W0 L M v → Box v b [v0, v1, v2, v3] → wpAnyH P md ops Q (Held W0 L M) fuel listed a v) : wpAnyH P md ops Q (Held W0 L M) fuel listed a ((((w.setCell ⟨b, 0, none⟩ v0).setCell ⟨b, 1, none⟩ v1).setCell ⟨b, 2, none⟩ v2).setCell ⟨b, 3, none⟩ v3) :=
  H _ ((((h.set hb 0 v0).set hb 1 v1).set hb 2 v2).set hb 3 v3) ((((hx.set 0 v0).set 1 v1).set 2 v2).set 3 v3)

theorem stored8 {W0 w : World} {L : List (Nat × List Value)} {M : List (Nat × Nat)} {b fuel : Nat} {listed : Array Bool} {a : Act} {u0 u1 u2 u3 u4 u5 u6 u7 v0 v1 v2 v3 v4 v5 v6 v7 : Value} (h : Held W0 L M w) (hb : ∃ n, (b, n) ∈ M) (hx : Box w b [u0, u1, u2, u3, u4, u5, u6, u7])
    (H : ∀ v, Held W0 L M v → Box v b [v0, v1, v2, v3, v4, v5, v6, v7] → wpAnyH P md ops Q (Held W0 L M) fuel listed a v) : wpAnyH P md ops Q (Held W0 L M) fuel listed a ((((((((w.setCell ⟨b, 0, none⟩ v0).setCell ⟨b, 1, none⟩ v1).setCell ⟨b, 2, none⟩ v2).setCell ⟨b, 3, none⟩ v3).setCell ⟨b, 4, none⟩ v4).setCell ⟨b, 5, none⟩ v5).setCell ⟨b, 6, none⟩ v6).setCell ⟨b, 7, none⟩ v7) :=
  H _ ((((((((h.set hb 0 v0).set hb 1 v1).set hb 2 v2).set hb 3 v3).set hb 4 v4).set hb 5 v5).set hb 6 v6).set hb 7 v7) ((((((((hx.set 0 v0).set 1 v1).set 2 v2).set 3 v3).set 4 v4).set 5 v5).set 6 v6).set 7 v7)

/-- The beginning: the drawn world under a name of its own. -/
theorem held_begin {W0 w : World} {L : List (Nat × List Value)} {M : List (Nat × Nat)} {id : Nat} {a : Act} (hm : P.follows .mixedOrders = true) (h : Held W0 L M w)
    (H : ∀ v, Held W0 L M v → wpAnyH P .any ops Q (Held W0 L M) ops.size (Array.replicate ops.size false) a v) : (Code.region id ops true).wp P Q a w :=
  wp_region_held_drew hm h.drew (fun hS => H _ hS)
end
end Go.Proofs.Ytbjbdlgbppanmaa
