/- Regions that draw their order and store into blocks of their own: a block that was stored into has its cells from then on, through the rest of the region. No condition. -/
import Derived.Test.YtjdcpcfjekfdeaaR0
namespace Go.Proofs.Ytjdcpcfjekfdeaa
open Go.RowKit

theorem Held.fresh {W0 w : World} {L : List (Nat × List Value)} {M : List (Nat × Nat)} (h : Held W0 L M w) : ∀ y ∈ M, w.heap.size ≠ y.1 := fun y hy => by
  have := (h.owns y hy).lt
  omega

/-- A cell of the last known block is stored into, by itself. -/
theorem Held.cell0 {W0 w : World} {b : Nat} {vs : List Value} {L : List (Nat × List Value)} {M : List (Nat × Nat)} (h : Held W0 ((b, vs) :: L) M w) (hb : W0.heap.size ≤ b) (hL : ∀ x ∈ L, x.1 ≠ b) (j : Nat) (v : Value) : Held W0 ((b, vs.set j v) :: L) M (w.setCell ⟨b, j, none⟩ v) :=
  ⟨h.below.setCell (p := ⟨b, j, none⟩) hb v, Boxs.cons (h.boxs.hd.set j v) (fun x hx => (h.boxs.tl x hx).other (hL x hx) v), fun y hy => (h.owns y hy).set b j v, h.high, fun x hx y hy => by
    rcases List.mem_cons.1 hx with rfl | hx
    · exact h.apart (b, vs) (by simp) y hy
    · exact h.apart x (List.mem_cons_of_mem _ hx) y hy⟩

/-- Two of the known blocks, the other way round. -/
theorem Held.swap {W0 w : World} {x y : Nat × List Value} {L : List (Nat × List Value)} {M : List (Nat × Nat)} (h : Held W0 (x :: y :: L) M w) : Held W0 (y :: x :: L) M w :=
  ⟨h.below, Boxs.cons h.boxs.tl.hd (Boxs.cons h.boxs.hd h.boxs.tl.tl), h.owns, h.high, fun z hz q hq => by
    rcases List.mem_cons.1 hz with rfl | hz
    · exact h.apart _ (by simp) q hq
    · rcases List.mem_cons.1 hz with rfl | hz
      · exact h.apart _ (by simp) q hq
      · exact h.apart z (by simp [hz]) q hq⟩

section
variable {P : Program} {ops : Array Oper} {Q : Exit → Act → World → Prop} {md : Region.Mode}

theorem fixed {W0 w : World} {L : List (Nat × List Value)} {M M' : List (Nat × Nat)} {b n fuel : Nat} {vs : List Value} {listed : Array Bool} {a : Act} (h : Held W0 L M w) (hx : Box w b vs) (hl : vs.length = n)
    (hM : ∀ y ∈ M', b ≠ y.1) (hs : ∀ y ∈ M', y ∈ M) (hp : ∀ y ∈ M, y = (b, n) ∨ y ∈ M')
    (H : Held W0 ((b, vs) :: L) M' w → wpAnyH P md ops Q (Held W0 ((b, vs) :: L) M') fuel listed a w) : wpAnyH P md ops Q (Held W0 L M) fuel listed a w := by
  have back : ∀ v, Held W0 ((b, vs) :: L) M' v → Held W0 L M v := fun v g => ⟨g.below, g.boxs.tl, fun y hy => by
    rcases hp y hy with rfl | hy
    · exact ⟨vs, hl, g.boxs.hd⟩
    · exact g.owns y hy, h.high, h.apart⟩
  have here : Held W0 ((b, vs) :: L) M' w := ⟨h.below, Boxs.cons hx h.boxs, fun y hy => h.owns y (hs y hy), fun y hy => h.high y (hs y hy), fun x hx' y hy => by
    rcases List.mem_cons.1 hx' with rfl | hx'
    · exact hM y hy
    · exact h.apart x hx' y (hs y hy)⟩
  exact held_more back _ _ _ _ (H here)

/-- What is left over of the blocks that are stored into, one struck out. -/
theorem rest_one {b n : Nat} : ∀ y ∈ [(b, n)], y = (b, n) ∨ y ∈ ([] : List (Nat × Nat)) := fun _ hy => Or.inl (by simpa using hy)
theorem rest_fst {b n : Nat} {q : Nat × Nat} : ∀ y ∈ [(b, n), q], y = (b, n) ∨ y ∈ [q] := fun _ hy => List.mem_cons.1 hy
theorem rest_snd {b n : Nat} {q : Nat × Nat} : ∀ y ∈ [q, (b, n)], y = (b, n) ∨ y ∈ [q] := fun _ hy => by
  rcases List.mem_cons.1 hy with h | h
  · exact Or.inr (by simp [h])
  · exact Or.inl (by simpa using h)
end

end Go.Proofs.Ytjdcpcfjekfdeaa
