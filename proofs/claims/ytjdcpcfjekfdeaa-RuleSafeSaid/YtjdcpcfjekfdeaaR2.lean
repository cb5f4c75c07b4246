/- Great blocks of the call's own: a whole value stored into one, and a walk that is stopped where it is wanted. No condition. -/
import Derived.Test.YtjdcpcfjekfdeaaR1
import Derived.Deep.MidRow
namespace Go.Proofs.Ytjdcpcfjekfdeaa
open Go.RowKit

/-- The walk stops where a value of this type is stored. -/
theorem stop_store {P : Program} {ops : Array Oper} {Q : Exit → Act → World → Prop} {rest : List Oper} {a : Act} {w : World} {x y : Operand} {t : TypeId} {pos : String} {af : Array Edge} {g : Option (Nat × Bool)} (ty : TypeId)
    (h : Hid (wpList P ops Q ({ dst := none, op := .store ty x y, type := t, pos := pos, after := af, guard := g } :: rest) a w)) : wpList P ops Q ({ dst := none, op := .store ty x y, type := t, pos := pos, after := af, guard := g } :: rest) a w := h.out

/-- Cells written over others, from a place on. -/
def over : List Value → Nat → List Value → List Value
  | us, _, [] => us
  | us, o, v :: r => over (us.set o v) (o + 1) r

theorem Held.fill {W0 : World} {b : Nat} {L : List (Nat × List Value)} {M : List (Nat × Nat)} (hb : W0.heap.size ≤ b) (hL : ∀ x ∈ L, x.1 ≠ b) :
    ∀ (vs us : List Value) (o : Nat) (w : World), Held W0 ((b, us) :: L) M w → Held W0 ((b, over us o vs) :: L) M (w.setCells b o vs)
  | [], _, _, _, h => h
  | v :: r, us, o, w, h => by
    rw [World.setCells]
    exact Held.fill hb hL r (us.set o v) (o + 1) _ (h.cell0 hb hL o v)

theorem Box.there {w : World} {b : Nat} {us : List Value} (h : Box w b us) : w.there b 0 us.length := fun j hj => by
  rw [Nat.zero_add, h.cell j, List.getElem?_eq_getElem hj]
  exact ⟨rfl, h.frozen j⟩

end Go.Proofs.Ytjdcpcfjekfdeaa
