/- Nodes: more of all that is known: a block more, a block less. No condition. -/
import Derived.Test.YtkjikigimmchlaaGreatDoorNI
namespace Go.Proofs.YtkjikigimmchlaaGreatDoor
open Go.RowKit
theorem All.fresh {w0 w : World} {Bs : List Bk} {Ns : List (Nod × Adr)} {Ds : List Dk} {Os : List Ol} (h : All w0 Bs Ns Ds Os w) : ∀ q ∈ Bs, q.1 ≠ w.heap.size := fun q hq e => by
  have := (h.box q hq).lt
  omega
section
variable {w0 w : World} {Bs : List Bk} {Ns : List (Nod × Adr)} {Ds : List Dk} {Os : List Ol} {x : Bk}
theorem All.parts (h : All w0 Bs Ns Ds Os w) {p r : Nat} {y z : Bk} (h1 : Bs[p]? = some y) (h2 : Bs[r]? = some z) (hlt : p < r) : y.1 ≠ z.1 := by
  obtain ⟨hp, e1⟩ := List.getElem?_eq_some_iff.1 h1
  obtain ⟨hr, e2⟩ := List.getElem?_eq_some_iff.1 h2
  have := List.pairwise_iff_getElem.1 h.ne p r (by simpa using hp) (by simpa using hr) hlt
  rw [List.getElem_map, List.getElem_map, e1, e2] at this
  exact this
end
section
variable {w0 w : World} {Bs : List Bk} {Ns : List (Nod × Adr)} {Ds : List Dk} {Os : List Ol} {x y z u v s t : Bk}
theorem All.b4 (h : All w0 (x :: y :: z :: u :: v :: Bs) Ns Ds Os w) : BoxT w v.1 v.2.1 v.2.2 := h.box v (by simp)
theorem All.b5 (h : All w0 (x :: y :: z :: u :: v :: s :: Bs) Ns Ds Os w) : BoxT w s.1 s.2.1 s.2.2 := h.box s (by simp)
end
end Go.Proofs.YtkjikigimmchlaaGreatDoor
