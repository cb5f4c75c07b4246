/- How a slice of bools that comes in is opened: nil or not, it reads as a list of bools. No condition. -/
import Derived.Test.YtdclahjcbnfneaaX7
import Derived.Test.YtdclahjcbnfneaaLaw
import Derived.Deep.Grids
namespace Go.Proofs.Ytdclahjcbnfneaa
open Go.ChangeShapes Go.WideShapes Go.ChangeAt Go.RowKit Go.Deep

theorem cells4 : Try.prog.cellsOf 4 = 1 := by kernel_rfl

theorem open_bs {H : Type} {enc : TypeId × Value → H} {W : World} {r : Reach} {base : Nat} {v : Value} {d : DataW H} {ps : List MemPlace} (hval : Value.okWide Try.prog W r base 32 v)
    (h : DataW.Trod enc Try.prog W 0 (fun _ => true) true 32 v d ps) : ∃ A c l, v = .slice A (l : List Bool).length c ∧ l.length ≤ c ∧ c ≤ maxLen ∧ Bs W W.heap.size A l := by
  obtain ⟨a0, len, cap, rfl⟩ := okWide_slice Try.underlying32 hval
  obtain ⟨fuel, hf⟩ := h
  rcases open_bools Try.underlying32 Try.underlying4 cells4 hf with ⟨hcs, hx⟩ | ⟨a, len', cap', B, hcs, _, hl, hm, hx, hcell⟩
  · have e : (.slice a0 len cap : Value) = .slice none 0 0 := by simpa [Value.cells] using hcs
    injection e with e1 e2 e3
    subst e1; subst e2; subst e3
    exact ⟨none, 0, [], rfl, by simp, by unfold maxLen; omega, bs_nil _ _ _⟩
  · have e : (.slice a0 len cap : Value) = .slice (some a) len' cap' := by simpa [Value.cells] using hcs
    injection e with e1 e2 e3
    subst e1; subst e2; subst e3
    refine ⟨some a, cap, (List.range len).map B, by simp, by simpa using hl, hm, ?_⟩
    intro k b hk
    simp only [List.getElem?_map, Option.map_eq_some_iff] at hk
    obtain ⟨j, hj, rfl⟩ := hk
    obtain ⟨hjl, rfl⟩ := List.getElem?_eq_some_iff.1 hj
    simp only [List.length_range] at hjl
    have hc := hcell k (by omega)
    have hb := World.block_lt_of_cell? W (a.add k) hc
    have he : (a.add k).block = a.block := by unfold Addr.add; split <;> rfl
    rw [he] at hb
    exact ⟨a, rfl, hb, by simpa using hc⟩
end Go.Proofs.Ytdclahjcbnfneaa
