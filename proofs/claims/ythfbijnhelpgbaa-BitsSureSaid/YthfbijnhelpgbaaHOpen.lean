/- How an array of two masks that comes in is opened: it reads as two numbers. No condition. -/
import Derived.Test.YthfbijnhelpgbaaBase
import Derived.OpenShut
import Derived.ProofKit
import Derived.ChangeSlices
import Derived.Lib.SmallJoins
namespace Go.Proofs.Ythfbijnhelpgbaa
open Go.ChangeShapes Go.WideShapes Go.ChangeAt Go.RowKit

set_option maxRecDepth 100000

section
variable {H : Type} {enc : TypeId × Value → H} {W : World} {r : Reach} {base : Nat}

theorem open_u32n {fuel : Nat} {cs : List Value} {x : DataW H × List MemPlace} (h : DataW.trod enc Try.prog W 0 (fun _ => true) true fuel 26 cs = some x) :
    ∃ c : Nat, cs = [.int .u32 (c : Nat)] ∧ c < 4294967296 := by
  obtain ⟨c, rfl, _, wc⟩ := DataW.trod_int (k := .u32) Try.underlying26 h
  have := bounds_u32 wc
  obtain ⟨k, rfl⟩ := Int.eq_ofNat_of_zero_le this.1
  exact ⟨k, rfl, by omega⟩

theorem cellsU32 : Try.prog.cellsOf 26 = 1 := by kernel_rfl
theorem cellsU32x2 : Try.prog.cellsOf 36 = 2 := by kernel_rfl

theorem open_masksL {fuel : Nat} {cs : List Value} {x : DataW H × List MemPlace} (h : DataW.trod enc Try.prog W 0 (fun _ => true) true fuel 36 cs = some x) :
    ∃ o p : Nat, cs = [.int .u32 (o : Nat), .int .u32 (p : Nat)] ∧ o < 4294967296 ∧ p < 4294967296 := by
  obtain ⟨xs, m, _, _, hlen, hl, hel⟩ := DataW.trod_array Try.underlying36 h
  rw [cellsU32x2] at hlen
  match xs, hl, cs, hlen with
  | [x0, x1], _, [c0, c1], _ =>
    have h0 := hel 0 (by omega)
    have h1 := hel 1 (by omega)
    rw [cellsU32] at h0 h1
    obtain ⟨o, e0, b0⟩ := open_u32n (x := x0) (by simpa using h0)
    obtain ⟨p, e1, b1⟩ := open_u32n (x := x1) (by simpa using h1)
    simp at e0 e1
    subst e0; subst e1
    exact ⟨o, p, rfl, b0, b1⟩

theorem open_masks {v : Value} {d : DataW H} {ps : List MemPlace} (hval : Value.okWide Try.prog W r base 36 v) (h : DataW.Trod enc Try.prog W 0 (fun _ => true) true 36 v d ps) :
    ∃ o p : Nat, v = .agg #[.int .u32 (o : Nat), .int .u32 (p : Nat)] ∧ o < 4294967296 ∧ p < 4294967296 := by
  have ht := Try.underlying36
  simp only [Value.okWide, ht] at hval
  obtain ⟨cs, rfl, _⟩ := hval
  obtain ⟨fuel, hf⟩ := h
  obtain ⟨o, p, e, hb⟩ := open_masksL hf
  obtain ⟨l⟩ := cs
  have e : l = [.int .u32 (o : Nat), .int .u32 (p : Nat)] := by simpa [Value.cells] using e
  subst e
  exact ⟨o, p, rfl, hb⟩
end
end Go.Proofs.Ythfbijnhelpgbaa
