/- How a verdict that comes in is opened: it reads as two numbers. No condition. -/
import Derived.Test.YtjdcpcfjekfdeaaQOpen
import Derived.Test.YtjdcpcfjekfdeaaRA
namespace Go.Proofs.Ytjdcpcfjekfdeaa
open Go.ChangeShapes Go.WideShapes Go.ChangeAt Go.RowKit
set_option maxRecDepth 100000

section
variable {H : Type} {enc : TypeId × Value → H} {W : World} {r : Reach} {base : Nat}

theorem cells32 : Try.prog.cellsOf 32 = 2 := by kernel_rfl

theorem open_ver {v : Value} {d : DataW H} {ps : List MemPlace} (hval : Value.okWide Try.prog W r base 32 v) (h : DataW.Trod enc Try.prog W 0 (fun _ => true) true 32 v d ps) :
    ∃ k s : Int, v = verV k s := by
  obtain ⟨cs, rfl, _⟩ := okWide_struct Try.underlying32 hval
  obtain ⟨fuel, hf⟩ := h
  obtain ⟨l⟩ := cs
  obtain ⟨xs, n, _, _, hlen, hl, hel⟩ := DataW.trod_struct Try.underlying32 hf
  rw [cells32] at hlen
  simp only [Value.cells] at hlen hel
  match xs, hl, l, hlen with
  | [x0, x1], _, [c0, c1], _ =>
    have h0 : DataW.trod enc Try.prog W 0 (fun _ => true) true n 3 (List.take (Try.prog.cellsOf 3) [c0, c1]) = some x0 := hel 0 _ rfl
    have h1 : DataW.trod enc Try.prog W 0 (fun _ => true) true n 3 (List.take (Try.prog.cellsOf 3) [c1]) = some x1 := hel 1 _ rfl
    rw [cells3] at h0 h1
    obtain ⟨k, e0⟩ := open_i64 (x := x0) (by simpa using h0)
    obtain ⟨s, e1⟩ := open_i64 (x := x1) (by simpa using h1)
    simp at e0 e1
    subst e0; subst e1
    exact ⟨k, s, rfl⟩

end

end Go.Proofs.Ytjdcpcfjekfdeaa
