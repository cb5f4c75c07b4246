/- How a superblock that comes in is opened. No condition. -/
import Derived.Test.YtlhedleciiogcaaVOpen
import Derived.Test.YtlhedleciiogcaaSD
namespace Go.Proofs.Ytlhedleciiogcaa
open Go.ChangeShapes Go.WideShapes Go.ChangeAt Go.RowKit
set_option maxRecDepth 100000

section
variable {H : Type} {enc : TypeId × Value → H} {W : World} {r : Reach} {base : Nat}

theorem cells27 : Try.prog.cellsOf 27 = 8 := by kernel_rfl

theorem cells3 : Try.prog.cellsOf 3 = 1 := by kernel_rfl

theorem cells4 : Try.prog.cellsOf 4 = 1 := by kernel_rfl

theorem open_i64 {fuel : Nat} {cs : List Value} {x : DataW H × List MemPlace} (h : DataW.trod enc Try.prog W 0 (fun _ => true) true fuel 3 cs = some x) : ∃ c : Int, cs = [.int .i64 c] := by
  obtain ⟨c, rfl, _, wc⟩ := DataW.trod_int (k := .i64) Try.underlying3 h
  exact ⟨c, rfl⟩

theorem open_b {fuel : Nat} {cs : List Value} {x : DataW H × List MemPlace} (h : DataW.trod enc Try.prog W 0 (fun _ => true) true fuel 4 cs = some x) : ∃ c : Bool, cs = [.bool c] := by
  obtain ⟨c, rfl, _⟩ := DataW.trod_bool Try.underlying4 h
  exact ⟨c, rfl⟩

theorem open_sup {v : Value} {d : DataW H} {ps : List MemPlace} (hval : Value.okWide Try.prog W r base 27 v) (h : DataW.Trod enc Try.prog W 0 (fun _ => true) true 27 v d ps) :
    ∃ s : Sup, v = supV s ∧ s.wide := by
  obtain ⟨cs, rfl, _⟩ := okWide_struct Try.underlying27 hval
  obtain ⟨fuel, hf⟩ := h
  obtain ⟨l⟩ := cs
  obtain ⟨xs, n, _, _, hlen, hl, hel⟩ := DataW.trod_struct Try.underlying27 hf
  rw [cells27] at hlen
  simp only [Value.cells] at hlen hel
  match xs, hl, l, hlen with
  | [x0, x1, x2, x3, x4], _, [c0, c1, c2, c3, c4, c5, c6, c7], _ =>
    have h0 : DataW.trod enc Try.prog W 0 (fun _ => true) true n 3 (List.take (Try.prog.cellsOf 3) [c0, c1, c2, c3, c4, c5, c6, c7]) = some x0 := hel 0 _ rfl
    have h1 : DataW.trod enc Try.prog W 0 (fun _ => true) true n 25 (List.take (Try.prog.cellsOf 25) [c1, c2, c3, c4, c5, c6, c7]) = some x1 := hel 1 _ rfl
    have h2 : DataW.trod enc Try.prog W 0 (fun _ => true) true n 4 (List.take (Try.prog.cellsOf 4) [c5, c6, c7]) = some x2 := hel 2 _ rfl
    have h3 : DataW.trod enc Try.prog W 0 (fun _ => true) true n 4 (List.take (Try.prog.cellsOf 4) [c6, c7]) = some x3 := hel 3 _ rfl
    have h4 : DataW.trod enc Try.prog W 0 (fun _ => true) true n 4 (List.take (Try.prog.cellsOf 4) [c7]) = some x4 := hel 4 _ rfl
    rw [cells3] at h0
    rw [cells25] at h1
    rw [cells4] at h2 h3 h4
    obtain ⟨k, e0⟩ := open_i64 (x := x0) (by simpa using h0)
    obtain ⟨c, b, o, p, e1, b0, b1, b2, b3⟩ := open_vecL (x := x1) (by simpa using h1)
    obtain ⟨f2, e2⟩ := open_b (x := x2) (by simpa using h2)
    obtain ⟨f3, e3⟩ := open_b (x := x3) (by simpa using h3)
    obtain ⟨f4, e4⟩ := open_b (x := x4) (by simpa using h4)
    simp at e0 e1 e2 e3 e4
    obtain ⟨q1, q2, q3, q4⟩ := e1
    subst e0; subst q1; subst q2; subst q3; subst q4; subst e2; subst e3; subst e4
    exact ⟨⟨k, c, b, o, p, f2, f3, f4⟩, rfl, b0, b1, b2, b3⟩
end

end Go.Proofs.Ytlhedleciiogcaa
