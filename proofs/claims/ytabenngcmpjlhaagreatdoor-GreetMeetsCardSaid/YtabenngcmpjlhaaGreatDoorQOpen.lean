/- How a hello that comes in is opened: it reads as ten numbers. No condition. -/
import Derived.Test.YtabenngcmpjlhaaGreatDoorCO19
import Derived.Test.YtabenngcmpjlhaaGreatDoorQX
namespace Go.Proofs.YtabenngcmpjlhaaGreatDoor
open Go.ChangeShapes Go.WideShapes Go.ChangeAt Go.RowKit
set_option maxRecDepth 100000
section
variable {H : Type} {enc : TypeId × Value → H} {W : World} {r : Reach} {base : Nat}
theorem cells28 : Tryz.prog.cellsOf 37 = 1 := by kernel_rfl
theorem cells31 : Tryz.prog.cellsOf 41 = 10 := by kernel_rfl
theorem open_u32 {fuel : Nat} {cs : List Value} {x : DataW H × List MemPlace} (h : DataW.trod enc Tryz.prog W 0 (fun _ => true) true fuel 37 cs = some x) :
    ∃ m : Nat, cs = [.int .u32 (m : Int)] ∧ m < 4294967296 := by
  obtain ⟨c, rfl, _, wc⟩ := DataW.trod_int (k := .u32) Tryz.underlying37 h
  have hb := bounds_u32 wc
  obtain ⟨m, rfl⟩ := Int.eq_ofNat_of_zero_le hb.1
  exact ⟨m, rfl, by omega⟩
theorem open_helL {fuel : Nat} {cs : List Value} {x : DataW H × List MemPlace} (h : DataW.trod enc Tryz.prog W 0 (fun _ => true) true fuel 41 cs = some x) :
    ∃ s : Hel, cs = helC s ∧ s.wide := by
  obtain ⟨xs, n, _, _, hlen, hl, hel⟩ := DataW.trod_struct Tryz.underlying41 h
  rw [cells31] at hlen
  match xs, hl, cs, hlen with
  | [x0, x1, x2, x3, x4, x5, x6], _, [c0, c1, c2, c3, c4, c5, c6, c7, c8, c9], _ =>
    have h0 : DataW.trod enc Tryz.prog W 0 (fun _ => true) true n 3 (List.take (Tryz.prog.cellsOf 3) [c0, c1, c2, c3, c4, c5, c6, c7, c8, c9]) = some x0 := hel 0 _ rfl
    have h1 : DataW.trod enc Tryz.prog W 0 (fun _ => true) true n 34 (List.take (Tryz.prog.cellsOf 34) [c1, c2, c3, c4, c5, c6, c7, c8, c9]) = some x1 := hel 1 _ rfl
    have h2 : DataW.trod enc Tryz.prog W 0 (fun _ => true) true n 4 (List.take (Tryz.prog.cellsOf 4) [c5, c6, c7, c8, c9]) = some x2 := hel 2 _ rfl
    have h3 : DataW.trod enc Tryz.prog W 0 (fun _ => true) true n 4 (List.take (Tryz.prog.cellsOf 4) [c6, c7, c8, c9]) = some x3 := hel 3 _ rfl
    have h4 : DataW.trod enc Tryz.prog W 0 (fun _ => true) true n 4 (List.take (Tryz.prog.cellsOf 4) [c7, c8, c9]) = some x4 := hel 4 _ rfl
    have h5 : DataW.trod enc Tryz.prog W 0 (fun _ => true) true n 4 (List.take (Tryz.prog.cellsOf 4) [c8, c9]) = some x5 := hel 5 _ rfl
    have h6 : DataW.trod enc Tryz.prog W 0 (fun _ => true) true n 37 (List.take (Tryz.prog.cellsOf 37) [c9]) = some x6 := hel 6 _ rfl
    rw [cells3] at h0
    rw [cells25] at h1
    rw [cells4] at h2 h3 h4 h5
    rw [cells28] at h6
    obtain ⟨k, e0⟩ := open_i64 (x := x0) (by simpa using h0)
    obtain ⟨c, b, o, p, e1, b0, b1, b2, b3⟩ := open_vecL (x := x1) (by simpa using h1)
    obtain ⟨f2, e2⟩ := open_b (x := x2) (by simpa using h2)
    obtain ⟨f3, e3⟩ := open_b (x := x3) (by simpa using h3)
    obtain ⟨f4, e4⟩ := open_b (x := x4) (by simpa using h4)
    obtain ⟨f5, e5⟩ := open_b (x := x5) (by simpa using h5)
    obtain ⟨m, e6, b6⟩ := open_u32 (x := x6) (by simpa using h6)
    simp at e0 e1 e2 e3 e4 e5 e6
    obtain ⟨q1, q2, q3, q4⟩ := e1
    subst e0; subst q1; subst q2; subst q3; subst q4; subst e2; subst e3; subst e4; subst e5; subst e6
    exact ⟨⟨k, c, b, o, p, f2, f3, f4, f5, m⟩, rfl, b0, b1, b2, b3, b6⟩
theorem open_hel {v : Value} {d : DataW H} {ps : List MemPlace} (hval : Value.okWide Tryz.prog W r base 41 v) (h : DataW.Trod enc Tryz.prog W 0 (fun _ => true) true 41 v d ps) :
    ∃ s : Hel, v = helV s ∧ s.wide := by
  obtain ⟨cs, rfl, _⟩ := okWide_struct Tryz.underlying41 hval
  obtain ⟨fuel, hf⟩ := h
  obtain ⟨s, e, hb⟩ := open_helL hf
  obtain ⟨l⟩ := cs
  have e : l = helC s := by simpa [Value.cells] using e
  subst e
  exact ⟨s, rfl, hb⟩
end
end Go.Proofs.YtabenngcmpjlhaaGreatDoor
