/- How a packet that comes in is opened: it reads as fourteen cells. No condition. -/
import Derived.Test.YtbbcncofdhhflaaDoorQOpen
import Derived.Test.YtbbcncofdhhflaaDoorPK0
namespace Go.Proofs.YtbbcncofdhhflaaDoor
open Go.ChangeShapes Go.WideShapes Go.ChangeAt Go.RowKit
set_option maxRecDepth 100000

section
variable {H : Type} {enc : TypeId × Value → H} {W : World} {r : Reach} {base : Nat}

theorem pcells9 : Tryd.prog.cellsOf 9 = 1 := by kernel_rfl
theorem pcells30 : Tryd.prog.cellsOf 30 = 14 := by kernel_rfl

theorem open_pktL {fuel : Nat} {cs : List Value} {x : DataW H × List MemPlace} (h : DataW.trod enc Tryd.prog W 0 (fun _ => true) true fuel 30 cs = some x) :
    ∃ p : Pkt, cs = pktC p ∧ p.wide := by
  obtain ⟨xs, n, _, _, hlen, hl, hel⟩ := DataW.trod_struct Tryd.underlying30 h
  rw [pcells30] at hlen
  match xs, hl, cs, hlen with
  | [x0, x1, x2, x3, x4], _, [c0, c1, c2, c3, c4, c5, c6, c7, c8, c9, c10, c11, c12, c13], _ =>
    have h0 : DataW.trod enc Tryd.prog W 0 (fun _ => true) true n 3 (List.take (Tryd.prog.cellsOf 3) [c0, c1, c2, c3, c4, c5, c6, c7, c8, c9, c10, c11, c12, c13]) = some x0 := hel 0 _ rfl
    have h1 : DataW.trod enc Tryd.prog W 0 (fun _ => true) true n 22 (List.take (Tryd.prog.cellsOf 22) [c1, c2, c3, c4, c5, c6, c7, c8, c9, c10, c11, c12, c13]) = some x1 := hel 1 _ rfl
    have h2 : DataW.trod enc Tryd.prog W 0 (fun _ => true) true n 28 (List.take (Tryd.prog.cellsOf 28) [c2, c3, c4, c5, c6, c7, c8, c9, c10, c11, c12, c13]) = some x2 := hel 2 _ rfl
    have h3 : DataW.trod enc Tryd.prog W 0 (fun _ => true) true n 3 (List.take (Tryd.prog.cellsOf 3) [c12, c13]) = some x3 := hel 3 _ rfl
    have h4 : DataW.trod enc Tryd.prog W 0 (fun _ => true) true n 9 (List.take (Tryd.prog.cellsOf 9) [c13]) = some x4 := hel 4 _ rfl
    rw [cells3] at h0 h3
    rw [cells22] at h1
    rw [cells31] at h2
    rw [pcells9] at h4
    obtain ⟨k, e0⟩ := open_i64 (x := x0) (by simpa using h0)
    obtain ⟨s, e1, b1⟩ := open_u64 (x := x1) (by simpa using h1)
    obtain ⟨g, e2, b2⟩ := open_helL (x := x2) (by simpa using h2)
    obtain ⟨z, e3⟩ := open_i64 (x := x3) (by simpa using h3)
    obtain ⟨t, e4, _⟩ := DataW.trod_string (by kernel_rfl) (x := x4) (by simpa using h4)
    simp at e0 e1 e3 e4
    obtain ⟨rfl, rfl, rfl, rfl, rfl, rfl, rfl, rfl, rfl, rfl⟩ : c2 = .int .i64 g.n ∧ c3 = .int .u64 g.c ∧ c4 = .int .u64 g.b ∧ c5 = .int .u64 g.o ∧ c6 = .int .u64 g.p ∧ c7 = .bool g.i ∧ c8 = .bool g.r ∧ c9 = .bool g.d ∧ c10 = .bool g.q ∧ c11 = .int .u32 (g.m : Int) := by simpa using e2
    subst e0; subst e1; subst e3; subst e4
    exact ⟨⟨k, s, g, z, t⟩, rfl, b1, b2⟩

theorem open_pkt {v : Value} {d : DataW H} {ps : List MemPlace} (hval : Value.okWide Tryd.prog W r base 30 v) (h : DataW.Trod enc Tryd.prog W 0 (fun _ => true) true 30 v d ps) :
    ∃ p : Pkt, v = pktV p ∧ p.wide := by
  obtain ⟨cs, rfl, _⟩ := okWide_struct Tryd.underlying30 hval
  obtain ⟨fuel, hf⟩ := h
  obtain ⟨p, e, hb⟩ := open_pktL hf
  obtain ⟨l⟩ := cs
  have e : l = pktC p := by simpa [Value.cells] using e
  subst e
  exact ⟨p, rfl, hb⟩
end
end Go.Proofs.YtbbcncofdhhflaaDoor
