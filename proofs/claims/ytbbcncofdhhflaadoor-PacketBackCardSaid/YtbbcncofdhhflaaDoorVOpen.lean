/- How a vector, an array of three generations and a list of generations that come in are opened: each reads as numbers. No condition. -/
import Derived.Test.YtbbcncofdhhflaaDoorV1
import Derived.OpenShut
import Derived.ProofKit
import Derived.SliceStrings
import Derived.ChangeSlices
import Derived.Lib.SmallJoins
namespace Go.Proofs.YtbbcncofdhhflaaDoor
open Go.ChangeShapes Go.WideShapes Go.ChangeAt Go.RowKit

set_option maxRecDepth 100000

section
variable {H : Type} {enc : TypeId × Value → H} {W : World} {r : Reach} {base : Nat}

theorem open_u64 {fuel : Nat} {cs : List Value} {x : DataW H × List MemPlace} (h : DataW.trod enc Tryd.prog W 0 (fun _ => true) true fuel 22 cs = some x) :
    ∃ c : Int, cs = [.int .u64 c] ∧ 0 ≤ c ∧ c < 18446744073709551616 := by
  obtain ⟨c, rfl, _, wc⟩ := DataW.trod_int (k := .u64) Tryd.underlying22 h
  have := bounds_u64 wc
  exact ⟨c, rfl, by omega, by omega⟩

theorem cells22 : Tryd.prog.cellsOf 22 = 1 := by kernel_rfl
theorem cells23 : Tryd.prog.cellsOf 23 = 2 := by kernel_rfl
theorem cells25 : Tryd.prog.cellsOf 25 = 4 := by kernel_rfl

theorem open_two {fuel : Nat} {cs : List Value} {x : DataW H × List MemPlace} (h : DataW.trod enc Tryd.prog W 0 (fun _ => true) true fuel 23 cs = some x) :
    ∃ o p : Int, cs = [.int .u64 o, .int .u64 p] ∧ 0 ≤ o ∧ o < 18446744073709551616 ∧ 0 ≤ p ∧ p < 18446744073709551616 := by
  obtain ⟨xs, m, _, _, hlen, hl, hel⟩ := DataW.trod_array Tryd.underlying23 h
  rw [cells23] at hlen
  match xs, hl, cs, hlen with
  | [x0, x1], _, [c0, c1], _ =>
    have h0 := hel 0 (by omega)
    have h1 := hel 1 (by omega)
    rw [cells22] at h0 h1
    obtain ⟨o, e0, b0, b1⟩ := open_u64 (x := x0) (by simpa using h0)
    obtain ⟨p, e1, b2, b3⟩ := open_u64 (x := x1) (by simpa using h1)
    simp at e0 e1
    subst e0; subst e1
    exact ⟨o, p, rfl, b0, b1, b2, b3⟩

theorem open_vecL {fuel : Nat} {cs : List Value} {x : DataW H × List MemPlace} (h : DataW.trod enc Tryd.prog W 0 (fun _ => true) true fuel 25 cs = some x) :
    ∃ c b o p : Int, cs = [.int .u64 c, .int .u64 b, .int .u64 o, .int .u64 p] ∧ (0 ≤ c ∧ c < 18446744073709551616) ∧ (0 ≤ b ∧ b < 18446744073709551616) ∧ (0 ≤ o ∧ o < 18446744073709551616) ∧ 0 ≤ p ∧ p < 18446744073709551616 := by
  obtain ⟨xs, n, _, _, hlen, hl, hel⟩ := DataW.trod_struct Tryd.underlying25 h
  rw [cells25] at hlen
  match xs, hl, cs, hlen with
  | [x0, x1, x2], _, [c0, c1, c2, c3], _ =>
    have h0 : DataW.trod enc Tryd.prog W 0 (fun _ => true) true n 22 (List.take (Tryd.prog.cellsOf 22) [c0, c1, c2, c3]) = some x0 := hel 0 _ rfl
    have h1 : DataW.trod enc Tryd.prog W 0 (fun _ => true) true n 22 (List.take (Tryd.prog.cellsOf 22) [c1, c2, c3]) = some x1 := hel 1 _ rfl
    have h2 : DataW.trod enc Tryd.prog W 0 (fun _ => true) true n 23 (List.take (Tryd.prog.cellsOf 23) [c2, c3]) = some x2 := hel 2 _ rfl
    rw [cells22] at h0 h1
    rw [cells23] at h2
    obtain ⟨c, e0, b0⟩ := open_u64 (x := x0) (by simpa using h0)
    obtain ⟨b, e1, b1⟩ := open_u64 (x := x1) (by simpa using h1)
    obtain ⟨o, p, e2, b2, b3, b4⟩ := open_two (x := x2) (by simpa using h2)
    simp at e0 e1 e2
    obtain ⟨e2, e3⟩ := e2
    subst e0; subst e1; subst e2; subst e3
    exact ⟨c, b, o, p, rfl, b0, b1, ⟨b2, b3⟩, b4⟩

theorem open_vec {v : Value} {d : DataW H} {ps : List MemPlace} (hval : Value.okWide Tryd.prog W r base 25 v) (h : DataW.Trod enc Tryd.prog W 0 (fun _ => true) true 25 v d ps) :
    ∃ c b o p : Int, v = vecV c b o p ∧ (0 ≤ c ∧ c < 18446744073709551616) ∧ (0 ≤ b ∧ b < 18446744073709551616) ∧ (0 ≤ o ∧ o < 18446744073709551616) ∧ 0 ≤ p ∧ p < 18446744073709551616 := by
  obtain ⟨cs, rfl, _⟩ := okWide_struct Tryd.underlying25 hval
  obtain ⟨fuel, hf⟩ := h
  obtain ⟨c, b, o, p, e, hb⟩ := open_vecL hf
  obtain ⟨l⟩ := cs
  have e : l = [.int .u64 c, .int .u64 b, .int .u64 o, .int .u64 p] := by simpa [Value.cells] using e
  subst e
  exact ⟨c, b, o, p, rfl, hb⟩

theorem okWide_row {P : Program} {t e : TypeId} {n : Nat} {w : World} {v : Value} {r : Reach} {base : Nat} (ht : P.underlying t = some (.array n e)) (h : Value.okWide P w r base t v) : ∃ cs, v = .agg cs ∧ cs.size = P.cellsOf t := by
  simp only [Value.okWide, ht] at h
  obtain ⟨cs, h1, h2, _⟩ := h
  exact ⟨cs, h1, h2⟩

theorem open_es {v : Value} {d : DataW H} {ps : List MemPlace} {t e : TypeId} {k : IntKind} (ht : Tryd.prog.underlying t = some (.slice e)) (he : Tryd.prog.underlying e = some (.int k)) (hce : Tryd.prog.cellsOf e = 1)
    (hval : Value.okWide Tryd.prog W r base t v) (h : DataW.Trod enc Tryd.prog W 0 (fun _ => true) true t v d ps) :
    ∃ A c l, v = .slice A (l : List Int).length c ∧ (A = none → c = 0) ∧ Es (Value.int k) W W.heap.size A l ∧ ∀ x ∈ l, (Lit.int k x).wf = true := by
  obtain ⟨a0, len, cap, rfl⟩ := okWide_slice ht hval
  obtain ⟨fuel, hf⟩ := h
  rcases Go.ChangeShapes.open_ints ht he hce hf with ⟨hcs, hx⟩ | ⟨a, len', cap', zs, hcs, _, hl, hm, hzl, hx, hcell, hwf⟩
  · have e : (.slice a0 len cap : Value) = .slice none 0 0 := by simpa [Value.cells] using hcs
    injection e with e1 e2 e3
    subst e1; subst e2; subst e3
    exact ⟨none, 0, [], rfl, fun _ => rfl, es_nil _ _ _ _, by simp⟩
  · have e : (.slice a0 len cap : Value) = .slice (some a) len' cap' := by simpa [Value.cells] using hcs
    injection e with e1 e2 e3
    subst e1; subst e2; subst e3
    have hzl' : zs.length = cap := by simpa using hzl
    refine ⟨some a, cap, zs.take len, by rw [List.length_take, hzl', Nat.min_eq_left hl], (fun q => by cases q), ?_, fun x hx => hwf x (List.mem_of_mem_take hx)⟩
    intro j x hj
    obtain ⟨hjl, hjx⟩ := List.getElem?_eq_some_iff.1 hj
    rw [List.length_take, hzl', Nat.min_eq_left hl] at hjl
    have hc := hcell j (by omega)
    have hb := World.block_lt_of_cell? W (a.add j) hc
    rw [add_block] at hb
    refine ⟨a, rfl, hb, ?_⟩
    rw [hc]
    have : zs.getD j 0 = x := by
      rw [List.getElem_take] at hjx
      rw [List.getD, List.getElem?_eq_getElem (by omega), hjx]; rfl
    rw [this]
end
end Go.Proofs.YtbbcncofdhhflaaDoor
