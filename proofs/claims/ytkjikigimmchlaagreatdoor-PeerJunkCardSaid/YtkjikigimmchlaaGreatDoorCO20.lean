/- How a case that comes in (how many blocks, a row of events, a side) is opened: the row, nil or not, reads as a list of events. No condition. -/
import Derived.OpenShut
import Derived.ProofKit
import Derived.SliceStrings
import Derived.ChangeSlices
import Derived.Lib.SmallJoins
import Derived.LaidLaws
import Derived.LaidHandle
import Derived.LaidSub
import Derived.MakeChecks
import Derived.Stop.LaidErr
import Derived.LaidMore
import Derived.Stop.Joined
import Derived.Deep.SlicePairs
import Derived.Deep.Grids
import Derived.Below
import Derived.Test.YtkjikigimmchlaaGreatDoorKA
import Derived.Test.YtkjikigimmchlaaGreatDoorS7d
import Derived.Test.YtkjikigimmchlaaGreatDoorG3
import Derived.Test.YtkjikigimmchlaaGreatDoorKF
import Derived.Test.YtkjikigimmchlaaGreatDoorXI
namespace Go.Proofs.YtkjikigimmchlaaGreatDoor
open Go.ChangeShapes Go.WideShapes Go.ChangeAt Go.RowKit
set_option maxRecDepth 100000
end Go.Proofs.YtkjikigimmchlaaGreatDoor
namespace Go.Proofs.YtkjikigimmchlaaGreatDoor
open Go.ChangeShapes Go.WideShapes Go.ChangeAt Go.RowKit
set_option maxRecDepth 100000
section
variable {H : Type} {enc : TypeId × Value → H} {W : World} {r : Reach} {base : Nat}
theorem open_i64 {fuel : Nat} {cs : List Value} {x : DataW H × List MemPlace} (h : DataW.trod enc Tryz.prog W 0 (fun _ => true) true fuel 3 cs = some x) : ∃ c : Int, cs = [.int .i64 c] := by
  obtain ⟨c, rfl, _, wc⟩ := DataW.trod_int (k := .i64) Tryz.underlying3 h
  exact ⟨c, rfl⟩
theorem open_b {fuel : Nat} {cs : List Value} {x : DataW H × List MemPlace} (h : DataW.trod enc Tryz.prog W 0 (fun _ => true) true fuel 4 cs = some x) : ∃ c : Bool, cs = [.bool c] := by
  obtain ⟨c, rfl, _⟩ := DataW.trod_bool Tryz.underlying4 h
  exact ⟨c, rfl⟩
end
end Go.Proofs.YtkjikigimmchlaaGreatDoor
namespace Go.Proofs.YtkjikigimmchlaaGreatDoor
open Go.ChangeShapes Go.WideShapes Go.ChangeAt Go.RowKit
set_option maxRecDepth 100000
end Go.Proofs.YtkjikigimmchlaaGreatDoor
namespace Go.Proofs.YtkjikigimmchlaaGreatDoor
open Go.ChangeShapes Go.WideShapes Go.ChangeAt Go.RowKit
end Go.Proofs.YtkjikigimmchlaaGreatDoor
namespace Go.Proofs.YtkjikigimmchlaaGreatDoor
open Go.ChangeShapes Go.WideShapes Go.ChangeAt Go.RowKit Go.WideElems
section
variable {H : Type} {enc : TypeId × Value → H} {P : Program}
theorem all_stay (hl : laidOutB P = true) {W W' : World} {sp : Nat → Bool} : ∀ {ts : List TypeId} {vs : List Value} {ds : List (DataW H)} {ps : List MemPlace},
    (∀ t ∈ ts, P.readableRec t = true ∧ t < P.types.size) → DataW.TrodAll enc P W 0 (fun _ => true) true ts vs ds ps →
    (∀ p ∈ ps, W.sameAt W' p) → (∀ p ∈ ps, sp p.block = true) → DataW.TrodAll enc P W' 0 sp true ts vs ds ps
  | [], _, _, _, _, h, _, _ => by
    obtain ⟨rfl, rfl, rfl⟩ := trodAll_nil h
    exact h
  | t :: ts, _, _, _, ht, h, hs, hp => by
    obtain ⟨v, vs1, d, ds1, a, b, rfl, rfl, rfl, h1, h2⟩ := trodAll_cons h
    have hr := ht t (by simp)
    exact ⟨a, b, Trod_stays hl hr.1 hr.2 h1 (fun p q => hs p (by simp [q])) (fun p q => hp p (by simp [q])),
      all_stay hl (fun t q => ht t (by simp [q])) h2 (fun p q => hs p (by simp [q])) (fun p q => hp p (by simp [q])), rfl⟩
theorem law_post {f : Func} {s : ChangeSpec} {W W' : World} {args : Array Value} {ds gs : List (DataW H)} {before : List MemPlace} {tb : TypeId}
    (hl : laidOutB P = true) (ht : (f.params.toList.all fun t => P.readableRec t && decide (t < P.types.size)) = true) (hv : s.vars = []) (hr : f.resultTypes = #[tb]) (htb : P.underlying tb = some .bool)
    (hW : DataW.Whole enc P f.params.toList s.vars false W args.toList ds gs before)
    (hs : s.fn H (ds ++ gs) = { results := [.lit (.bool true)], args := ds }) (hb : Below W.heap.size W W') :
    s.post enc P f false true false false W args (.bool true) W' := by
  have hW' := hW
  have hlt : ∀ p ∈ before, p.block < W.heap.size := fun p hp => hW.lt p hp
  obtain ⟨p, q, hA, hV, rfl, _, _⟩ := hW
  rw [hv] at hV
  obtain ⟨rfl, rfl⟩ := trodVars_none hV
  refine ⟨ds, [], p ++ [], [], p, [], hW', ?_, ?_, ?_, hb.frame _, fun h => by cases h⟩
  · rw [hs, hr]
    exact trodAll_mk1 (shut_bool htb true)
  · rw [hs]
    refine all_stay hl (fun t h => ?_) hA (fun x hx => hb.same (hlt x (by simp [hx]))) (fun x hx => by simpa using hlt x (by simp [hx]))
    have := List.all_eq_true.1 ht t h
    simpa using this
  · rw [hs, hv]
    rfl
end
end Go.Proofs.YtkjikigimmchlaaGreatDoor
namespace Go.Proofs.YtkjikigimmchlaaGreatDoor
open Go.ChangeShapes Go.WideShapes Go.ChangeAt Go.RowKit
set_option maxRecDepth 100000
section
variable {H : Type} {enc : TypeId × Value → H} {W : World} {r : Reach} {base : Nat}
theorem ecells_i : Tryz.prog.cellsOf 3 = 1 := by kernel_rfl
theorem ecells_s : Tryz.prog.cellsOf 9 = 1 := by kernel_rfl
theorem ecells_u : Tryz.prog.cellsOf 31 = 1 := by kernel_rfl
theorem ecells_bs : Tryz.prog.cellsOf 69 = 1 := by kernel_rfl
theorem ecells_b : Tryz.prog.cellsOf 4 = 1 := by kernel_rfl
theorem ecells_u8 : Tryz.prog.cellsOf 5 = 1 := by kernel_rfl
theorem ecells_es : Tryz.prog.cellsOf 22 = 1 := by kernel_rfl
theorem ecells_e : Tryz.prog.cellsOf 71 = 7 := by kernel_rfl
theorem eopen_bs {fuel : Nat} {cs : List Value} {x : DataW H × List MemPlace} (h : DataW.trod enc Tryz.prog W 0 (fun _ => true) true fuel 69 cs = some x) :
    ∃ A c s, cs = [.slice A (s : List Bool).length c] ∧ s.length ≤ maxLen ∧ Es Value.bool W W.heap.size A s := by
  rcases Go.Deep.open_bools Tryz.underlying69 Tryz.underlying4 (by kernel_rfl) h with ⟨rfl, _⟩ | ⟨a, len, cap, B, rfl, _, hl, hc, _, hq⟩
  · exact ⟨none, 0, [], rfl, Nat.zero_le _, es_nil _ _ _ _⟩
  · refine ⟨some a, cap, (List.range len).map B, by simp, by simp; omega, ?_⟩
    intro j t hj
    simp only [List.getElem?_map, Option.map_eq_some_iff] at hj
    obtain ⟨i, hi, rfl⟩ := hj
    obtain ⟨hil, rfl⟩ := List.getElem?_eq_some_iff.1 hi
    simp only [List.length_range] at hil
    simp only [List.getElem_range]
    have hq := hq j (by omega)
    have hb := World.block_lt_of_cell? W (a.add j) hq
    rw [addr_block] at hb
    exact ⟨a, rfl, hb, hq⟩
theorem eopen_u64 {fuel : Nat} {cs : List Value} {x : DataW H × List MemPlace} (h : DataW.trod enc Tryz.prog W 0 (fun _ => true) true fuel 31 cs = some x) : ∃ c : Int, cs = [.int .u64 c] ∧ B64 c := by
  obtain ⟨c, rfl, _, wc⟩ := DataW.trod_int (k := .u64) Tryz.underlying31 h
  have := bounds_u64 wc
  exact ⟨c, rfl, by unfold B64; omega⟩
theorem eopen_evL {fuel : Nat} {cs : List Value} {x : DataW H × List MemPlace} (h : DataW.trod enc Tryz.prog W 0 (fun _ => true) true fuel 71 cs = some x) :
    ∃ v K kc, cs = evC v K kc ∧ v.wide ∧ v.keeps.length ≤ maxLen ∧ Es Value.bool W W.heap.size K v.keeps := by
  obtain ⟨xs, n, _, _, hlen, hl, hel⟩ := DataW.trod_struct Tryz.underlying71 h
  rw [ecells_e] at hlen
  match xs, hl, cs, hlen with
  | [x0, x1, x2, x3, x4, x5, x6], _, [c0, c1, c2, c3, c4, c5, c6], _ =>
    have h0 : DataW.trod enc Tryz.prog W 0 (fun _ => true) true n 3 (List.take (Tryz.prog.cellsOf 3) [c0, c1, c2, c3, c4, c5, c6]) = some x0 := hel 0 _ rfl
    have h1 : DataW.trod enc Tryz.prog W 0 (fun _ => true) true n 3 (List.take (Tryz.prog.cellsOf 3) [c1, c2, c3, c4, c5, c6]) = some x1 := hel 1 _ rfl
    have h2 : DataW.trod enc Tryz.prog W 0 (fun _ => true) true n 3 (List.take (Tryz.prog.cellsOf 3) [c2, c3, c4, c5, c6]) = some x2 := hel 2 _ rfl
    have h3 : DataW.trod enc Tryz.prog W 0 (fun _ => true) true n 3 (List.take (Tryz.prog.cellsOf 3) [c3, c4, c5, c6]) = some x3 := hel 3 _ rfl
    have h4 : DataW.trod enc Tryz.prog W 0 (fun _ => true) true n 9 (List.take (Tryz.prog.cellsOf 9) [c4, c5, c6]) = some x4 := hel 4 _ rfl
    have h5 : DataW.trod enc Tryz.prog W 0 (fun _ => true) true n 31 (List.take (Tryz.prog.cellsOf 31) [c5, c6]) = some x5 := hel 5 _ rfl
    have h6 : DataW.trod enc Tryz.prog W 0 (fun _ => true) true n 69 (List.take (Tryz.prog.cellsOf 69) [c6]) = some x6 := hel 6 _ rfl
    rw [ecells_i] at h0 h1 h2 h3
    rw [ecells_s] at h4
    rw [ecells_u] at h5
    rw [ecells_bs] at h6
    obtain ⟨k0, e0⟩ := open_i64 (x := x0) (by simpa using h0)
    obtain ⟨k1, e1⟩ := open_i64 (x := x1) (by simpa using h1)
    obtain ⟨k2, e2⟩ := open_i64 (x := x2) (by simpa using h2)
    obtain ⟨k3, e3⟩ := open_i64 (x := x3) (by simpa using h3)
    obtain ⟨k4, e4, _⟩ := DataW.trod_string (x := x4) Tryz.underlying9 (by simpa using h4)
    obtain ⟨k5, e5, w5⟩ := eopen_u64 (x := x5) (by simpa using h5)
    obtain ⟨K, kc, s, e6, w6, m6⟩ := eopen_bs (x := x6) (by simpa using h6)
    simp only [List.cons.injEq, and_true] at e0 e1 e2 e3 e4 e5 e6
    subst e0; subst e1; subst e2; subst e3; subst e4; subst e5; subst e6
    exact ⟨⟨k0, k1, k2, k3, k4, k5, s⟩, K, kc, rfl, w5, w6, m6⟩
theorem eopen_evs {fuel : Nat} {cs : List Value} {x : DataW H × List MemPlace} (h : DataW.trod enc Tryz.prog W 0 (fun _ => true) true fuel 22 cs = some x) :
    ∃ A c l, cs = [.slice A (l : List Evt).length c] ∧ Evs W A l ∧ ∀ v ∈ l, v.wide := by
  rcases Go.Deep.open_slice Tryz.underlying22 h with ⟨rfl, _⟩ | ⟨a, len', cap', m, n, D, Pl, rfl, _, hl, _, hm, _, hx⟩
  · exact ⟨none, 0, [], rfl, (by intro j s h; simp at h), by simp⟩
  · have hm' : m = cap' := by simpa using hm
    subst hm'
    rw [ecells_e] at hx
    have each : ∀ i, i < m → ∃ q : Evt × Option Addr × Nat, q.1.wide ∧ q.1.keeps.length ≤ maxLen ∧ Es Value.bool W W.heap.size q.2.1 q.1.keeps ∧ ∀ i' y, (evC q.1 q.2.1 q.2.2)[i']? = some y → W.cell? ((a.add (i * 7)).add i') = some y := by
      intro i hi
      obtain ⟨cs', g1, g2⟩ := hx i hi
      obtain ⟨v, K, kc, rfl, hs⟩ := eopen_evL g2
      obtain ⟨_, _, hcell⟩ := World.cells?_some g1
      refine ⟨(v, K, kc), hs.1, hs.2.1, hs.2.2, fun j u hj => ?_⟩
      have hj7 : j < 7 := (List.getElem?_eq_some_iff.1 hj).1
      have := hcell j hj7
      rw [this]
      exact hj
    haveI : Inhabited (Evt × Option Addr × Nat) := ⟨⟨⟨0, 0, 0, 0, ⟨#[]⟩, 0, []⟩, none, 0⟩⟩
    obtain ⟨Q, hQ⟩ := Go.Deep.choose_lt (α := Evt × Option Addr × Nat) (p := fun i q => q.1.wide ∧ q.1.keeps.length ≤ maxLen ∧ Es Value.bool W W.heap.size q.2.1 q.1.keeps ∧ ∀ i' y, (evC q.1 q.2.1 q.2.2)[i']? = some y → W.cell? ((a.add (i * 7)).add i') = some y) each
    refine ⟨some a, m, (List.range len').map fun i => (Q i).1, by simp, ?_, ?_⟩
    · intro j t hj
      simp only [List.getElem?_map, Option.map_eq_some_iff] at hj
      obtain ⟨i, hi, rfl⟩ := hj
      obtain ⟨hil, rfl⟩ := List.getElem?_eq_some_iff.1 hi
      simp only [List.length_range] at hil
      simp only [List.getElem_range]
      obtain ⟨_, q1, q2, q3⟩ := hQ j (by omega)
      have hb := World.block_lt_of_cell? W _ (q3 0 _ rfl)
      rw [addr_block, addr_block] at hb
      exact ⟨a, _, _, rfl, hb, q2, q1, q3⟩
    · intro s hs
      obtain ⟨i, hi, rfl⟩ := List.mem_map.1 hs
      exact (hQ i (by have := List.mem_range.1 hi; omega)).1
end
end Go.Proofs.YtkjikigimmchlaaGreatDoor
namespace Go.Proofs.YtkjikigimmchlaaGreatDoor
open Go.ChangeShapes Go.WideShapes Go.ChangeAt Go.RowKit
set_option maxRecDepth 100000
section
variable {H : Type} {enc : TypeId × Value → H} {W : World} {r : Reach} {base : Nat}
theorem ecells_case20 : Tryz.prog.cellsOf 24 = 3 := by kernel_rfl
theorem eopen_case20 {v : Value} {d : DataW H} {ps : List MemPlace} (hval : Value.okWide Tryz.prog W r base 24 v) (h : DataW.Trod enc Tryz.prog W 0 (fun _ => true) true 24 v d ps) :
    ∃ b A k l s, v = .agg #[.int .u8 b, .slice A (l : List Evt).length k, .bool s] ∧ 0 ≤ b ∧ b < 256 ∧ Evs W A l ∧ ∀ v ∈ l, v.wide := by
  obtain ⟨cs, rfl, _⟩ := okWide_struct Tryz.underlying24 hval
  obtain ⟨fuel, hf⟩ := h
  obtain ⟨l⟩ := cs
  obtain ⟨xs, n, _, _, hlen, hl, hel⟩ := DataW.trod_struct Tryz.underlying24 hf
  rw [ecells_case20] at hlen
  simp only [Value.cells] at hlen hel
  match xs, hl, l, hlen with
  | [x0, x1, x2], _, [c0, c1, c2], _ =>
    have h0 : DataW.trod enc Tryz.prog W 0 (fun _ => true) true n 5 (List.take (Tryz.prog.cellsOf 5) [c0, c1, c2]) = some x0 := hel 0 _ rfl
    have h1 : DataW.trod enc Tryz.prog W 0 (fun _ => true) true n 22 (List.take (Tryz.prog.cellsOf 22) [c1, c2]) = some x1 := hel 1 _ rfl
    have h2 : DataW.trod enc Tryz.prog W 0 (fun _ => true) true n 4 (List.take (Tryz.prog.cellsOf 4) [c2]) = some x2 := hel 2 _ rfl
    rw [ecells_u8] at h0
    rw [ecells_es] at h1
    rw [ecells_b] at h2
    obtain ⟨b, e0, _, wf⟩ := DataW.trod_int (k := .u8) (x := x0) Tryz.underlying5 (by simpa using h0)
    obtain ⟨A, k, s, e1, m1, w1⟩ := eopen_evs (x := x1) (by simpa using h1)
    obtain ⟨y, e2⟩ := open_b (x := x2) (by simpa using h2)
    have bf := bounds_u8 wf
    simp only [List.cons.injEq, and_true] at e0 e1 e2
    subst e0; subst e1; subst e2
    exact ⟨b, A, k, s, y, rfl, by omega, by omega, m1, w1⟩
end
end Go.Proofs.YtkjikigimmchlaaGreatDoor
