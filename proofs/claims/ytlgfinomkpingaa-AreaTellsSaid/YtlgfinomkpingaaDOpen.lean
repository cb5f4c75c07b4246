/- How a disk, a list of writes and a list of bools that come in are opened: each list, nil or not, reads as a list. No condition. -/
import Derived.Test.YtlgfinomkpingaaE1
import Derived.OpenShut
import Derived.ProofKit
import Derived.Deep.SlicePairs
import Derived.Deep.Grids
import Derived.SliceStrings
import Derived.Lib.SmallJoins
namespace Go.Proofs.Ytlgfinomkpingaa
open Go.ChangeShapes Go.WideShapes Go.ChangeAt Go.RowKit

section
variable {H : Type} {enc : TypeId × Value → H} {W : World} {r : Reach} {base : Nat}

theorem block_add (a : Addr) (j : Nat) : (a.add j).block = a.block := by unfold Addr.add; split <;> rfl

theorem ws_spell (a : Addr) (j : Nat) : (⟨(a.add (j * 2)).block, (a.add (j * 2)).off + 1, none⟩ : Addr) = a.add (j * 2 + 1) := add_succ a (j * 2)

set_option maxRecDepth 100000 in
theorem open_strs {fuel : Nat} {cs : List Value} {x : DataW H × List MemPlace} (h : DataW.trod enc Try.prog W 0 (fun _ => true) true fuel 22 cs = some x) :
    ∃ A c s, cs = [.slice A (s : List ByteArray).length c] ∧ (A = none → c = 0) ∧ Es Value.string W W.heap.size A s := by
  rcases open_strings Try.underlying22 Try.underlying9 (by kernel_rfl) h with ⟨rfl, _⟩ | ⟨a, len, cap, ss, rfl, _, hl, _, hsl, _, hc, _⟩
  · exact ⟨none, 0, [], rfl, fun _ => rfl, es_nil _ _ _ _⟩
  · have hsl' : ss.length = cap := by simpa using hsl
    refine ⟨some a, cap, ss.take len, by rw [List.length_take, hsl', Nat.min_eq_left hl], (fun q => by cases q), ?_⟩
    intro j t hj
    obtain ⟨hjl, hjx⟩ := List.getElem?_eq_some_iff.1 hj
    rw [List.length_take, hsl', Nat.min_eq_left hl] at hjl
    have hcell := hc j (by omega)
    have hb := World.block_lt_of_cell? W (a.add j) hcell
    rw [block_add] at hb
    refine ⟨a, rfl, hb, ?_⟩
    rw [hcell, List.getD_eq_getElem?_getD, List.getElem?_eq_getElem (by omega)]
    rw [List.getElem_take] at hjx
    rw [← hjx]; rfl

set_option maxRecDepth 100000 in
theorem open_wrs {fuel : Nat} {cs : List Value} {x : DataW H × List MemPlace} (h : DataW.trod enc Try.prog W 0 (fun _ => true) true fuel 23 cs = some x) :
    ∃ A c s, cs = [.slice A (s : List Wr).length c] ∧ (A = none → c = 0) ∧ Ws W W.heap.size A s := by
  rcases Go.Deep.open_slice_pairs Try.underlying23 Try.underlying43 (by kernel_rfl) rfl rfl (by kernel_rfl) (by kernel_rfl) h with ⟨rfl, _⟩ | ⟨a, len, cap, m, n, V0, V1, D0, D1, P0, P1, rfl, _, hl, _, hm, _, hc⟩
  · exact ⟨none, 0, [], rfl, fun _ => rfl, ws_nil _ _ _⟩
  · have hm' : m = cap := by simpa using hm
    subst hm'
    have each : ∀ i, i < m → ∃ q : Wr, W.cell? (a.add (i * 2)) = some (.int .i64 q.1) ∧ W.cell? (a.add (i * 2 + 1)) = some (.string q.2) := by
      intro i hi
      obtain ⟨h0, h1, t0, t1⟩ := hc i hi
      obtain ⟨z, e0, _⟩ := DataW.trod_int (k := .i64) (by kernel_rfl) t0
      obtain ⟨b, e1, _⟩ := DataW.trod_string (by kernel_rfl) t1
      injection e0 with e0
      injection e1 with e1
      exact ⟨(z, b), by rw [h0, e0], by rw [h1, e1]⟩
    obtain ⟨Q, hQ⟩ := Go.Deep.choose_lt (α := Wr) (p := fun i q => W.cell? (a.add (i * 2)) = some (.int .i64 q.1) ∧ W.cell? (a.add (i * 2 + 1)) = some (.string q.2)) each
    refine ⟨some a, m, (List.range len).map Q, by simp, (fun q => by cases q), ?_⟩
    intro j t hj
    simp only [List.getElem?_map, Option.map_eq_some_iff] at hj
    obtain ⟨i, hi, rfl⟩ := hj
    obtain ⟨hil, rfl⟩ := List.getElem?_eq_some_iff.1 hi
    simp only [List.length_range] at hil
    simp only [List.getElem_range]
    have hq := hQ j (by omega)
    have hb := World.block_lt_of_cell? W (a.add (j * 2)) hq.1
    rw [block_add] at hb
    exact ⟨a, rfl, hb, hq.1, by rw [ws_spell]; exact hq.2⟩

set_option maxRecDepth 100000 in
theorem open_bs {fuel : Nat} {cs : List Value} {x : DataW H × List MemPlace} (h : DataW.trod enc Try.prog W 0 (fun _ => true) true fuel 41 cs = some x) :
    ∃ A c s, cs = [.slice A (s : List Bool).length c] ∧ (A = none → c = 0) ∧ Es Value.bool W W.heap.size A s := by
  rcases Go.Deep.open_bools Try.underlying41 Try.underlying4 (by kernel_rfl) h with ⟨rfl, _⟩ | ⟨a, len, cap, B, rfl, _, hl, _, _, hc⟩
  · exact ⟨none, 0, [], rfl, fun _ => rfl, es_nil _ _ _ _⟩
  · refine ⟨some a, cap, (List.range len).map B, by simp, (fun q => by cases q), ?_⟩
    intro j t hj
    simp only [List.getElem?_map, Option.map_eq_some_iff] at hj
    obtain ⟨i, hi, rfl⟩ := hj
    obtain ⟨hil, rfl⟩ := List.getElem?_eq_some_iff.1 hi
    simp only [List.length_range] at hil
    simp only [List.getElem_range]
    have hq := hc j (by omega)
    have hb := World.block_lt_of_cell? W (a.add j) hq
    rw [block_add] at hb
    exact ⟨a, rfl, hb, hq⟩

set_option maxRecDepth 100000 in
theorem open_disk {v : Value} {d : DataW H} {ps : List MemPlace} (hval : Value.okWide Try.prog W r base 25 v) (h : DataW.Trod enc Try.prog W 0 (fun _ => true) true 25 v d ps) :
    ∃ A n s B m c f x, v = .agg #[.slice A (s : List ByteArray).length n, .slice B (c : List Wr).length m, .int .i64 f, .bool x] ∧ Mem W A n B m s c ∧ f < 9223372036854775808 := by
  obtain ⟨v0, v1, v2, v3, y0, y1, y2, y3, n, rfl, _, _, h0, h1, h2, h3⟩ := Go.Joins.open_agg4 Try.underlying25 (by kernel_rfl) (by kernel_rfl) hval h
  obtain ⟨A, k, s, e0, za, hs⟩ := open_strs h0
  obtain ⟨B, m, c, e1, zb, hc⟩ := open_wrs h1
  obtain ⟨f, e2, _, wf⟩ := DataW.trod_int (k := .i64) (by kernel_rfl) h2
  obtain ⟨x, e3, _⟩ := DataW.trod_bool (by kernel_rfl) h3
  injection e0 with e0; injection e1 with e1; injection e2 with e2; injection e3 with e3
  subst e0; subst e1; subst e2; subst e3
  have bf := bounds_i64 wf
  exact ⟨A, k, s, B, m, c, f, x, rfl, ⟨hs, hc, za, zb⟩, by omega⟩

set_option maxRecDepth 100000 in
theorem open_writes {v : Value} {d : DataW H} {ps : List MemPlace} (hval : Value.okWide Try.prog W r base 23 v) (h : DataW.Trod enc Try.prog W 0 (fun _ => true) true 23 v d ps) :
    ∃ A c s, v = .slice A (s : List Wr).length c ∧ Ws W W.heap.size A s := by
  obtain ⟨a0, len, cap, rfl⟩ := okWide_slice Try.underlying23 hval
  obtain ⟨fuel, hf⟩ := h
  obtain ⟨A, c, s, e, _, hs⟩ := open_wrs hf
  have e : (.slice a0 len cap : Value) = .slice A s.length c := by simpa [Value.cells] using e
  exact ⟨A, c, s, e, hs⟩

set_option maxRecDepth 100000 in
theorem open_bools38 {v : Value} {d : DataW H} {ps : List MemPlace} (hval : Value.okWide Try.prog W r base 41 v) (h : DataW.Trod enc Try.prog W 0 (fun _ => true) true 41 v d ps) :
    ∃ A c s, v = .slice A (s : List Bool).length c ∧ Es Value.bool W W.heap.size A s := by
  obtain ⟨a0, len, cap, rfl⟩ := okWide_slice Try.underlying41 hval
  obtain ⟨fuel, hf⟩ := h
  obtain ⟨A, c, s, e, _, hs⟩ := open_bs hf
  have e : (.slice a0 len cap : Value) = .slice A s.length c := by simpa [Value.cells] using e
  exact ⟨A, c, s, e, hs⟩
end
end Go.Proofs.Ytlgfinomkpingaa
