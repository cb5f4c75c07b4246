/- How a store, a list of acts, and an end that come in are opened: each list, nil or not, reads as a list. No condition. -/
import Derived.Test.YtjkgellkkjjnbaaGreatDoorZH
import Derived.Test.YtjkgellkkjjnbaaGreatDoorKO
import Derived.Deep.Grids
import Derived.Deep.SlicePairs
namespace Go.Proofs.YtjkgellkkjjnbaaGreatDoor
open Go.ChangeShapes Go.WideShapes Go.ChangeAt Go.RowKit
set_option maxRecDepth 100000

section
variable {H : Type} {enc : TypeId × Value → H} {W : World} {r : Reach} {base : Nat}

theorem zcellsU32 : Tryz.prog.cellsOf 32 = 1 := by kernel_rfl
theorem zcellsStr : Tryz.prog.cellsOf 9 = 1 := by kernel_rfl
theorem zcellsSs : Tryz.prog.cellsOf 22 = 1 := by kernel_rfl
theorem zcellsWs : Tryz.prog.cellsOf 23 = 1 := by kernel_rfl
theorem zcellsBs : Tryz.prog.cellsOf 51 = 1 := by kernel_rfl
theorem zcellsU8 : Tryz.prog.cellsOf 5 = 1 := by kernel_rfl
theorem zcellsDisk : Tryz.prog.cellsOf 25 = 4 := by kernel_rfl
theorem zcellsStore : Tryz.prog.cellsOf 34 = 13 := by kernel_rfl
theorem zcellsAct : Tryz.prog.cellsOf 49 = 12 := by kernel_rfl
theorem zcellsEnd : Tryz.prog.cellsOf 53 = 2 := by kernel_rfl

theorem zopen_u32 {fuel : Nat} {cs : List Value} {x : DataW H × List MemPlace} (h : DataW.trod enc Tryz.prog W 0 (fun _ => true) true fuel 32 cs = some x) :
    ∃ c : Nat, cs = [.int .u32 (c : Nat)] ∧ c < 4294967296 := by
  obtain ⟨c, rfl, _, wc⟩ := DataW.trod_int (k := .u32) Tryz.underlying32 h
  have := bounds_u32 wc
  obtain ⟨k, rfl⟩ := Int.eq_ofNat_of_zero_le this.1
  exact ⟨k, rfl, by omega⟩
theorem zopen_str {fuel : Nat} {cs : List Value} {x : DataW H × List MemPlace} (h : DataW.trod enc Tryz.prog W 0 (fun _ => true) true fuel 9 cs = some x) :
    ∃ b : ByteArray, cs = [.string b] := by
  obtain ⟨c, rfl, _⟩ := DataW.trod_string Tryz.underlying9 h
  exact ⟨c, rfl⟩

set_option maxRecDepth 100000 in
theorem open_supL {fuel : Nat} {cs : List Value} {x : DataW H × List MemPlace} (h : DataW.trod enc Tryz.prog W 0 (fun _ => true) true fuel 31 cs = some x) : ∃ s : Sup, cs = supC s ∧ s.wide := by
  obtain ⟨xs, n, _, _, hlen, hl, hel⟩ := DataW.trod_struct Tryz.underlying31 h
  rw [cells27] at hlen
  match xs, hl, cs, hlen with
  | [x0, x1, x2, x3, x4], _, [c0, c1, c2, c3, c4, c5, c6, c7], _ =>
    have h0 : DataW.trod enc Tryz.prog W 0 (fun _ => true) true n 3 (List.take (Tryz.prog.cellsOf 3) [c0, c1, c2, c3, c4, c5, c6, c7]) = some x0 := hel 0 _ rfl
    have h1 : DataW.trod enc Tryz.prog W 0 (fun _ => true) true n 29 (List.take (Tryz.prog.cellsOf 29) [c1, c2, c3, c4, c5, c6, c7]) = some x1 := hel 1 _ rfl
    have h2 : DataW.trod enc Tryz.prog W 0 (fun _ => true) true n 4 (List.take (Tryz.prog.cellsOf 4) [c5, c6, c7]) = some x2 := hel 2 _ rfl
    have h3 : DataW.trod enc Tryz.prog W 0 (fun _ => true) true n 4 (List.take (Tryz.prog.cellsOf 4) [c6, c7]) = some x3 := hel 3 _ rfl
    have h4 : DataW.trod enc Tryz.prog W 0 (fun _ => true) true n 4 (List.take (Tryz.prog.cellsOf 4) [c7]) = some x4 := hel 4 _ rfl
    rw [cells3] at h0
    rw [cells25] at h1
    rw [cells4] at h2 h3 h4
    obtain ⟨k, e0⟩ := open_i64 (x := x0) (by simpa using h0)
    obtain ⟨c, b, o, p, e1, b0, b1, b2, b3⟩ := open_vecL (x := x1) (by simpa using h1)
    obtain ⟨f2, e2⟩ := open_b (x := x2) (by simpa using h2)
    obtain ⟨f3, e3⟩ := open_b (x := x3) (by simpa using h3)
    obtain ⟨f4, e4⟩ := open_b (x := x4) (by simpa using h4)
    simp at e0 e1 e2 e3 e4
    obtain ⟨q1, q2, q3, q4⟩ := e1
    subst e0; subst q1; subst q2; subst q3; subst q4; subst e2; subst e3; subst e4
    exact ⟨⟨k, c, b, o, p, f2, f3, f4⟩, rfl, b0, b1, b2, b3⟩
theorem zopen_diskL {fuel : Nat} {cs : List Value} {x : DataW H × List MemPlace} (h : DataW.trod enc Tryz.prog W 0 (fun _ => true) true fuel 25 cs = some x) :
    ∃ A n s B m c f y, cs = [.slice A (s : List ByteArray).length n, .slice B (c : List Wr).length m, .int .i64 f, .bool y] ∧ Mem W A n B m s c ∧ f < 9223372036854775808 := by
  obtain ⟨xs, n, _, _, hlen, hl, hel⟩ := DataW.trod_struct Tryz.underlying25 h
  rw [zcellsDisk] at hlen
  match xs, hl, cs, hlen with
  | [x0, x1, x2, x3], _, [c0, c1, c2, c3], _ =>
    have h0 : DataW.trod enc Tryz.prog W 0 (fun _ => true) true n 22 (List.take (Tryz.prog.cellsOf 22) [c0, c1, c2, c3]) = some x0 := hel 0 _ rfl
    have h1 : DataW.trod enc Tryz.prog W 0 (fun _ => true) true n 23 (List.take (Tryz.prog.cellsOf 23) [c1, c2, c3]) = some x1 := hel 1 _ rfl
    have h2 : DataW.trod enc Tryz.prog W 0 (fun _ => true) true n 3 (List.take (Tryz.prog.cellsOf 3) [c2, c3]) = some x2 := hel 2 _ rfl
    have h3 : DataW.trod enc Tryz.prog W 0 (fun _ => true) true n 4 (List.take (Tryz.prog.cellsOf 4) [c3]) = some x3 := hel 3 _ rfl
    rw [zcellsSs] at h0
    rw [zcellsWs] at h1
    rw [cells3] at h2
    rw [cells4] at h3
    obtain ⟨A, k, s, e0, za, hs⟩ := open_strs (x := x0) (by simpa using h0)
    obtain ⟨B, m, c, e1, zb, hc⟩ := open_wrs (x := x1) (by simpa using h1)
    obtain ⟨f, e2, _, wf⟩ := DataW.trod_int (k := .i64) (x := x2) (by kernel_rfl) (by simpa using h2)
    obtain ⟨y, e3⟩ := open_b (x := x3) (by simpa using h3)
    simp only [List.cons.injEq, and_true] at e0 e1 e2 e3
    subst e0; subst e1; subst e2; subst e3
    have bf := bounds_i64 wf
    exact ⟨A, k, s, B, m, c, f, y, rfl, ⟨hs, hc, za, zb⟩, by omega⟩

theorem open_sto {v : Value} {d : DataW H} {ps : List MemPlace} (hval : Value.okWide Tryz.prog W r base 34 v) (h : DataW.Trod enc Tryz.prog W 0 (fun _ => true) true 34 v d ps) :
    ∃ t A n B m, v = toV t A n B m ∧ Mem W A n B m t.s t.c := by
  obtain ⟨cs, rfl, _⟩ := okWide_struct Tryz.underlying34 hval
  obtain ⟨fuel, hf⟩ := h
  obtain ⟨l⟩ := cs
  obtain ⟨xs, n, _, _, hlen, hl, hel⟩ := DataW.trod_struct Tryz.underlying34 hf
  rw [zcellsStore] at hlen
  simp only [Value.cells] at hlen hel
  match xs, hl, l, hlen with
  | [x0, x1, x2], _, [c0, c1, c2, c3, c4, c5, c6, c7, c8, c9, c10, c11, c12], _ =>
    have h0 : DataW.trod enc Tryz.prog W 0 (fun _ => true) true n 25 (List.take (Tryz.prog.cellsOf 25) [c0, c1, c2, c3, c4, c5, c6, c7, c8, c9, c10, c11, c12]) = some x0 := hel 0 _ rfl
    have h1 : DataW.trod enc Tryz.prog W 0 (fun _ => true) true n 31 (List.take (Tryz.prog.cellsOf 31) [c4, c5, c6, c7, c8, c9, c10, c11, c12]) = some x1 := hel 1 _ rfl
    have h2 : DataW.trod enc Tryz.prog W 0 (fun _ => true) true n 32 (List.take (Tryz.prog.cellsOf 32) [c12]) = some x2 := hel 2 _ rfl
    rw [zcellsDisk] at h0
    rw [cells27] at h1
    rw [zcellsU32] at h2
    obtain ⟨A, k, s, B, m, c, f, y, e0, hm, _⟩ := zopen_diskL (x := x0) (by simpa using h0)
    obtain ⟨b, e1, _⟩ := open_supL (x := x1) (by simpa using h1)
    obtain ⟨u, e2, _⟩ := zopen_u32 (x := x2) (by simpa using h2)
    simp at e0 e1 e2
    obtain ⟨q0, q1, q2, q3⟩ := e0
    obtain ⟨p0, p1, p2, p3, p4, p5, p6, p7⟩ := e1
    subst q0 q1 q2 q3 p0 p1 p2 p3 p4 p5 p6 p7 e2
    exact ⟨⟨s, c, f, y, b, u⟩, A, k, B, m, rfl, hm⟩

theorem zopen_actL {fuel : Nat} {cs : List Value} {x : DataW H × List MemPlace} (h : DataW.trod enc Tryz.prog W 0 (fun _ => true) true fuel 49 cs = some x) : ∃ s : Act, cs = actC s ∧ s.m < 4294967296 ∧ s.b.wide := by
  obtain ⟨xs, n, _, _, hlen, hl, hel⟩ := DataW.trod_struct Tryz.underlying49 h
  rw [zcellsAct] at hlen
  match xs, hl, cs, hlen with
  | [x0, x1, x2, x3, x4], _, [c0, c1, c2, c3, c4, c5, c6, c7, c8, c9, c10, c11], _ =>
    have h0 : DataW.trod enc Tryz.prog W 0 (fun _ => true) true n 3 (List.take (Tryz.prog.cellsOf 3) [c0, c1, c2, c3, c4, c5, c6, c7, c8, c9, c10, c11]) = some x0 := hel 0 _ rfl
    have h1 : DataW.trod enc Tryz.prog W 0 (fun _ => true) true n 3 (List.take (Tryz.prog.cellsOf 3) [c1, c2, c3, c4, c5, c6, c7, c8, c9, c10, c11]) = some x1 := hel 1 _ rfl
    have h2 : DataW.trod enc Tryz.prog W 0 (fun _ => true) true n 32 (List.take (Tryz.prog.cellsOf 32) [c2, c3, c4, c5, c6, c7, c8, c9, c10, c11]) = some x2 := hel 2 _ rfl
    have h3 : DataW.trod enc Tryz.prog W 0 (fun _ => true) true n 9 (List.take (Tryz.prog.cellsOf 9) [c3, c4, c5, c6, c7, c8, c9, c10, c11]) = some x3 := hel 3 _ rfl
    have h4 : DataW.trod enc Tryz.prog W 0 (fun _ => true) true n 31 (List.take (Tryz.prog.cellsOf 31) [c4, c5, c6, c7, c8, c9, c10, c11]) = some x4 := hel 4 _ rfl
    rw [cells3] at h0 h1
    rw [zcellsU32] at h2
    rw [zcellsStr] at h3
    rw [cells27] at h4
    obtain ⟨g, e0⟩ := open_i64 (x := x0) (by simpa using h0)
    obtain ⟨i, e1⟩ := open_i64 (x := x1) (by simpa using h1)
    obtain ⟨u, e2, hu⟩ := zopen_u32 (x := x2) (by simpa using h2)
    obtain ⟨t, e3⟩ := zopen_str (x := x3) (by simpa using h3)
    obtain ⟨b, e4, hb⟩ := open_supL (x := x4) (by simpa using h4)
    simp at e0 e1 e2 e3 e4
    obtain ⟨p0, p1, p2, p3, p4, p5, p6, p7⟩ := e4
    subst e0 e1 e2 e3 p0 p1 p2 p3 p4 p5 p6 p7
    exact ⟨⟨g, i, u, t, b⟩, rfl, hu, hb⟩

theorem open_acts {v : Value} {d : DataW H} {ps : List MemPlace} (hval : Value.okWide Tryz.prog W r base 42 v) (h : DataW.Trod enc Tryz.prog W 0 (fun _ => true) true 42 v d ps) :
    ∃ A c l, v = .slice A (l : List Act).length c ∧ As W W.heap.size A l ∧ ∀ s ∈ l, s.m < 4294967296 ∧ s.b.wide := by
  obtain ⟨a0, len, cap, rfl⟩ := okWide_slice Tryz.underlying42 hval
  obtain ⟨fuel, hf⟩ := h
  rcases Go.Deep.open_slice Tryz.underlying42 hf with ⟨h0, _⟩ | ⟨a, len', cap', m, n, D, Pl, h1, _, hl, _, hm, _, hx⟩
  · have h0 : (.slice a0 len cap : Value) = .slice none 0 0 := by simpa [Value.cells] using h0
    exact ⟨none, 0, [], h0, (by intro j s h; simp at h), by simp⟩
  · have h1 : (.slice a0 len cap : Value) = .slice (some a) len' cap' := by simpa [Value.cells] using h1
    have hm' : m = cap' := by simpa using hm
    subst hm'
    rw [zcellsAct] at hx
    have each : ∀ i, i < m → ∃ s : Act, ActAt W (a.add (i * 12)) s ∧ s.m < 4294967296 ∧ s.b.wide := by
      intro i hi
      obtain ⟨cs', g1, g2⟩ := hx i hi
      obtain ⟨s, rfl, hs⟩ := zopen_actL g2
      obtain ⟨_, _, hcell⟩ := World.cells?_some g1
      refine ⟨s, actAt_flat fun j u hj => ?_, hs⟩
      have hj12 : j < 12 := (List.getElem?_eq_some_iff.1 hj).1
      have := hcell j hj12
      rw [Go.Deep.add_add] at this
      rw [this, hj]
    haveI : Inhabited Act := ⟨⟨0, 0, 0, e0, Sup.zero⟩⟩
    obtain ⟨Q, hQ⟩ := Go.Deep.choose_lt (α := Act) (p := fun i s => ActAt W (a.add (i * 12)) s ∧ s.m < 4294967296 ∧ s.b.wide) each
    refine ⟨some a, m, (List.range len').map Q, by rw [h1]; simp, ?_, ?_⟩
    · intro j t hj
      simp only [List.getElem?_map, Option.map_eq_some_iff] at hj
      obtain ⟨i, hi, rfl⟩ := hj
      obtain ⟨hil, rfl⟩ := List.getElem?_eq_some_iff.1 hi
      simp only [List.length_range] at hil
      simp only [List.getElem_range]
      have hq := (hQ j (by omega)).1
      have hb := World.block_lt_of_cell? W (a.add (j * 12)) hq.c0
      rw [zadd_block] at hb
      exact ⟨a, rfl, hb, hq⟩
    · intro s hs
      obtain ⟨i, hi, rfl⟩ := List.mem_map.1 hs
      exact (hQ i (by have := List.mem_range.1 hi; omega)).2

theorem open_end {v : Value} {d : DataW H} {ps : List MemPlace} (hval : Value.okWide Tryz.prog W r base 53 v) (h : DataW.Trod enc Tryz.prog W 0 (fun _ => true) true 53 v d ps) :
    ∃ fu KA kl kc, v = .agg #[.int .u8 fu, .slice KA (kl : List Bool).length kc] ∧ 0 ≤ fu ∧ fu < 256 ∧ Es Value.bool W W.heap.size KA kl := by
  obtain ⟨cs, rfl, _⟩ := okWide_struct Tryz.underlying53 hval
  obtain ⟨fuel, hf⟩ := h
  obtain ⟨l⟩ := cs
  obtain ⟨xs, n, _, _, hlen, hl, hel⟩ := DataW.trod_struct Tryz.underlying53 hf
  rw [zcellsEnd] at hlen
  simp only [Value.cells] at hlen hel
  match xs, hl, l, hlen with
  | [x0, x1], _, [c0, c1], _ =>
    have h0 : DataW.trod enc Tryz.prog W 0 (fun _ => true) true n 5 (List.take (Tryz.prog.cellsOf 5) [c0, c1]) = some x0 := hel 0 _ rfl
    have h1 : DataW.trod enc Tryz.prog W 0 (fun _ => true) true n 51 (List.take (Tryz.prog.cellsOf 51) [c1]) = some x1 := hel 1 _ rfl
    rw [zcellsU8] at h0
    rw [zcellsBs] at h1
    obtain ⟨f, e0, _, wf⟩ := DataW.trod_int (k := .u8) (x := x0) Tryz.underlying5 (by simpa using h0)
    obtain ⟨A, k, s, e1, _, hs⟩ := open_bs (x := x1) (by simpa using h1)
    have bf := bounds_u8 wf
    simp only [List.cons.injEq, and_true] at e0 e1
    subst e0; subst e1
    exact ⟨f, A, s, k, rfl, by omega, by omega, hs⟩
end
end Go.Proofs.YtjkgellkkjjnbaaGreatDoor
