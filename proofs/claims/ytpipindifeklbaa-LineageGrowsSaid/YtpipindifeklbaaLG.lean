/- Lineage: what is common to two, on both sides. No other condition but that the list lies in memory. -/
import Derived.Test.YtpipindifeklbaaLF
namespace Go.Proofs.Ytpipindifeklbaa
open Go.RowKit

theorem first_hit {X Y : List Int} {k : Nat} (h : k < X.length) (hx : decide (X[k] ∈ Y) = true) : firstIn (X.drop k) Y = X[k] := by
  rw [List.drop_eq_getElem_cons h]; unfold firstIn; rw [if_pos (of_decide_eq_true hx)]
theorem first_on {X Y : List Int} {k : Nat} (h : k < X.length) (hx : decide (X[k] ∈ Y) = false) : firstIn (X.drop k) Y = firstIn (X.drop (k + 1)) Y := by
  rw [List.drop_eq_getElem_cons h]; show (if X[k] ∈ Y then X[k] else firstIn (X.drop (k + 1)) Y) = _; rw [if_neg (of_decide_eq_false hx)]
theorem first_end {X Y : List Int} : firstIn (X.drop X.length) Y = 0 := by rw [List.drop_length]; rfl

/-- Among the first so many. -/
def amongT (Y : List Int) (k : Nat) (x : Int) : Bool := decide (x ∈ Y.take k)
theorem among_on {Y : List Int} {k : Nat} (h : k < Y.length) (x : Int) : (if x = Y[k] then true else amongT Y k x) = amongT Y (k + 1) x := by
  unfold amongT
  rw [take_snoc Y k h]
  by_cases e : x = Y[k]
  · rw [if_pos e]; exact (decide_eq_true (List.mem_append.2 (Or.inr (List.mem_singleton.2 e)))).symm
  · rw [if_neg e, decide_eq_decide, List.mem_append, List.mem_singleton]
    exact ⟨Or.inl, fun q => q.resolve_right e⟩

section
variable (A : Option Addr) (c : Nat) (l : List Mnt) (w : World) (h : Ms w w.heap.size A l) (hu : Wide l) (hm : l.length ≤ 1000)
include h hu hm

set_option maxHeartbeats 1000000 in
theorem rcommon_any (a b : Int) (ha : U64 a) (hb : U64 b) :
    Calls Try.prog 17 #[.slice A l.length c, .int .u64 a, .int .u64 b] w fun e w' => e = .returned (.int .u64 (commonI l a b)) ∧ Below w.heap.size w w' := by
  have h1 := rline_any A c l a w h hu ha hm
  have h2 := fun w2 (q : Below w.heap.size w w2) => rline_any A c l b w2 (h.up q) hu hb hm
  have n1 := line_len l a
  have n2 := line_len l b
  unfold commonI
  generalize lineL l a = X at *
  generalize lineL l b = Y at *
  clear h ha hb hu
  go_enter Try.func17, Try.ntmps17
  go_wp2_with fail
  refine h1.mono ?_
  rintro e w1 ⟨B, c1, rfl, hx1, _, hb1⟩
  clear h1
  have hc := h2 w1 hb1
  have HX1 := Lib.hid hx1; clear hx1
  have HB1 := Lib.hid hb1; clear hb1 h2
  go_wp2_with fail
  refine hc.mono ?_
  rintro e w2 ⟨C, c2, rfl, hy2, _, hb2⟩
  clear hc
  have HX := Lib.hid (HX1.out.up hb2); clear HX1
  have HB := Lib.hid (ext HB1.out hb2); clear HB1 hb2
  have HY := Lib.hid hy2; clear hy2
  have HZ : Hid (firstIn X Y = firstIn (X.drop 0) Y) := by unfold Hid; rw [List.drop_zero]
  go_wp2
  go_loopw [9] (fun i wr => ∃ k : Nat, k ≤ X.length ∧ i = .int .i64 k ∧ Hid (firstIn X Y = firstIn (X.drop k) Y) ∧ wr = w2) (fun i _ => X.length - (intOf i).toNat)
  case atStart => exact ⟨0, by omega, rfl, HZ, rfl⟩
  case round =>
    obtain ⟨k, hk, rfl, HF, rfl⟩ := hrel
    clear HZ
    by_cases hlt : k < X.length
    · obtain ⟨a1, rfl, hb1, hc1⟩ := HX.out k X[k] (List.getElem?_eq_getElem hlt)
      have hh := rhasn_any C c2 Y X[k] wr _ HY.out (by unfold maxLen; omega)
      have ht := first_hit hlt (Y := Y)
      have ho := first_on hlt (Y := Y)
      have HT := Lib.hid ht; clear ht
      have HO := Lib.hid ho; clear ho
      generalize X[k] = x at *
      cases hq : decide (x ∈ Y) with
      | true =>
        rw [hq] at hh
        have HT2 := Lib.hid (HF.out.trans (HT.out hq)); clear HT HO HF hq
        go_wp2_with fail
        refine hh.mono ?_
        rintro e w3 ⟨rfl, rfl⟩
        clear hh
        go_wp2_with fail
        go_ret
        exact ⟨ret_int HT2.out.symm, HB.out⟩
      | false =>
        rw [hq] at hh
        have HT2 := Lib.hid (HF.out.trans (HO.out hq)); clear HT HO HF hq
        go_wp2_with fail
        refine hh.mono ?_
        rintro e w3 ⟨rfl, rfl⟩
        clear hh
        go_wp2_with fail
        go_roundw
        case rel => exact ⟨k + 1, by omega, by go_num, HT2, trivial⟩
        case measure => simp [intOf]; omega
    · obtain rfl : k = X.length := by omega
      have hq := HF.out
      rw [first_end] at hq
      have HQ := Lib.hid hq; clear hq HF
      go_wp2
      go_ret
      exact ⟨ret_int HQ.out.symm, HB.out⟩

set_option maxHeartbeats 1000000 in
theorem common_any (a b : Int) (ha : U64 a) (hb : U64 b) :
    Calls Try.prog 16 #[.slice A l.length c, .int .u64 a, .int .u64 b] w fun e w' => e = .returned (.int .u64 (commonI l a b)) ∧ Below w.heap.size w w' := by
  have hmm := @run_makeMap Try.prog
  have h1 := fun w2 (q : Below w.heap.size w w2) => line_any A c l b w2 (h.up q) hu hb hm
  have h2 := fun w2 (q : Below w.heap.size w w2) => line_any A c l a w2 (h.up q) hu ha hm
  have n1 := line_len l a
  have n2 := line_len l b
  have HUX := Lib.hid (line_u hu ha)
  have HUY := Lib.hid (line_u hu hb)
  unfold commonI
  generalize lineL l a = X at *
  generalize lineL l b = Y at *
  clear h ha hb hu
  have hm0 := (mb_made w).like (f' := amongT Y 0) (fun x => by simp [amongT])
  have hb0 := below1 (w := w) (o := .map #[] 0)
  have hl := h1 _ hb0
  have HM0 := Lib.hid hm0; clear hm0
  have HB0 := Lib.hid hb0; clear hb0 h1
  have H2 := Lib.hid h2; clear h2
  go_enter Try.func16, Try.ntmps16
  go_wp2_with fail
  refine hl.mono ?_
  rintro e w1 ⟨C, c2, rfl, hy, _, hb1⟩
  clear hl hmm
  have HM1 := Lib.hid (HM0.out.up hb1); clear HM0
  have HB1 := Lib.hid (ext HB0.out hb1); clear HB0 hb1
  have HY1 := Lib.hid hy; clear hy
  go_wp2
  go_loopw [9, 17] (fun _ i wr => ∃ k : Nat, k ≤ Y.length ∧ i = .int .i64 k ∧ Hid (MB wr w.heap.size k (amongT Y k)) ∧ Hid (Es (Value.int .u64) wr wr.heap.size C Y) ∧ Hid (Below w.heap.size w wr)) (fun _ i _ => Y.length - (intOf i).toNat)
  case atStart => exact ⟨0, by omega, rfl, HM1, HY1, HB1⟩
  case round =>
    obtain ⟨k, hk, rfl, HM, HY, HB⟩ := hrel
    clear HM1 HY1 HB1
    by_cases hlt : k < Y.length
    · obtain ⟨a1, rfl, hb1, hc1⟩ := HY.out k Y[k] (List.getElem?_eq_getElem hlt)
      have HU := Lib.hid (HUY.out _ (List.getElem_mem hlt))
      have ho := fun x => among_on hlt x
      have HO := Lib.hid ho; clear ho
      generalize Y[k] = y at *
      go_wp2_with (at_mapUpdate; refine put_b _ rfl _ _ _ rfl rfl HM.out (by unfold maxLen; omega) rfl rfl HU.out ?_)
      intro w3 hm3 hg3
      have HB3 := Lib.hid (HB.out.grown hg3 HB.out.size (by intro g hg; cases hg; exact Nat.le_refl _))
      have HY3 := Lib.hid (HY.out.by_map HM.out hg3)
      have HM3 : Hid (MB w3 w.heap.size (k + 1) (amongT Y (k + 1))) := MB.like hm3 (fun z => by rw [← HO.out z]; by_cases e : z = y <;> simp [e])
      clear hm3 hg3 HM HY HB
      go_wp2
      go_roundw
      case rel => exact ⟨k + 1, by omega, by go_num, HM3, HY3, HB3⟩
      case measure => simp [intOf]; omega
    · obtain rfl : k = Y.length := by omega
      have HM2 : Hid (MB wr w.heap.size Y.length (fun x => decide (x ∈ Y))) := HM.out.like (fun x => by unfold amongT; rw [List.take_length])
      have hl := H2.out wr HB.out
      clear HM HY H2 HUY
      go_wp2_with fail
      refine hl.mono ?_
      rintro e w4 ⟨B, c1, rfl, hx4, _, hb4⟩
      clear hl
      have HM4 := Lib.hid (HM2.out.up hb4); clear HM2
      have HB4 := Lib.hid (ext HB.out hb4); clear HB hb4
      have HX := Lib.hid hx4; clear hx4
      have HZ : Hid (firstIn X Y = firstIn (X.drop 0) Y) := by unfold Hid; rw [List.drop_zero]
      go_wp2
      go_loopw [11, 28] (fun _ i wr => ∃ k : Nat, k ≤ X.length ∧ i = .int .i64 k ∧ Hid (firstIn X Y = firstIn (X.drop k) Y) ∧ wr = w4) (fun _ i _ => X.length - (intOf i).toNat)
      case atStart => exact ⟨0, by omega, rfl, HZ, rfl⟩
      case round =>
        obtain ⟨k, hk, rfl, HF, rfl⟩ := hrel
        clear HZ
        by_cases hlt : k < X.length
        · obtain ⟨a1, rfl, hb1, hc1⟩ := HX.out k X[k] (List.getElem?_eq_getElem hlt)
          have HU := Lib.hid (HUX.out _ (List.getElem_mem hlt))
          have ht := first_hit hlt (Y := Y)
          have ho := first_on hlt (Y := Y)
          have HT := Lib.hid ht; clear ht
          have HO := Lib.hid ho; clear ho
          generalize X[k] = x at *
          cases hq : decide (x ∈ Y) with
          | true =>
            have HT2 := Lib.hid (HF.out.trans (HT.out hq)); clear HT HO HF
            have HQ := Lib.hid hq; clear hq
            go_wp2_with (at_lookup; refine look_b _ rfl _ _ rfl rfl HM4.out rfl HU.out HQ.out ?_)
            go_ret
            exact ⟨ret_int HT2.out.symm, HB4.out⟩
          | false =>
            have HT2 := Lib.hid (HF.out.trans (HO.out hq)); clear HT HO HF
            have HQ := Lib.hid hq; clear hq
            go_wp2_with (at_lookup; refine look_b _ rfl _ _ rfl rfl HM4.out rfl HU.out HQ.out ?_)
            go_roundw
            case rel => exact ⟨k + 1, by omega, by go_num, HT2, trivial⟩
            case measure => simp [intOf]; omega
        · obtain rfl : k = X.length := by omega
          have hq := HF.out
          rw [first_end] at hq
          have HQ := Lib.hid hq; clear hq HF
          go_wp2
          go_ret
          exact ⟨ret_int HQ.out.symm, HB4.out⟩
end
end Go.Proofs.Ytpipindifeklbaa
