/- Disks: whether two are the same, as both sides tell it, for every two. No other condition but that their lists lie in memory. -/
import Derived.Test.YtlgfinomkpingaaD2
import Derived.Test.YtlgfinomkpingaaD4
namespace Go.Proofs.Ytlgfinomkpingaa
open Go.RowKit

/-- The same ones? -/
def sameB (s1 s2 : List ByteArray) (c1 c2 : List (Int × ByteArray)) (f1 f2 : Int) (x1 x2 : Bool) : Bool := decide (s1 = s2) && decide (c1 = c2) && (f1 == f2) && (x1 == x2)
theorem same_no1 {s1 s2 : List ByteArray} {c1 c2 : List (Int × ByteArray)} {f1 f2 : Int} {x1 x2 : Bool} (h : s1 ≠ s2) : sameB s1 s2 c1 c2 f1 f2 x1 x2 = false := by unfold sameB; rw [decide_eq_false h]; rfl
theorem same_no2 {s1 s2 : List ByteArray} {c1 c2 : List (Int × ByteArray)} {f1 f2 : Int} {x1 x2 : Bool} (h : c1 ≠ c2) : sameB s1 s2 c1 c2 f1 f2 x1 x2 = false := by unfold sameB; rw [decide_eq_false h, Bool.and_false]; rfl
theorem same_no3 {s1 s2 : List ByteArray} {c1 c2 : List (Int × ByteArray)} {f1 f2 : Int} {x1 x2 : Bool} (h : (f1 == f2) = false) : sameB s1 s2 c1 c2 f1 f2 x1 x2 = false := by unfold sameB; rw [h, Bool.and_false]; rfl
theorem same_no4 {s1 s2 : List ByteArray} {c1 c2 : List (Int × ByteArray)} {f1 f2 : Int} {x1 x2 : Bool} (h : (x1 == x2) = false) : sameB s1 s2 c1 c2 f1 f2 x1 x2 = false := by unfold sameB; rw [h, Bool.and_false]
theorem same_yes {s1 s2 : List ByteArray} {c1 c2 : List (Int × ByteArray)} {f1 f2 : Int} {x1 x2 : Bool} (h1 : s1 = s2) (h2 : c1 = c2) (h3 : (f1 == f2) = true) (h4 : (x1 == x2) = true) : sameB s1 s2 c1 c2 f1 f2 x1 x2 = true := by
  unfold sameB; rw [decide_eq_true h1, decide_eq_true h2, h3, h4]; rfl
theorem same_is {s1 s2 : List ByteArray} {c1 c2 : List (Int × ByteArray)} {f1 f2 : Int} {x1 x2 : Bool} (h1 : s1 = s2) (h2 : c1 = c2) (h3 : f1 = f2) (h4 : x1 = x2) : sameB s1 s2 c1 c2 f1 f2 x1 x2 = true :=
  same_yes h1 h2 (by simp [h3]) (by simp [h4])

set_option maxRecDepth 100000 in
set_option maxHeartbeats 2000000 in
theorem rsame_any (A1 B1 A2 B2 : Option Addr) (n1 m1 n2 m2 : Nat) (s1 s2 : List ByteArray) (c1 c2 : List (Int × ByteArray)) (f1 f2 : Int) (x1 x2 : Bool) (w : World)
    (hs1 : Es Value.string w w.heap.size A1 s1) (hc1 : Ws w w.heap.size B1 c1) (hs2 : Es Value.string w w.heap.size A2 s2) (hc2 : Ws w w.heap.size B2 c2)
    (ms1 : s1.length ≤ maxLen) (mc1 : c1.length ≤ maxLen) :
    Calls Try.prog 15 #[.agg #[.slice A1 s1.length n1, .slice B1 c1.length m1, .int .i64 f1, .bool x1], .agg #[.slice A2 s2.length n2, .slice B2 c2.length m2, .int .i64 f2, .bool x2]] w
      fun e w' => e = .returned (.bool (sameB s1 s2 c1 c2 f1 f2 x1 x2)) ∧ Below w.heap.size w w' := by
  unfold maxLen at ms1 mc1
  have hgd := wr_guard
  have HS1 := Lib.hid hs1; clear hs1
  have HS2 := Lib.hid hs2; clear hs2
  have HC1 := Lib.hid hc1; clear hc1
  have HC2 := Lib.hid hc2; clear hc2
  by_cases hl : s1.length = s2.length
  rotate_left
  · rw [same_no1 (fun e => hl (by rw [e]))]
    have hli : ((s1.length : Int) == (s2.length : Int)) = false := by rw [beq_eq_false_iff_ne]; omega
    have hnb : ((s1.length : Int) != (s2.length : Int)) = true := by simp [bne, hli]
    clear hl
    go_enter Try.func15, Try.ntmps15
    go_wp2
    go_ret
    exact ⟨rfl, below2⟩
  by_cases hk : c1.length = c2.length
  rotate_left
  · rw [same_no2 (fun e => hk (by rw [e]))]
    have hli : ((s1.length : Int) == (s2.length : Int)) = true := by simp [hl]
    have hnb : ((s1.length : Int) != (s2.length : Int)) = false := by simp [bne, hli]
    have hki : ((c1.length : Int) == (c2.length : Int)) = false := by rw [beq_eq_false_iff_ne]; omega
    have hkb : ((c1.length : Int) != (c2.length : Int)) = true := by simp [bne, hki]
    clear hl hk
    go_enter Try.func15, Try.ntmps15
    go_wp2
    go_ret
    exact ⟨rfl, below2⟩
  have HL := Lib.hid hl
  have HK := Lib.hid hk
  have hli : ((s1.length : Int) == (s2.length : Int)) = true := by simp [hl]
  have hnb : ((s1.length : Int) != (s2.length : Int)) = false := by simp [bne, hli]
  have hki : ((c1.length : Int) == (c2.length : Int)) = true := by simp [hk]
  have hkb : ((c1.length : Int) != (c2.length : Int)) = false := by simp [bne, hki]
  clear hl hk
  cases h3 : (f1 == f2) with
  | false =>
    rw [same_no3 h3]
    have h3b : (f1 != f2) = true := by simp [bne, h3]
    go_enter Try.func15, Try.ntmps15
    go_wp2
    go_ret
    exact ⟨rfl, below2⟩
  | true =>
  have h3b : (f1 != f2) = false := by simp [bne, h3]
  cases h4 : (x1 == x2) with
  | false =>
    rw [same_no4 h4]
    have h4b : (x1 != x2) = true := by simp [bne, h4]
    go_enter Try.func15, Try.ntmps15
    go_wp2
    go_ret
    exact ⟨rfl, below2⟩
  | true =>
  have h4b : (x1 != x2) = false := by simp [bne, h4]
  have hn1 := @same_no1 s1 s2 c1 c2 f1 f2 x1 x2
  have hn2 := @same_no2 s1 s2 c1 c2 f1 f2 x1 x2
  have hy := fun e1 e2 => @same_yes s1 s2 c1 c2 f1 f2 x1 x2 e1 e2 h3 h4
  generalize sameB s1 s2 c1 c2 f1 f2 x1 x2 = r at *
  have HN1 := Lib.hid hn1; clear hn1
  have HN2 := Lib.hid hn2; clear hn2
  have HY := Lib.hid hy; clear hy
  go_enter Try.func15, Try.ntmps15
  go_wp2
  go_loopw [5] (fun i wr => ∃ k n : Nat, k ≤ s1.length ∧ i = .int .i64 k ∧ Hid (s1.take k = s2.take k) ∧ wr = ((w.alloc (.cells #[.slice A1 s1.length n1, .slice B1 c1.length m1, .int .i64 f1, .bool x1] 25)).alloc (.cells #[.slice A2 s2.length n2, .slice B2 c2.length m2, .int .i64 f2, .bool x2] 25)).drewN n) (fun i _ => s1.length - (intOf i).toNat)
  case atStart => exact ⟨0, 0, by omega, rfl, by simp [Hid], rfl⟩
  case round =>
    obtain ⟨k, n, hk, rfl, hp, rfl⟩ := hrel
    by_cases hlt : k < s1.length
    · have hlt2 : k < s2.length := by rw [← HL.out]; exact hlt
      obtain ⟨a1, rfl, hb1, hc1⟩ := HS1.out k s1[k] (List.getElem?_eq_getElem hlt)
      obtain ⟨a2, rfl, hb2, hc2⟩ := HS2.out k s2[k] (List.getElem?_eq_getElem hlt2)
      have hd1 := cell_past2 hc1
      have hd2 := cell_past2 hc2
      have hs := eq_take_step hlt hlt2 hp.out
      have hh := eq_take_no hlt hlt2
      have HS := Lib.hid hs; clear hs
      have HH := Lib.hid hh; clear hh
      clear hp hc1 hc2
      generalize s1[k] = x at *
      generalize s2[k] = y at *
      by_cases hxy : x = y
      · have he : (x.toList == y.toList) = true := by rw [text_eq, decide_eq_true hxy]
        have HX := Lib.hid hxy; clear hxy
        go_wp2
        go_quiet (fail)
        go_wp2
        go_roundw
        case rel => exact ⟨k + 1, _, by omega, by go_num, HS.out HX.out, rfl⟩
        case measure => simp [intOf]; omega
      · have he : (x.toList == y.toList) = false := by rw [text_eq, decide_eq_false hxy]
        have hne := HN1.out (HH.out hxy)
        have HN := Lib.hid hne; clear hne
        clear hxy HH HS
        go_wp2
        go_quiet (fail)
        go_wp2
        go_ret
        exact ⟨ret_bool HN.out.symm, ext_drewN (ext_drewN below2 _) _⟩
    · obtain rfl : k = s1.length := by omega
      have hq := eq_take_yes HL.out hp.out
      have HQ := Lib.hid hq; clear hq
      clear hp
      go_wp2
      go_loopw [6] (fun i wr => ∃ k n : Nat, k ≤ c1.length ∧ i = .int .i64 k ∧ Hid (c1.take k = c2.take k) ∧ wr = ((w.alloc (.cells #[.slice A1 s1.length n1, .slice B1 c1.length m1, .int .i64 f1, .bool x1] 25)).alloc (.cells #[.slice A2 s2.length n2, .slice B2 c2.length m2, .int .i64 f2, .bool x2] 25)).drewN n) (fun i _ => c1.length - (intOf i).toNat)
      case atStart => exact ⟨0, _, by omega, rfl, by simp [Hid], rfl⟩
      case round =>
        obtain ⟨k, n, hk, rfl, hp, rfl⟩ := hrel
        by_cases hlt : k < c1.length
        · have hlt2 : k < c2.length := by rw [← HK.out]; exact hlt
          obtain ⟨a1, rfl, hb1, hc1, hd1⟩ := HC1.out k c1[k] (List.getElem?_eq_getElem hlt)
          obtain ⟨a2, rfl, hb2, hc2, hd2⟩ := HC2.out k c2[k] (List.getElem?_eq_getElem hlt2)
          have he1 := cell_past2 hc1
          have he2 := cell_past2 hc2
          have hf1 := cell_past2 hd1
          have hf2 := cell_past2 hd2
          have hs := eq_take_step hlt hlt2 hp.out
          have hh := eq_take_no hlt hlt2
          have HS := Lib.hid hs; clear hs
          have HH := Lib.hid hh; clear hh
          clear hp hc1 hc2 hd1 hd2
          generalize c1[k] = x at *
          generalize c2[k] = y at *
          have hq := wr_neq x y
          by_cases hxy : x = y
          · rw [decide_eq_true hxy] at hq
            have HX := Lib.hid hxy; clear hxy
            go_wp2
            go_quiet (fail)
            go_wp2
            go_roundw
            case rel => exact ⟨k + 1, _, by omega, by go_num, HS.out HX.out, rfl⟩
            case measure => simp [intOf]; omega
          · rw [decide_eq_false hxy] at hq
            have hne := HN2.out (HH.out hxy)
            have HN := Lib.hid hne; clear hne
            clear hxy HH HS
            go_wp2
            go_quiet (fail)
            go_wp2
            go_ret
            exact ⟨ret_bool HN.out.symm, ext_drewN (ext_drewN below2 _) _⟩
        · obtain rfl : k = c1.length := by omega
          have hq := HY.out HQ.out (eq_take_yes HK.out hp.out)
          have HR := Lib.hid hq; clear hq
          clear hp
          go_wp2
          go_ret
          exact ⟨ret_bool HR.out.symm, ext_drewN below2 _⟩
end Go.Proofs.Ytlgfinomkpingaa
