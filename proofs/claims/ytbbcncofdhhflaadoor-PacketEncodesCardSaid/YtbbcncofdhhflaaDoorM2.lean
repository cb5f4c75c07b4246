/- Masks: what the functions that tell answer, for every argument within its type; no other condition but that the table of the lowest bits lies as its initialiser lays it. -/
import Derived.Test.YtbbcncofdhhflaaDoorBase
import Derived.Test.YtbbcncofdhhflaaDoorM0
import Derived.Laws.BitsAllLaws
namespace Go.Proofs.YtbbcncofdhhflaaDoor
open Go.RowKit

/-- Two, so often. -/
def pw (k : Nat) : Nat := 2 ^ k
theorem pw_zero : pw 0 = 1 := rfl
theorem pw_succ (k : Nat) : pw (k + 1) = 2 * pw k := by unfold pw; rw [Nat.pow_succ, Nat.mul_comm]
theorem pw_le (k : Nat) (h : k ≤ 30) : pw k ≤ 1073741824 := Nat.pow_le_pow_right (n := 2) (j := 30) (by decide) h
theorem pw_lt (k : Nat) (h : k < 32) : pw k < 4294967296 := by
  have : pw k ≤ 2147483648 := Nat.pow_le_pow_right (n := 2) (j := 31) (by decide) (by omega)
  omega
theorem pw_pos (k : Nat) : 0 < pw k := Nat.pow_pos (by decide)

set_option maxHeartbeats 400000 in
theorem pow_any (n : Nat) (w : World) (hn : n < 32) :
    Calls Tryd.prog 60 #[.int .i64 n] w fun e w' => e = .returned (.int .u32 (pw n : Nat)) ∧ w' = w := by
  go_enter Tryd.func60, Tryd.ntmps60
  go_wp2
  go_loop [3, 4] (fun p i => ∃ k : Nat, k ≤ n ∧ i = .int .i64 k ∧ p = .int .u32 (pw k : Nat)) (fun _ i => n - (intOf i).toNat)
  case atStart => exact ⟨0, by omega, rfl, rfl⟩
  case round =>
    obtain ⟨k, hk, rfl, rfl⟩ := hrel
    by_cases hlt : k < n
    · have hp := pw_le k (by omega)
      have hs := pw_succ k
      generalize pw k = q at *
      have HS := Lib.hid hs; clear hs
      go_wp2
      go_round
      case rel => exact ⟨k + 1, by omega, by go_num, by rw [HS.out]; go_num⟩
      case measure => simp [intOf]; omega
    · obtain rfl : k = n := by omega
      go_wp2
      go_ret
      exact ⟨rfl, rfl⟩

set_option maxHeartbeats 400000 in
theorem rhas_yes (m k : Nat) (w : World) (hk : k < 32) :
    Calls Tryd.prog 53 #[.int .u32 m, .int .i64 k] w fun e w' => e = .returned (.bool (hasB m k)) ∧ w' = w := by
  have hp := pw_lt k hk
  have hp2 := pw_pos k
  have hd : decide (m / pw k % 2 = 1) = hasB m k := hasB_div m k hk
  have hd2 : m / pw k ≤ m := Nat.div_le_self _ _
  have hpow := pow_any k w hk
  generalize pw k = q at *
  have HD := Lib.hid hd; clear hd
  have hz : ((q : Int) == 0) = false := nat_int_zero q (by omega)
  have c1 : (m : Int) / (q : Int) = ((m / q : Nat) : Int) := rfl
  have HC := Lib.hid c1; clear c1
  go_enter Tryd.func53, Tryd.ntmps53
  go_wp2_with fail
  refine hpow.mono ?_
  rintro e w1 ⟨rfl, rfl⟩
  go_wp2_with fail
  go_ret
  exact ⟨ret_bool (by rw [← HD.out]; exact bit_mod _), rfl⟩

set_option maxHeartbeats 400000 in
theorem rhas_low (m : Nat) (i : Int) (w : World) (h : i < 0) :
    Calls Tryd.prog 53 #[.int .u32 m, .int .i64 i] w fun e w' => e = .returned (.bool (hasB m i)) ∧ w' = w := by
  have hb : hasB m i = false := by
    unfold hasB
    have : ¬ 0 ≤ i := by omega
    simp [this]
  rw [hb]
  go_enter Tryd.func53, Tryd.ntmps53
  go_wp2
  go_ret
  exact ⟨rfl, rfl⟩
set_option maxHeartbeats 400000 in
theorem rhas_high (m : Nat) (i : Int) (w : World) (h : 32 ≤ i) :
    Calls Tryd.prog 53 #[.int .u32 m, .int .i64 i] w fun e w' => e = .returned (.bool (hasB m i)) ∧ w' = w := by
  have h0 : 0 ≤ i := by omega
  have h1 : ¬ i < 32 := by omega
  have hb : hasB m i = false := by
    unfold hasB
    simp [h1]
  rw [hb]
  go_enter Tryd.func53, Tryd.ntmps53
  go_wp2
  go_ret
  exact ⟨rfl, rfl⟩
theorem rhas_any (m : Nat) (i : Int) (w : World) :
    Calls Tryd.prog 53 #[.int .u32 m, .int .i64 i] w fun e w' => e = .returned (.bool (hasB m i)) ∧ w' = w := by
  by_cases h0 : i < 0
  · exact rhas_low m i w h0
  by_cases h1 : 32 ≤ i
  · exact rhas_high m i w h1
  obtain ⟨k, rfl⟩ := Int.eq_ofNat_of_zero_le (show 0 ≤ i by omega)
  exact rhas_yes m k w (by omega)

set_option maxHeartbeats 400000 in
theorem all_no (n : Int) (w : World) (h : ¬ (1 ≤ n ∧ n ≤ 32)) :
    Calls Tryd.prog 52 #[.int .i64 n] w fun e w' => e = .returned (.int .u32 (allB n : Nat)) ∧ w' = w := by
  rw [allB_no n h]
  by_cases h1 : n < 1
  · clear h
    go_enter Tryd.func52, Tryd.ntmps52
    go_wp2
    go_ret
    exact ⟨rfl, rfl⟩
  · have h2 : 32 < n := by omega
    clear h
    go_enter Tryd.func52, Tryd.ntmps52
    go_wp2
    go_ret
    exact ⟨rfl, rfl⟩
theorem all_div (n : Nat) (h : n ≤ 32) : (4294967295 : Int) / ((2 ^ (32 - n) : Nat) : Int) = ((2 ^ n - 1 : Nat) : Int) := by
  rw [← all_shift ⟨n, by omega⟩]; rfl
set_option maxHeartbeats 400000 in
theorem all_yes (n : Nat) (w : World) (h0 : 1 ≤ n) (h1 : n ≤ 32) :
    Calls Tryd.prog 52 #[.int .i64 n] w fun e w' => e = .returned (.int .u32 (allB n : Nat)) ∧ w' = w := by
  have hd := all_div n h1
  have ha := allB_of n (by omega) (by omega)
  rw [Int.toNat_natCast] at ha
  rw [← ha] at hd
  clear ha
  generalize allB n = x at *
  obtain ⟨d, hd2⟩ : ∃ d : Nat, 32 - n = d := ⟨_, rfl⟩
  have e : (32 : Int) - (n : Int) = (d : Int) := by omega
  rw [hd2] at hd
  have HD := Lib.hid hd; clear hd
  have hd32 : d < 32 := by omega
  clear hd2
  have k0 : ¬ (n : Int) < 1 := by omega
  have k1 : ¬ (n : Int) > 32 := by omega
  go_enter Tryd.func52, Tryd.ntmps52
  go_wp2_with (simp only [e])
  go_ret
  refine ⟨ret_int ?_, rfl⟩
  have h := HD.out
  rw [Int.natCast_pow] at h
  exact h
theorem all_any (n : Int) (w : World) :
    Calls Tryd.prog 52 #[.int .i64 n] w fun e w' => e = .returned (.int .u32 (allB n : Nat)) ∧ w' = w := by
  by_cases h : 1 ≤ n ∧ n ≤ 32
  · obtain ⟨k, rfl⟩ := Int.eq_ofNat_of_zero_le (show 0 ≤ n by omega)
    exact all_yes k w (by omega) (by omega)
  · exact all_no n w h

theorem nat_beq (a b : Nat) : ((a : Int) == (b : Int)) = (a == b) := by
  rw [Bool.eq_iff_iff, beq_iff_eq, beq_iff_eq]; omega
theorem nat_bne0 (a : Nat) : ((a : Int) != 0) = (a != 0) := by
  rw [Bool.eq_iff_iff, bne_iff_ne, bne_iff_ne]; omega
theorem nat_beq0 (a : Nat) : ((a : Int) == 0) = (a == 0) := by
  rw [Bool.eq_iff_iff, beq_iff_eq, beq_iff_eq]; omega
set_option maxHeartbeats 400000 in
theorem mright_any (m : Nat) (n : Int) (w : World) (hm : m < 4294967296) :
    Calls Tryd.prog 39 #[.int .u32 m, .int .i64 n] w fun e w' => e = .returned (.bool (mrightB m n)) ∧ w' = w := by
  have ha := allB_lt n
  have hb := u32_andNot_nat m (allB n) hm ha
  have hr := right_all m n hm
  rw [← nat_bne0, ← nat_beq0, ← hb] at hr
  have hall := all_any n w
  generalize allB n = x at *
  clear hb
  have HR := Lib.hid hr; clear hr
  go_enter Tryd.func39, Tryd.ntmps39
  go_wp2_with fail
  refine hall.mono ?_
  rintro e w1 ⟨rfl, rfl⟩
  by_cases hx : x = 0
  · subst hx
    go_wp2
    go_ret
    exact ⟨ret_bool (by rw [← HR.out]; rfl), rfl⟩
  · have hx2 : ((x : Int) != 0) = true := by rw [bne_iff_ne]; omega
    clear hx
    go_wp2
    go_ret
    exact ⟨ret_bool (by rw [← HR.out, hx2]; rfl), rfl⟩

set_option maxHeartbeats 400000 in
theorem rright_no (m : Nat) (n : Int) (w : World) (h : ¬ (1 ≤ n ∧ n ≤ 32)) :
    Calls Tryd.prog 40 #[.int .u32 m, .int .i64 n] w fun e w' => e = .returned (.bool (mrightB m n)) ∧ w' = w := by
  have hr : mrightB m n = false := by unfold mrightB; rw [decide_eq_false h]; rfl
  rw [hr]
  by_cases h1 : n < 1
  · clear h
    go_enter Tryd.func40, Tryd.ntmps40
    go_wp2
    go_ret
    exact ⟨rfl, rfl⟩
  · have h2 : 32 < n := by omega
    clear h
    go_enter Tryd.func40, Tryd.ntmps40
    go_wp2
    go_ret
    exact ⟨rfl, rfl⟩
theorem right_break (m : Nat) (n : Int) (k : Nat) (hm : m < 4294967296) (h0 : 1 ≤ n) (h1 : n ≤ 32) (hk : n ≤ k) (h : hasB m k = true) : mrightB m n = false := by
  rw [Bool.eq_false_iff]
  intro hr
  unfold hasB at h
  simp only [Bool.and_eq_true, decide_eq_true_eq, Int.toNat_natCast] at h
  rw [(right_bits m n hm h0 h1).1 hr k hk (by omega)] at h
  exact absurd h.2.2 (by decide)
theorem hasB_no {m k : Nat} (hk : k < 32) (h : hasB m k = false) : m.testBit k = false := by
  unfold hasB at h
  have h0 : (0 : Int) ≤ k := by omega
  have h1 : (k : Int) < 32 := by omega
  simpa [h1] using h
set_option maxHeartbeats 400000 in
theorem rright_yes (m : Nat) (n : Nat) (w : World) (hm : m < 4294967296) (h0 : 1 ≤ n) (h1 : n ≤ 32) :
    Calls Tryd.prog 40 #[.int .u32 m, .int .i64 n] w fun e w' => e = .returned (.bool (mrightB m n)) ∧ w' = w := by
  have k0 : ¬ (n : Int) < 1 := by omega
  have k1 : ¬ (n : Int) > 32 := by omega
  go_enter Tryd.func40, Tryd.ntmps40
  go_wp2
  go_loop [5] (fun i => ∃ k : Nat, n ≤ k ∧ k ≤ 32 ∧ i = .int .i64 k ∧ ∀ j : Nat, n ≤ j → j < k → m.testBit j = false) (fun i => 32 - (intOf i).toNat)
  case atStart => exact ⟨n, by omega, by omega, rfl, fun j q1 q2 => by omega⟩
  case round =>
    obtain ⟨k, hk, hk2, rfl, hbits⟩ := hrel
    by_cases hlt : k < 32
    · have hh := fun w => rhas_any m k w
      have hbr := right_break m n k hm (by omega) (by omega) (by omega)
      have hno := hasB_no (m := m) hlt
      have HB := Lib.hid hbits; clear hbits
      cases hx : hasB m k with
      | true =>
        have HX := Lib.hid (hbr hx); clear hbr hno
        go_wp2_with fail
        refine (hh _).mono ?_
        rintro e w1 ⟨rfl, rfl⟩
        rw [hx]
        go_wp2_with fail
        go_ret
        exact ⟨ret_bool HX.out.symm, rfl⟩
      | false =>
        have HX := Lib.hid (hno hx); clear hbr hno
        go_wp2_with fail
        refine (hh _).mono ?_
        rintro e w1 ⟨rfl, rfl⟩
        rw [hx]
        go_wp2_with fail
        go_round
        case rel => exact ⟨k + 1, by omega, by omega, by go_num, fun j q1 q2 => by
          by_cases e : j = k
          · subst e; exact HX.out
          · exact HB.out j q1 (by omega)⟩
        case measure => simp [intOf]; omega
    · obtain rfl : k = 32 := by omega
      have hr : mrightB m n = true := (right_bits m n hm (by omega) (by omega)).2 fun j q1 q2 => hbits j (by omega) q2
      have HR := Lib.hid hr; clear hr
      clear hbits
      go_wp2
      go_ret
      exact ⟨ret_bool HR.out.symm, rfl⟩
theorem mrright_any (m : Nat) (n : Int) (w : World) (hm : m < 4294967296) :
    Calls Tryd.prog 40 #[.int .u32 m, .int .i64 n] w fun e w' => e = .returned (.bool (mrightB m n)) ∧ w' = w := by
  by_cases h : 1 ≤ n ∧ n ≤ 32
  · obtain ⟨k, rfl⟩ := Int.eq_ofNat_of_zero_le (show 0 ≤ n by omega)
    exact rright_yes m k w hm (by omega) (by omega)
  · exact rright_no m n w h
end Go.Proofs.YtbbcncofdhhflaaDoor
