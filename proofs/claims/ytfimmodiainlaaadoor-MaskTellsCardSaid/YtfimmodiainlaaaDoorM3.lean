/- Masks: the least one from one on: what both functions answer, for every argument within its type; no other condition but that the table of the lowest bits lies as its initialiser lays it. -/
import Derived.Test.YtfimmodiainlaaaDoorM2
namespace Go.Proofs.YtfimmodiainlaaaDoor
open Go.RowKit

/-- What Next answers. -/
def nxE (r : Option Nat) : Ending := .returned (.tuple #[.int .i64 ((r.getD 0 : Nat) : Int), .bool r.isSome])

set_option maxHeartbeats 400000 in
theorem next_high (m : Nat) (f : Int) (w : World) (hm : m < 4294967296) (h : 32 ≤ f) :
    Calls Tryd.prog 7 #[.int .u32 m, .int .i64 f] w fun e w' => e = nxE (nx m f) ∧ w' = w := by
  rw [nx_high m f h]
  have h0 : 0 ≤ f := by omega
  go_enter Tryd.func7, Tryd.ntmps7
  go_wp2
  go_ret2
  exact ⟨rfl, rfl⟩

theorem rest_int (m k : Nat) (hm : m < 4294967296) : (m : Int) / 2 ^ k * 2 ^ k % 4294967296 = ((m / 2 ^ k * 2 ^ k : Nat) : Int) := by
  have h1 : m / 2 ^ k * 2 ^ k ≤ m := Nat.div_mul_le_self _ _
  have e : (m : Int) / 2 ^ k * 2 ^ k = ((m / 2 ^ k * 2 ^ k : Nat) : Int) := by
    rw [Int.natCast_mul, Int.natCast_ediv, Int.natCast_pow]; rfl
  rw [e]
  generalize m / 2 ^ k * 2 ^ k = r at *
  omega

set_option maxHeartbeats 400000 in
theorem next_core (m k : Nat) (w : World) (r x : Nat) (hk : k < 32) (e : (m : Int) / 2 ^ k * 2 ^ k % 4294967296 = (r : Int)) (hz : ((r : Int) == 0) = false)
    (hc : Calls Tryd.prog 26 #[.int .u32 r] w fun e w' => e = .returned (.int .i64 x) ∧ w' = w) :
    Calls Tryd.prog 7 #[.int .u32 m, .int .i64 k] w fun e w' => e = .returned (.tuple #[.int .i64 x, .bool true]) ∧ w' = w := by
  go_enter Tryd.func7, Tryd.ntmps7
  go_wp2_with (simp only [e])
  refine hc.mono ?_
  rintro e w1 ⟨rfl, rfl⟩
  go_wp2_with fail
  go_ret2
  exact ⟨rfl, rfl⟩
set_option maxHeartbeats 400000 in
theorem next_zero (m k : Nat) (w : World) (hk : k < 32) (e : (m : Int) / 2 ^ k * 2 ^ k % 4294967296 = 0) :
    Calls Tryd.prog 7 #[.int .u32 m, .int .i64 k] w fun e w' => e = .returned (.tuple #[.int .i64 0, .bool false]) ∧ w' = w := by
  go_enter Tryd.func7, Tryd.ntmps7
  go_wp2_with (simp only [e])
  go_ret2
  exact ⟨rfl, rfl⟩
theorem next_at (m k : Nat) (w : World) (hm : m < 4294967296) (hk : k < 32) (hT : Tab w) :
    Calls Tryd.prog 7 #[.int .u32 m, .int .i64 k] w fun e w' => e = nxE (nx m k) ∧ w' = w := by
  have e := rest_int m k hm
  by_cases hr : m / 2 ^ k * 2 ^ k = 0
  · rw [rest_none m k hr]
    rw [hr] at e
    exact next_zero m k w hk e
  · rw [rest_some m k hm hr]
    have hlt : m / 2 ^ k * 2 ^ k < 4294967296 := Nat.lt_of_le_of_lt (Nat.div_mul_le_self _ _) hm
    exact next_core m k w _ _ hk e (nat_int_zero _ hr) (tz32_any _ w hlt hr hT)
set_option maxHeartbeats 400000 in
theorem next_low_some (m : Nat) (f : Int) (w : World) (x : Nat) (hm : m < 4294967296) (h : f < 0) (hz : ((m : Int) == 0) = false)
    (hc : Calls Tryd.prog 26 #[.int .u32 m] w fun e w' => e = .returned (.int .i64 x) ∧ w' = w) :
    Calls Tryd.prog 7 #[.int .u32 m, .int .i64 f] w fun e w' => e = .returned (.tuple #[.int .i64 x, .bool true]) ∧ w' = w := by
  have e : (m : Int) % 4294967296 = m := by omega
  go_enter Tryd.func7, Tryd.ntmps7
  go_wp2_with (simp only [e])
  refine hc.mono ?_
  rintro e w1 ⟨rfl, rfl⟩
  go_wp2_with fail
  go_ret2
  exact ⟨rfl, rfl⟩
set_option maxHeartbeats 400000 in
theorem next_low_none (f : Int) (w : World) (h : f < 0) :
    Calls Tryd.prog 7 #[.int .u32 0, .int .i64 f] w fun e w' => e = .returned (.tuple #[.int .i64 0, .bool false]) ∧ w' = w := by
  go_enter Tryd.func7, Tryd.ntmps7
  go_wp2
  go_ret2
  exact ⟨rfl, rfl⟩
theorem next_low (m : Nat) (f : Int) (w : World) (hm : m < 4294967296) (hT : Tab w) (h : f < 0) :
    Calls Tryd.prog 7 #[.int .u32 m, .int .i64 f] w fun e w' => e = nxE (nx m f) ∧ w' = w := by
  rw [nx_low m f h]
  by_cases hr : m = 0
  · subst hr
    have hn : nx 0 0 = none := rest_none 0 0 (by decide)
    rw [hn]
    exact next_low_none f w h
  · have hn : nx m 0 = some (Lib.ctz 32 m) := by
      have := rest_some m 0 hm (by simpa using hr)
      simpa using this
    rw [hn]
    exact next_low_some m f w _ hm h (nat_int_zero _ hr) (tz32_any _ w hm hr hT)
theorem next_any (m : Nat) (f : Int) (w : World) (hm : m < 4294967296) (hT : Tab w) :
    Calls Tryd.prog 7 #[.int .u32 m, .int .i64 f] w fun e w' => e = nxE (nx m f) ∧ w' = w := by
  by_cases h0 : f < 0
  · exact next_low m f w hm hT h0
  by_cases h1 : 32 ≤ f
  · exact next_high m f w hm h1
  obtain ⟨k, rfl⟩ := Int.eq_ofNat_of_zero_le (show 0 ≤ f by omega)
  exact next_at m k w hm (by omega) hT

set_option maxHeartbeats 1000000 in
theorem rnext_any (m : Nat) (f : Int) (w : World) :
    Calls Tryd.prog 8 #[.int .u32 m, .int .i64 f] w fun e w' => e = nxE (nx m f) ∧ w' = w := by
  go_enter Tryd.func8, Tryd.ntmps8
  go_wp2
  go_loop [6] (fun i => ∃ k : Nat, k ≤ 32 ∧ i = .int .i64 k ∧ ∀ j : Nat, j < k → f ≤ j → m.testBit j = false) (fun i => 32 - (intOf i).toNat)
  case atStart => exact ⟨0, by omega, rfl, fun j q1 q2 => by omega⟩
  case round =>
    obtain ⟨k, hk2, rfl, hbits⟩ := hrel
    by_cases hlt : k < 32
    · have hh := fun w => rhas_any m k w
      have HB := Lib.hid hbits; clear hbits
      by_cases hf : f ≤ k
      · cases hx : hasB m k with
        | true =>
          have hs : nx m f = some k := by
            refine nx_some.2 ⟨⟨hf, ?_⟩, hlt, fun j q1 q2 => HB.out j q1 q2⟩
            unfold hasB at hx
            simp only [Bool.and_eq_true, decide_eq_true_eq, Int.toNat_natCast] at hx
            exact hx.2.2
          have HS := Lib.hid hs; clear hs
          go_wp2_with fail
          refine (hh _).mono ?_
          rintro e w1 ⟨rfl, rfl⟩
          rw [hx]
          go_wp2_with fail
          go_ret2
          exact ⟨by rw [HS.out]; rfl, rfl⟩
        | false =>
          have HX := Lib.hid (hasB_no hlt hx)
          go_wp2_with fail
          refine (hh _).mono ?_
          rintro e w1 ⟨rfl, rfl⟩
          rw [hx]
          go_wp2_with fail
          go_round
          case rel => exact ⟨k + 1, by omega, by go_num, fun j q1 q2 => by
            by_cases e : j = k
            · subst e; exact HX.out
            · exact HB.out j (by omega) q2⟩
          case measure => simp [intOf]; omega
      · go_wp2_with fail
        go_round
        case rel => exact ⟨k + 1, by omega, by go_num, fun j q1 q2 => HB.out j (by omega) q2⟩
        case measure => simp [intOf]; omega
    · obtain rfl : k = 32 := by omega
      have hs : nx m f = none := nx_none.2 fun j q1 q2 => hbits j q1 q2
      have HS := Lib.hid hs; clear hs
      clear hbits
      go_wp2
      go_ret2
      exact ⟨by rw [HS.out]; rfl, rfl⟩
end Go.Proofs.YtfimmodiainlaaaDoor
