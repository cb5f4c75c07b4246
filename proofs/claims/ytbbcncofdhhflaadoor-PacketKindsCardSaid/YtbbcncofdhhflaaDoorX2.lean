/- Flags as a byte: what both functions answer, for every list that a slice of bools reads as; no other condition. -/
import Derived.Test.YtbbcncofdhhflaaDoorX1
namespace Go.Proofs.YtbbcncofdhhflaaDoor
open Go.RowKit

/-- A slice of bools that reads as a list, nil let in; it lies below block B. -/
def Bs (w : World) (B : Nat) (A : Option Addr) (l : List Bool) : Prop :=
  ∀ (k : Nat) (b : Bool), l[k]? = some b → ∃ a, A = some a ∧ a.block < B ∧ w.cell? (a.add k) = some (.bool b)

theorem fl_take (l : List Bool) (k : Nat) (h : k < l.length) : fl (l.take (k + 1)) = fl (l.take k) + l[k].toNat * 2 ^ k := by
  rw [List.take_succ_eq_append_getElem h, fl_snoc, List.length_take, Nat.min_eq_left (by omega)]

theorem pow2_le (k : Nat) (h : k < 8) : 2 ^ k ≤ 128 := by
  have : 2 ^ k ≤ 2 ^ 7 := Nat.pow_le_pow_right (by decide) (by omega)
  simpa using this

theorem or_bit (x k : Nat) (hk : k < 8) (hx : x < 2 ^ k) : bits .or .u8 (x : Int) (2 ^ k % 256) = ((x + 2 ^ k : Nat) : Int) := by
  have h2 := pow2_le k hk
  rw [show ((2 : Int) ^ k % 256) = ((2 ^ k : Nat) : Int) from by
    have : ((2 : Int) ^ k) = ((2 ^ k : Nat) : Int) := by simp
    rw [this]; omega]
  rw [u8_or_nat _ _ (by omega) (by omega), Nat.or_comm, nat_join k (2 ^ k) x (by simp) hx, Nat.add_comm]

set_option maxHeartbeats 400000 in
theorem flags_any (A : Option Addr) (c : Nat) (l : List Bool) (w : World) (B : Nat) (h : Bs w B A l) (hc : l.length ≤ c) (hm : c ≤ maxLen) :
    Calls Tryd.prog 50 #[.slice A l.length c] w fun e w' => e = .returned (.int .u8 (fl (l.take 8))) ∧ w' = w := by
  unfold maxLen at hm
  have H := Lib.hid h; clear h
  by_cases h8 : (l.length : Int) ≤ 8
  · have h8' : ¬ ((8 : Int) < l.length) := by omega
    go_enter Tryd.func50, Tryd.ntmps50
    go_wp2
    go_loop [3, 12] (fun b i => ∃ k : Nat, k ≤ l.length ∧ i = .int .i64 k ∧ b = .int .u8 (fl (l.take k) : Int)) (fun _ i => l.length - (intOf i).toNat)
    case atStart => exact ⟨0, by omega, rfl, rfl⟩
    case round =>
      obtain ⟨k, hk, rfl, rfl⟩ := hrel
      by_cases hlt : k < l.length
      · have hkl : k < l.length := by omega
        obtain ⟨a, rfl, hb, hcell⟩ := H.out k l[k] (List.getElem?_eq_getElem hkl)
        have hft := fl_take l k hkl
        have hfl := fl_lt (l.take k)
        rw [List.length_take, Nat.min_eq_left (by omega)] at hfl
        have HT := Lib.hid hft; clear hft
        have HL := Lib.hid hfl; clear hfl
        cases hv : l[k]
        · rw [hv] at hcell
          have HV := Lib.hid hv; clear hv
          go_wp2
          go_round
          case rel => exact ⟨k + 1, by omega, by go_num, by rw [HT.out, HV.out]; simp⟩
          case measure => simp [intOf]; omega
        · rw [hv] at hcell
          have HV := Lib.hid hv; clear hv
          go_wp2
          go_round
          case rel => exact ⟨k + 1, by omega, by go_num, by rw [HT.out, HV.out, or_bit _ _ (by omega) HL.out]; simp⟩
          case measure => simp [intOf]; omega
      · go_wp2
        go_ret
        exact ⟨ret_int (by rw [List.take_of_length_le (show l.length ≤ k by omega), List.take_of_length_le (show l.length ≤ 8 by omega)]), rfl⟩
  · have h8' : ((8 : Int) < l.length) := by omega
    clear h8
    go_enter Tryd.func50, Tryd.ntmps50
    go_wp2
    go_loop [3, 12] (fun b i => ∃ k : Nat, k ≤ 8 ∧ i = .int .i64 k ∧ b = .int .u8 (fl (l.take k) : Int)) (fun _ i => 8 - (intOf i).toNat)
    case atStart => exact ⟨0, by omega, rfl, rfl⟩
    case round =>
      obtain ⟨k, hk, rfl, rfl⟩ := hrel
      by_cases hlt : k < 8
      · have hkl : k < l.length := by omega
        obtain ⟨a, rfl, hb, hcell⟩ := H.out k l[k] (List.getElem?_eq_getElem hkl)
        have hft := fl_take l k hkl
        have hfl := fl_lt (l.take k)
        rw [List.length_take, Nat.min_eq_left (by omega)] at hfl
        have HT := Lib.hid hft; clear hft
        have HL := Lib.hid hfl; clear hfl
        cases hv : l[k]
        · rw [hv] at hcell
          have HV := Lib.hid hv; clear hv
          go_wp2
          go_round
          case rel => exact ⟨k + 1, by omega, by go_num, by rw [HT.out, HV.out]; simp⟩
          case measure => simp [intOf]; omega
        · rw [hv] at hcell
          have HV := Lib.hid hv; clear hv
          go_wp2
          go_round
          case rel => exact ⟨k + 1, by omega, by go_num, by rw [HT.out, HV.out, or_bit _ _ (by omega) HL.out]; simp⟩
          case measure => simp [intOf]; omega
      · go_wp2
        go_ret
        exact ⟨ret_int (by rw [show k = 8 by omega]), rfl⟩

set_option maxHeartbeats 400000 in
theorem rflags_any (A : Option Addr) (c : Nat) (l : List Bool) (w : World) (B : Nat) (h : Bs w B A l) (_hc : l.length ≤ c) (_hm : c ≤ maxLen) :
    Calls Tryd.prog 51 #[.slice A l.length c] w fun e w' => e = .returned (.int .u8 (fl (l.take 8))) ∧ w' = w := by
  have H := Lib.hid h; clear h
  go_enter Tryd.func51, Tryd.ntmps51
  go_wp2
  go_loop [3, 4, 5] (fun b p i => ∃ k : Nat, k ≤ 8 ∧ k ≤ l.length ∧ i = .int .i64 k ∧ b = .int .u8 (fl (l.take k) : Int) ∧ p = .int .u8 ((2 ^ k % 256 : Nat) : Int)) (fun _ _ i => 8 - (intOf i).toNat)
  case atStart => exact ⟨0, by omega, by omega, rfl, rfl, rfl⟩
  case round =>
    obtain ⟨k, hk8, hk, rfl, rfl, rfl⟩ := hrel
    by_cases hkl : k < l.length
    · by_cases hk8' : k < 8
      · obtain ⟨a, rfl, hb, hcell⟩ := H.out k l[k] (List.getElem?_eq_getElem hkl)
        have hft := fl_take l k hkl
        have hfl := fl_lt (l.take k)
        rw [List.length_take, Nat.min_eq_left (by omega)] at hfl
        have h2 := pow2_le k hk8'
        have h3 : 2 ^ (k + 1) % 256 = 2 ^ k % 256 * 2 % 256 := by rw [Nat.pow_succ]; omega
        have h4 : 2 ^ k % 256 = 2 ^ k := by omega
        have hs : fl (l.take k) + 2 ^ k % 256 < 256 := by omega
        have HT := Lib.hid hft; clear hft
        have HL := Lib.hid hfl; clear hfl
        have H3 := Lib.hid h3; clear h3
        have H4 := Lib.hid h4; clear h4
        clear h2
        generalize hP : 2 ^ k % 256 = P at *
        have HP := Lib.hid hP; clear hP
        cases hv : l[k]
        · rw [hv] at hcell
          have HV := Lib.hid hv; clear hv
          go_wp2
          go_round
          case rel => exact ⟨k + 1, by omega, by omega, by go_num, by rw [HT.out, HV.out]; simp, by rw [H3.out]; go_num⟩
          case measure => simp [intOf]; omega
        · rw [hv] at hcell
          have HV := Lib.hid hv; clear hv
          go_wp2
          go_round
          case rel => exact ⟨k + 1, by omega, by omega, by go_num, by rw [HT.out, HV.out, ← H4.out]; simp, by rw [H3.out]; go_num⟩
          case measure => simp [intOf]; omega
      · go_wp2
        go_ret
        exact ⟨ret_int (by rw [show k = 8 by omega]), rfl⟩
    · go_wp2
      go_ret
      exact ⟨ret_int (by rw [List.take_of_length_le (show l.length ≤ k by omega), List.take_of_length_le (show l.length ≤ 8 by omega)]), rfl⟩
end Go.Proofs.YtbbcncofdhhflaaDoor
