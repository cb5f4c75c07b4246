/- Sums of bytes: what each function that sums, seals and opens answers, for every text of up to 3000 bytes. -/
import Derived.Test.YtbbcncofdhhflaaDoorX1
import Derived.Test.YtbbcncofdhhflaaDoorC0
import Derived.Test.YtbbcncofdhhflaaDoorTX
namespace Go.Proofs.YtbbcncofdhhflaaDoor
open Go.RowKit

theorem step32 (m : Nat) (c : UInt8) (hm : m < 4294967296) : bits .xor .u32 (m : Int) (c.toNat : Int) * 16777619 % 4294967296 = ((step m c : Nat) : Int) := by
  have hc := UInt8.toNat_lt c
  rw [u32_xor_nat _ _ hm (by omega)]
  unfold step
  generalize m ^^^ c.toNat = x
  omega

theorem step64 (m : Nat) (c : UInt8) (hm : m < 4294967296) : (IntKind.u64.wrap (bits .xor .u64 (m : Int) (c.toNat : Int) * 16777619)).tmod 4294967296 = ((step m c : Nat) : Int) := by
  have hc := UInt8.toNat_lt c
  have hx := xor_lt32 m c hm
  rw [u64_xor_nat _ _ (by omega) (by omega)]
  unfold step
  generalize m ^^^ c.toNat = x at *
  rw [IntWalk.u64_in _ (by omega), Int.tmod_eq_emod_of_nonneg (by omega)]
  omega

theorem fnv_take (s : ByteArray) (k : Nat) (h : k < s.size) : fnv (s.data.toList.take (k + 1)) = step (fnv (s.data.toList.take k)) s[k] := by
  rw [List.take_succ_eq_append_getElem (by simpa using h), fnv_snoc]; rfl

set_option maxHeartbeats 400000 in
theorem sum_any (s : ByteArray) (w : World) (hs : (s.size : Int) ≤ 3000) :
    Calls Tryd.prog 34 #[.string s] w fun e w' => e = .returned (.int .u32 (fnv s.data.toList)) ∧ ∃ n, w' = w.drewN n := by
  go_enter Tryd.func34, Tryd.ntmps34
  go_wp2
  go_loop [3, 4, 7] (fun a _ i => ∃ k : Nat, (k : Int) ≤ s.size ∧ i = .int .i64 k ∧ a = .int .u32 (fnv (s.data.toList.take k) : Int)) (fun _ _ i => s.size - (intOf i).toNat)
  case atStart => exact ⟨0, by omega, rfl, rfl⟩
  case round =>
    obtain ⟨k, hk, rfl, rfl⟩ := hrel
    by_cases hlt : (k : Int) < s.size
    · have hv := fnv_lt (s.data.toList.take k)
      have hn := fnv_take s k (by omega)
      generalize fnv (s.data.toList.take k) = m at *
      have hb : (s[k]'(by omega)).toNat < 256 := UInt8.toNat_lt _
      have HN := Lib.hid hn; clear hn
      have hks : k < s.size := by omega
      go_wp2
      go_round
      case rel => exact ⟨k + 1, by omega, by go_num, by rw [HN.out, step32 m s[k] hv]⟩
      case measure => simp [intOf]; omega
    · go_wp2
      go_ret
      exact ⟨ret_int (by rw [List.take_of_length_le (by simp; omega)]), 0, rfl⟩

set_option maxHeartbeats 400000 in
theorem rsum_any (s : ByteArray) (w : World) (hs : (s.size : Int) ≤ 3000) :
    Calls Tryd.prog 27 #[.string s] w fun e w' => e = .returned (.int .u32 (fnv s.data.toList)) ∧ w' = w := by
  go_enter Tryd.func27, Tryd.ntmps27
  go_wp2
  go_loop [3, 4] (fun a i => ∃ k : Nat, (k : Int) ≤ s.size ∧ i = .int .i64 k ∧ a = .int .u64 (fnv (s.data.toList.take k) : Int)) (fun _ i => s.size - (intOf i).toNat)
  case atStart => exact ⟨0, by omega, rfl, rfl⟩
  case round =>
    obtain ⟨k, hk, rfl, rfl⟩ := hrel
    have hv := fnv_lt (s.data.toList.take k)
    by_cases hlt : (k : Int) < s.size
    · have hn := fnv_take s k (by omega)
      generalize fnv (s.data.toList.take k) = m at *
      have hb : (s[k]'(by omega)).toNat < 256 := UInt8.toNat_lt _
      have HN := Lib.hid hn; clear hn
      have hks : k < s.size := by omega
      go_wp2
      go_round
      case rel =>
        exact ⟨k + 1, by omega, by go_num, by rw [HN.out, step64 m s[k] hv]⟩
      case measure => simp [intOf]; omega
    · go_wp2
      go_ret
      exact ⟨ret_int (by rw [List.take_of_length_le (by simp; omega)]), rfl⟩

theorem add_sealed (s : ByteArray) : s ++ (⟨(be 4 (fnv s.data.toList)).toArray⟩ : ByteArray) = txt (sealed s.data.toList) := by
  obtain ⟨⟨l⟩⟩ := s
  exact join_str l _

theorem fnv_int (l : List UInt8) : 0 ≤ ((fnv l : Nat) : Int) ∧ ((fnv l : Nat) : Int) < 4294967296 := by
  have := fnv_lt l
  omega

set_option maxHeartbeats 400000 in
theorem seal_any (s : ByteArray) (w : World) (hs : (s.size : Int) ≤ 3000) :
    Calls Tryd.prog 17 #[.string s] w fun e w' => e = .returned (.string (txt (sealed s.data.toList))) ∧ Below w.heap.size w w' := by
  go_enter Tryd.func17, Tryd.ntmps17
  go_wp2_with fail
  refine (sum_any _ _ hs).mono ?_
  rintro e w1 ⟨rfl, n1, rfl⟩
  go_wp2_with fail
  refine (put32_any _ _ (fnv_int _).1 (fnv_int _).2).mono ?_
  rintro e w2 ⟨rfl, hb2⟩
  rw [Int.toNat_natCast]
  generalize hp : (⟨(be 4 (fnv s.data.toList)).toArray⟩ : ByteArray) = p
  have hz : (p.size : Int) ≤ 4 := by rw [← hp]; simp [ByteArray.size, be_length]
  have HP := Lib.hid hp; clear hp
  go_wp2_with fail
  go_ret
  exact ⟨ret_str (by rw [← HP.out]; exact add_sealed s), (below_drewN (Below.refl _ _) n1).trans hb2⟩

set_option maxHeartbeats 400000 in
theorem rseal_any (s : ByteArray) (w : World) (hs : (s.size : Int) ≤ 3000) :
    Calls Tryd.prog 12 #[.string s] w fun e w' => e = .returned (.string (txt (sealed s.data.toList))) ∧ Below w.heap.size w w' := by
  go_enter Tryd.func12, Tryd.ntmps12
  go_wp2_with fail
  refine (rsum_any _ _ hs).mono ?_
  rintro e w1 ⟨rfl, rfl⟩
  go_wp2_with fail
  refine (rput32_any _ _ (fnv_int _).1 (fnv_int _).2).mono ?_
  rintro e w2 ⟨rfl, hb2⟩
  rw [Int.toNat_natCast]
  generalize hp : (⟨(be 4 (fnv s.data.toList)).toArray⟩ : ByteArray) = p
  have hz : (p.size : Int) ≤ 4 := by rw [← hp]; simp [ByteArray.size, be_length]
  have HP := Lib.hid hp; clear hp
  go_wp2_with fail
  go_ret
  exact ⟨ret_str (by rw [← HP.out]; exact add_sealed s), hb2⟩
end Go.Proofs.YtbbcncofdhhflaaDoor
