/- Superblocks out of bytes: what a row of bytes is. No condition. -/
import Derived.Test.YtkjikigimmchlaaGreatDoorKA
import Derived.Deep.RegionHeld3
import Derived.Test.YtkjikigimmchlaaGreatDoorPV
namespace Go.Proofs.YtkjikigimmchlaaGreatDoor
def step (n : Nat) (c : UInt8) : Nat := (n ^^^ c.toNat) * 16777619 % 4294967296
def fnv (l : List UInt8) : Nat := l.foldl step 2166136261
theorem step_lt (n : Nat) (c : UInt8) : step n c < 4294967296 := Nat.mod_lt _ (by decide)
theorem foldl_lt (l : List UInt8) (a : Nat) (h : a < 4294967296) : l.foldl step a < 4294967296 := by
  induction l generalizing a with
  | nil => exact h
  | cons c l ih => exact ih _ (step_lt a c)
theorem fnv_lt (l : List UInt8) : fnv l < 4294967296 := by
  unfold fnv
  exact foldl_lt l 2166136261 (by decide)
theorem fnv_snoc (l : List UInt8) (c : UInt8) : fnv (l ++ [c]) = step (fnv l) c := by
  unfold fnv; rw [List.foldl_append, List.foldl_cons, List.foldl_nil]
theorem xor_lt32 (a : Nat) (c : UInt8) (h : a < 4294967296) : a ^^^ c.toNat < 4294967296 := by
  have hc := UInt8.toNat_lt c
  exact Nat.xor_lt_two_pow (n := 32) h (Nat.lt_of_lt_of_le hc (by decide))
def sealed (l : List UInt8) : List UInt8 := l ++ be 4 (fnv l)
theorem seal_length (l : List UInt8) : (sealed l).length = l.length + 4 := by simp [sealed, be_length]
theorem val_sum (l : List UInt8) : val (be 4 (fnv l)) = fnv l := by
  rw [val_be]; exact Nat.mod_eq_of_lt (fnv_lt l)
end Go.Proofs.YtkjikigimmchlaaGreatDoor
namespace Go.Proofs.YtkjikigimmchlaaGreatDoor
open Go.RowKit
theorem step32 (m : Nat) (c : UInt8) (hm : m < 4294967296) : bits .xor .u32 (m : Int) (c.toNat : Int) * 16777619 % 4294967296 = ((step m c : Nat) : Int) := by
  have hc := UInt8.toNat_lt c
  rw [u32_xor_nat _ _ hm (by omega)]
  unfold step
  generalize m ^^^ c.toNat = x
  omega
theorem step64 (m : Nat) (c : UInt8) (hm : m < 4294967296) : (IntKind.u64.wrap (bits .xor .u64 (m : Int) (c.toNat : Int) * 16777619)).tmod 4294967296 = ((step m c : Nat) : Int) := by
  have hc := UInt8.toNat_lt c
  have hx := xor_lt32 m c hm
  rw [u64_xor_nat _ _ (by omega) (by omega)]
  unfold step
  generalize m ^^^ c.toNat = x at *
  rw [IntWalk.u64_in _ (by omega), Int.tmod_eq_emod_of_nonneg (by omega)]
  omega
theorem fnv_take (s : ByteArray) (k : Nat) (h : k < s.size) : fnv (s.data.toList.take (k + 1)) = step (fnv (s.data.toList.take k)) s[k] := by
  rw [List.take_succ_eq_append_getElem (by simpa using h), fnv_snoc]; rfl
set_option maxHeartbeats 400000 in
theorem sum_any (s : ByteArray) (w : World) (hs : (s.size : Int) ≤ 3000) :
    Calls Tryz.prog 160 #[.string s] w fun e w' => e = .returned (.int .u32 (fnv s.data.toList)) ∧ ∃ n, w' = w.drewN n := by
  go_enter Tryz.func160, Tryz.ntmps160
  go_wp2
  go_loop [3, 4, 7] (fun a _ i => ∃ k : Nat, (k : Int) ≤ s.size ∧ i = .int .i64 k ∧ a = .int .u32 (fnv (s.data.toList.take k) : Int)) (fun _ _ i => s.size - (intOf i).toNat)
  case atStart => exact ⟨0, by omega, rfl, rfl⟩
  case round =>
    obtain ⟨k, hk, rfl, rfl⟩ := hrel
    by_cases hlt : (k : Int) < s.size
    · have hv := fnv_lt (s.data.toList.take k)
      have hn := fnv_take s k (by omega)
      generalize fnv (s.data.toList.take k) = m at *
      have hb : (s[k]'(by omega)).toNat < 256 := UInt8.toNat_lt _
      have HN := Lib.hid hn; clear hn
      have hks : k < s.size := by omega
      go_wp2
      go_round
      case rel => exact ⟨k + 1, by omega, by go_num, by rw [HN.out, step32 m s[k] hv]⟩
      case measure => simp [intOf]; omega
    · go_wp2
      go_ret
      exact ⟨ret_int (by rw [List.take_of_length_le (by simp; omega)]), 0, rfl⟩
set_option maxHeartbeats 400000 in
theorem rsum_any (s : ByteArray) (w : World) (hs : (s.size : Int) ≤ 3000) :
    Calls Tryz.prog 101 #[.string s] w fun e w' => e = .returned (.int .u32 (fnv s.data.toList)) ∧ w' = w := by
  go_enter Tryz.func101, Tryz.ntmps101
  go_wp2
  go_loop [3, 4] (fun a i => ∃ k : Nat, (k : Int) ≤ s.size ∧ i = .int .i64 k ∧ a = .int .u64 (fnv (s.data.toList.take k) : Int)) (fun _ i => s.size - (intOf i).toNat)
  case atStart => exact ⟨0, by omega, rfl, rfl⟩
  case round =>
    obtain ⟨k, hk, rfl, rfl⟩ := hrel
    have hv := fnv_lt (s.data.toList.take k)
    by_cases hlt : (k : Int) < s.size
    · have hn := fnv_take s k (by omega)
      generalize fnv (s.data.toList.take k) = m at *
      have hb : (s[k]'(by omega)).toNat < 256 := UInt8.toNat_lt _
      have HN := Lib.hid hn; clear hn
      have hks : k < s.size := by omega
      go_wp2
      go_round
      case rel =>
        exact ⟨k + 1, by omega, by go_num, by rw [HN.out, step64 m s[k] hv]⟩
      case measure => simp [intOf]; omega
    · go_wp2
      go_ret
      exact ⟨ret_int (by rw [List.take_of_length_le (by simp; omega)]), rfl⟩
theorem add_sealed (s : ByteArray) : s ++ (⟨(be 4 (fnv s.data.toList)).toArray⟩ : ByteArray) = txt (sealed s.data.toList) := by
  obtain ⟨⟨l⟩⟩ := s
  exact join_str l _
theorem fnv_int (l : List UInt8) : 0 ≤ ((fnv l : Nat) : Int) ∧ ((fnv l : Nat) : Int) < 4294967296 := by
  have := fnv_lt l
  omega
set_option maxHeartbeats 400000 in
theorem seal_any (s : ByteArray) (w : World) (hs : (s.size : Int) ≤ 3000) :
    Calls Tryz.prog 162 #[.string s] w fun e w' => e = .returned (.string (txt (sealed s.data.toList))) ∧ Below w.heap.size w w' := by
  go_enter Tryz.func162, Tryz.ntmps162
  go_wp2_with fail
  refine (sum_any _ _ hs).mono ?_
  rintro e w1 ⟨rfl, n1, rfl⟩
  go_wp2_with fail
  refine (put32_any _ _ (fnv_int _).1 (fnv_int _).2).mono ?_
  rintro e w2 ⟨rfl, hb2⟩
  rw [Int.toNat_natCast]
  generalize hp : (⟨(be 4 (fnv s.data.toList)).toArray⟩ : ByteArray) = p
  have hz : (p.size : Int) ≤ 4 := by rw [← hp]; simp [ByteArray.size, be_length]
  have HP := Lib.hid hp; clear hp
  go_wp2_with fail
  go_ret
  exact ⟨ret_str (by rw [← HP.out]; exact add_sealed s), (below_drewN (Below.refl _ _) n1).trans hb2⟩
set_option maxHeartbeats 400000 in
theorem rseal_any (s : ByteArray) (w : World) (hs : (s.size : Int) ≤ 3000) :
    Calls Tryz.prog 54 #[.string s] w fun e w' => e = .returned (.string (txt (sealed s.data.toList))) ∧ Below w.heap.size w w' := by
  go_enter Tryz.func54, Tryz.ntmps54
  go_wp2_with fail
  refine (rsum_any _ _ hs).mono ?_
  rintro e w1 ⟨rfl, rfl⟩
  go_wp2_with fail
  refine (rput32_any _ _ (fnv_int _).1 (fnv_int _).2).mono ?_
  rintro e w2 ⟨rfl, hb2⟩
  rw [Int.toNat_natCast]
  generalize hp : (⟨(be 4 (fnv s.data.toList)).toArray⟩ : ByteArray) = p
  have hz : (p.size : Int) ≤ 4 := by rw [← hp]; simp [ByteArray.size, be_length]
  have HP := Lib.hid hp; clear hp
  go_wp2_with fail
  go_ret
  exact ⟨ret_str (by rw [← HP.out]; exact add_sealed s), hb2⟩
end Go.Proofs.YtkjikigimmchlaaGreatDoor
namespace Go.Proofs.YtkjikigimmchlaaGreatDoor
open Go.RowKit
def whole (n : Nat) (s : ByteArray) : Prop := val (s.data.toList.drop n) = fnv (s.data.toList.take n)
theorem tail_list (s : ByteArray) (n : Nat) : (s.extract n s.size).data.toList = s.data.toList.drop n := by
  obtain ⟨⟨l⟩⟩ := s
  simp [ByteArray.size]
  exact List.take_of_length_le (by simp)
theorem head_list (s : ByteArray) (n : Nat) : (s.extract 0 n).data.toList = s.data.toList.take n := by
  obtain ⟨⟨l⟩⟩ := s
  simp
theorem text_ne {a b : ByteArray} (h : a ≠ b) : (a.toList == b.toList) = false := by
  rw [beq_eq_false_iff_ne, ByteArray.toList_eq, ByteArray.toList_eq]
  intro e
  exact h (ByteArray.ext (by rw [← Array.toList_inj]; exact e))
theorem ret_open {a b : ByteArray} (h : a = b) (c : Int) : Ending.returned (.tuple #[.string a, .int .i64 c]) = .returned (.tuple #[.string b, .int .i64 c]) := by rw [h]
theorem extract_txt (s : ByteArray) (n : Nat) : s.extract 0 n = txt (s.data.toList.take n) := by
  rw [← head_list, txt_of]
set_option maxHeartbeats 400000 in
theorem open_short (s : ByteArray) (w : World) (hs : (s.size : Int) < 4) :
    Calls Tryz.prog 107 #[.string s] w fun e w' => e = .returned (.tuple #[.string ⟨#[]⟩, .int .i64 2]) ∧ ∃ n, w' = w.drewN n := by
  go_enter Tryz.func107, Tryz.ntmps107
  go_wp2
  go_ret2
  exact ⟨rfl, 0, rfl⟩
set_option maxHeartbeats 400000 in
theorem open_good (s : ByteArray) (n : Nat) (w : World) (hs : (s.size : Int) ≤ 3000) (hn : s.size = n + 4) (hw : whole n s) :
    Calls Tryz.prog 107 #[.string s] w fun e w' => e = .returned (.tuple #[.string (txt (s.data.toList.take n)), .int .i64 0]) ∧ ∃ n, w' = w.drewN n := by
  have h4 : ¬ ((s.size : Int) < 4) := by omega
  have he : (s.size : Int) - 4 = (n : Int) := by omega
  have hle : (n : Int) ≤ s.size := by omega
  have z1 : (s.extract n s.size).size = 4 := by simp; omega
  have z2 : ((s.extract 0 n).size : Int) ≤ 3000 := by simp; omega
  have hv : (val (s.extract n s.size).data.toList : Int) = fnv (s.extract 0 n).data.toList := by rw [tail_list, head_list, hw]
  have Z1 := Lib.hid z1; clear z1
  have Z2 := Lib.hid z2; clear z2
  have HV := Lib.hid hv; clear hv hw hn
  go_enter Tryz.func107, Tryz.ntmps107
  go_wp2_with fail
  refine (get32_yes _ _ Z1.out).mono ?_
  rintro e w1 ⟨rfl, n1, rfl⟩
  rw [HV.out]
  clear HV
  generalize hf : ((fnv (s.extract 0 n).data.toList : Nat) : Int) = f
  have HF := Lib.hid hf; clear hf
  go_wp2_with fail
  refine (sum_any _ _ Z2.out).mono ?_
  rintro e w2 ⟨rfl, n2, rfl⟩
  rw [HF.out]
  go_wp2_with fail
  go_ret2
  exact ⟨ret_open (extract_txt s n) 0, _, rfl⟩
set_option maxHeartbeats 400000 in
theorem open_bad (s : ByteArray) (n : Nat) (w : World) (hs : (s.size : Int) ≤ 3000) (hn : s.size = n + 4) (hw : ¬ whole n s) :
    Calls Tryz.prog 107 #[.string s] w fun e w' => e = .returned (.tuple #[.string ⟨#[]⟩, .int .i64 3]) ∧ ∃ n, w' = w.drewN n := by
  have h4 : ¬ ((s.size : Int) < 4) := by omega
  have he : (s.size : Int) - 4 = (n : Int) := by omega
  have hle : (n : Int) ≤ s.size := by omega
  have z1 : (s.extract n s.size).size = 4 := by simp; omega
  have z2 : ((s.extract 0 n).size : Int) ≤ 3000 := by simp; omega
  have hv : ((val (s.extract n s.size).data.toList : Int) != fnv (s.extract 0 n).data.toList) = true := by
    rw [bne_iff_ne, tail_list, head_list]
    intro h
    exact hw (by unfold whole; omega)
  have Z1 := Lib.hid z1; clear z1
  have Z2 := Lib.hid z2; clear z2
  have HV := Lib.hid hv; clear hv hw hn
  go_enter Tryz.func107, Tryz.ntmps107
  go_wp2_with fail
  refine (get32_yes _ _ Z1.out).mono ?_
  rintro e w1 ⟨rfl, n1, rfl⟩
  generalize hg : ((val (s.extract n s.size).data.toList : Nat) : Int) = g at *
  have HG := Lib.hid hg; clear hg
  go_wp2_with fail
  refine (sum_any _ _ Z2.out).mono ?_
  rintro e w2 ⟨rfl, n2, rfl⟩
  generalize hf : ((fnv (s.extract 0 n).data.toList : Nat) : Int) = f at *
  have HF := Lib.hid hf; clear hf
  have hv := HV.out
  go_wp2_with fail
  go_ret2
  exact ⟨rfl, _, rfl⟩
set_option maxHeartbeats 400000 in
theorem ropen_short (s : ByteArray) (w : World) (hs : (s.size : Int) < 4) :
    Calls Tryz.prog 29 #[.string s] w fun e w' => e = .returned (.tuple #[.string ⟨#[]⟩, .int .i64 2]) ∧ Below w.heap.size w w' := by
  go_enter Tryz.func29, Tryz.ntmps29
  go_wp2
  go_ret2
  exact ⟨rfl, Below.refl _ _⟩
theorem whole_iff (s : ByteArray) (n : Nat) (hn : s.size = n + 4) : whole n s ↔ txt (sealed (s.extract 0 n).data.toList) = s := by
  have hl : s.data.toList.length = n + 4 := by rw [Array.length_toList]; exact hn
  rw [head_list]
  unfold whole sealed
  constructor
  · intro h
    have e := be_val (s.data.toList.drop n)
    rw [List.length_drop, hl, show n + 4 - n = 4 from by omega, h] at e
    rw [e, List.take_append_drop, txt_of]
  · intro h
    have e : s.data.toList.take n ++ be 4 (fnv (s.data.toList.take n)) = s.data.toList := by
      have := congrArg (fun x : ByteArray => x.data.toList) h
      simpa [txt] using this
    have e2 : s.data.toList.drop n = be 4 (fnv (s.data.toList.take n)) := by
      conv => lhs; rw [← e]
      rw [List.drop_append_of_le_length (by simp; omega), List.drop_of_length_le (by simp; omega), List.nil_append]
    rw [e2, val_sum]
set_option maxHeartbeats 400000 in
theorem ropen_good (s : ByteArray) (n : Nat) (w : World) (hs : (s.size : Int) ≤ 3000) (hn : s.size = n + 4) (hw : whole n s) :
    Calls Tryz.prog 29 #[.string s] w fun e w' => e = .returned (.tuple #[.string (txt (s.data.toList.take n)), .int .i64 0]) ∧ Below w.heap.size w w' := by
  have h4 : ¬ ((s.size : Int) < 4) := by omega
  have he : (s.size : Int) - 4 = (n : Int) := by omega
  have hle : (n : Int) ≤ s.size := by omega
  have z2 : ((s.extract 0 n).size : Int) ≤ 3000 := by simp; omega
  have hv := (whole_iff s n hn).1 hw
  have Z2 := Lib.hid z2; clear z2
  have HV := Lib.hid hv; clear hv hw hn
  go_enter Tryz.func29, Tryz.ntmps29
  go_wp2_with fail
  refine (rseal_any _ _ Z2.out).mono ?_
  rintro e w1 ⟨rfl, hb1⟩
  rw [HV.out]
  clear HV
  go_wp2_with fail
  go_ret2
  exact ⟨ret_open (extract_txt s n) 0, hb1⟩
set_option maxHeartbeats 400000 in
theorem ropen_bad (s : ByteArray) (n : Nat) (w : World) (hs : (s.size : Int) ≤ 3000) (hn : s.size = n + 4) (hw : ¬ whole n s) :
    Calls Tryz.prog 29 #[.string s] w fun e w' => e = .returned (.tuple #[.string ⟨#[]⟩, .int .i64 3]) ∧ Below w.heap.size w w' := by
  have h4 : ¬ ((s.size : Int) < 4) := by omega
  have he : (s.size : Int) - 4 = (n : Int) := by omega
  have hle : (n : Int) ≤ s.size := by omega
  have z2 : ((s.extract 0 n).size : Int) ≤ 3000 := by simp; omega
  have hv : txt (sealed (s.extract 0 n).data.toList) ≠ s := fun h => hw ((whole_iff s n hn).2 h)
  have Z2 := Lib.hid z2; clear z2
  have HV := Lib.hid hv; clear hv hw hn
  go_enter Tryz.func29, Tryz.ntmps29
  go_wp2_with fail
  refine (rseal_any _ _ Z2.out).mono ?_
  rintro e w1 ⟨rfl, hb1⟩
  generalize hf : txt (sealed (s.extract 0 n).data.toList) = f at *
  have HF := Lib.hid hf; clear hf
  have hv := text_ne HV.out
  go_wp2_with fail
  go_ret2
  exact ⟨rfl, hb1⟩
end Go.Proofs.YtkjikigimmchlaaGreatDoor
namespace Go.Proofs.YtkjikigimmchlaaGreatDoor
open Go.RowKit
def openT (s : ByteArray) : ByteArray := if s.size < 4 then ⟨#[]⟩ else if val (s.data.toList.drop (s.size - 4)) = fnv (s.data.toList.take (s.size - 4)) then txt (s.data.toList.take (s.size - 4)) else ⟨#[]⟩
def openE (s : ByteArray) : Int := if s.size < 4 then 2 else if val (s.data.toList.drop (s.size - 4)) = fnv (s.data.toList.take (s.size - 4)) then 0 else 3
theorem open_any (s : ByteArray) (w : World) (hs : (s.size : Int) ≤ 3000) :
    Calls Tryz.prog 107 #[.string s] w fun e w' => e = .returned (.tuple #[.string (openT s), .int .i64 (openE s)]) ∧ Below w.heap.size w w' := by
  unfold openT openE
  by_cases h4 : s.size < 4
  · rw [if_pos h4, if_pos h4]
    refine (open_short s w (by omega)).mono ?_
    rintro e w' ⟨rfl, n, rfl⟩
    exact ⟨rfl, below_drewN (Below.refl _ _) n⟩
  · rw [if_neg h4, if_neg h4]
    by_cases hw : val (s.data.toList.drop (s.size - 4)) = fnv (s.data.toList.take (s.size - 4))
    · rw [if_pos hw, if_pos hw]
      refine (open_good s (s.size - 4) w hs (by omega) hw).mono ?_
      rintro e w' ⟨rfl, n, rfl⟩
      exact ⟨rfl, below_drewN (Below.refl _ _) n⟩
    · rw [if_neg hw, if_neg hw]
      refine (open_bad s (s.size - 4) w hs (by omega) hw).mono ?_
      rintro e w' ⟨rfl, n, rfl⟩
      exact ⟨rfl, below_drewN (Below.refl _ _) n⟩
theorem ropen_any (s : ByteArray) (w : World) (hs : (s.size : Int) ≤ 3000) :
    Calls Tryz.prog 29 #[.string s] w fun e w' => e = .returned (.tuple #[.string (openT s), .int .i64 (openE s)]) ∧ Below w.heap.size w w' := by
  unfold openT openE
  by_cases h4 : s.size < 4
  · rw [if_pos h4, if_pos h4]
    exact ropen_short s w (by omega)
  · rw [if_neg h4, if_neg h4]
    by_cases hw : val (s.data.toList.drop (s.size - 4)) = fnv (s.data.toList.take (s.size - 4))
    · rw [if_pos hw, if_pos hw]
      exact ropen_good s (s.size - 4) w hs (by omega) hw
    · rw [if_neg hw, if_neg hw]
      exact ropen_bad s (s.size - 4) w hs (by omega) hw
theorem openT_size (s : ByteArray) : (openT s).size ≤ s.size := by
  unfold openT
  split
  · exact Nat.zero_le _
  · split
    · rw [txt_size, List.length_take]; omega
    · exact Nat.zero_le _
end Go.Proofs.YtkjikigimmchlaaGreatDoor
namespace Go.Proofs.YtkjikigimmchlaaGreatDoor
open Go.RowKit
theorem open_sealed (l : List UInt8) : openE (txt (sealed l)) = 0 ∧ openT (txt (sealed l)) = txt l := by
  have hz : (txt (sealed l)).size = l.length + 4 := by rw [txt_size, seal_length]
  have hd : (txt (sealed l)).data.toList.drop ((txt (sealed l)).size - 4) = be 4 (fnv l) := by
    rw [hz, txt_data, Nat.add_sub_cancel]
    unfold sealed
    rw [List.drop_left]
  have ht : (txt (sealed l)).data.toList.take ((txt (sealed l)).size - 4) = l := by
    rw [hz, txt_data, Nat.add_sub_cancel]
    unfold sealed
    rw [List.take_left]
  unfold openE openT
  have h4 : ¬ (txt (sealed l)).size < 4 := by omega
  rw [hd, ht, val_sum, if_neg h4, if_neg h4, if_pos rfl, if_pos rfl]
  exact ⟨rfl, rfl⟩
theorem sealed_open (s : ByteArray) (h : openE s = 0) : txt (sealed (openT s).data.toList) = s := by
  unfold openE at h
  unfold openT
  split at h
  · cases h
  · rename_i h4
    rw [if_neg h4]
    split at h
    · rename_i hw
      rw [if_pos hw]
      have := (whole_iff s (s.size - 4) (by omega)).1 hw
      rw [head_list] at this
      exact this
    · cases h
end Go.Proofs.YtkjikigimmchlaaGreatDoor
namespace Go.Proofs.YtkjikigimmchlaaGreatDoor
open Go.RowKit
theorem nums2 (a b : Int) : (strOfNums [a, b]).size = 2 := by rw [strOfNums_size]; rfl
@[go_sem] theorem idx0 (c b o p : Int) (w : World) : (Instr.index 282 (.agg #[.int .u64 c, .int .u64 b, .int .u64 o, .int .u64 p]) (.int .i64 0)).run Tryz.prog w = .ok (.int .u64 c) w := by kernel_rfl
@[go_sem] theorem idx1 (c b o p : Int) (w : World) : (Instr.index 282 (.agg #[.int .u64 c, .int .u64 b, .int .u64 o, .int .u64 p]) (.int .i64 1)).run Tryz.prog w = .ok (.int .u64 b) w := by kernel_rfl
@[go_sem] theorem idx2 (c b o p : Int) (w : World) : (Instr.index 282 (.agg #[.int .u64 c, .int .u64 b, .int .u64 o, .int .u64 p]) (.int .i64 2)).run Tryz.prog w = .ok (.int .u64 o) w := by kernel_rfl
@[go_sem] theorem idx3 (c b o p : Int) (w : World) : (Instr.index 282 (.agg #[.int .u64 c, .int .u64 b, .int .u64 o, .int .u64 p]) (.int .i64 3)).run Tryz.prog w = .ok (.int .u64 p) w := by kernel_rfl
theorem txt_app (l r : List UInt8) : txt l ++ (⟨r.toArray⟩ : ByteArray) = txt (l ++ r) := join_str l r
theorem be8_size (n : Nat) : (⟨(be 8 n).toArray⟩ : ByteArray).size = 8 := by simp [ByteArray.size, be_length]
def num8 (l : List UInt8) (k : Nat) : Int := ((val ((l.drop k).take 8) : Nat) : Int)
theorem num8_range (l : List UInt8) (k : Nat) : 0 ≤ num8 l k ∧ num8 l k < 18446744073709551616 := by
  unfold num8
  have h := val_lt ((l.drop k).take 8)
  have h2 : ((l.drop k).take 8).length ≤ 8 := by rw [List.length_take]; omega
  have h3 : 256 ^ ((l.drop k).take 8).length ≤ 256 ^ 8 := Nat.pow_le_pow_right (by decide) h2
  have h4 : (256 : Nat) ^ 8 = 18446744073709551616 := by decide
  omega
theorem extract_num8 (s : ByteArray) (k : Nat) : ((val (s.extract k (k + 8)).data.toList : Nat) : Int) = num8 s.data.toList k := by
  unfold num8
  obtain ⟨⟨l⟩⟩ := s
  have e : ((⟨⟨l⟩⟩ : ByteArray).extract k (k + 8)).data.toList = (l.drop k).take 8 := by
    simp [List.extract, show k + 8 - k = 8 from by omega]
  rw [e]
theorem extract8 (s : ByteArray) (k : Nat) (h : k + 8 ≤ s.size) : (s.extract k (k + 8)).size = 8 := by simp; omega
theorem get64_b (s : ByteArray) (w : World) (h0 : s.size = 8) :
    Calls Tryz.prog 108 #[.string s] w fun e w' => e = .returned (.tuple #[.int .u64 (val s.data.toList), .bool true]) ∧ Below w.heap.size w w' := by
  refine (get64_yes s w h0).mono ?_
  rintro e w' ⟨rfl, n, rfl⟩
  exact ⟨rfl, below_drewN (Below.refl _ _) n⟩
theorem at_txt (t : ByteArray) (k : Nat) (h : k < t.size) : t[k] = t.data.toList.getD k 0 := by
  obtain ⟨⟨l⟩⟩ := t
  have h' : k < l.length := h
  show l[k] = l.getD k 0
  simp [List.getD, List.getElem?_eq_getElem h']
theorem num8_at (h r : List UInt8) (k x : Nat) (hk : h.length = k) : num8 (h ++ (be 8 x ++ r)) k = ((x % 18446744073709551616 : Nat) : Int) := by
  subst hk
  unfold num8
  rw [List.drop_left, List.take_left' (be_length 8 x), val_be]
theorem num8_nat (x : Int) (h0 : 0 ≤ x) (h1 : x < 18446744073709551616) : ((x.toNat % 18446744073709551616 : Nat) : Int) = x := by omega
theorem be_drop (l : List UInt8) (k : Nat) (h : k + 8 ≤ l.length) : be 8 (num8 l k).toNat = (l.drop k).take 8 := by
  unfold num8
  have := be_val ((l.drop k).take 8)
  rw [List.length_take, List.length_drop, Nat.min_eq_left (by omega)] at this
  rw [Int.toNat_natCast]
  exact this
end Go.Proofs.YtkjikigimmchlaaGreatDoor
namespace Go.Proofs.YtkjikigimmchlaaGreatDoor
open Go.RowKit
set_option maxHeartbeats 1000000 in
theorem sright_any (s : Sup) (w : World) : Calls Tryz.prog 250 #[supV s] w fun e w' => e = .returned (.bool s.right) ∧ Below w.heap.size w w' := by
  obtain ⟨n, c, b, o, p, i, r, d⟩ := s
  unfold Sup.right
  dsimp only [supV]
  have hv := fun w => vright_any c b o p w
  generalize (!decide (c = 0)) = x at *
  have HV := Lib.hid hv; clear hv
  by_cases h1 : (1 : Int) ≤ n
  · have e1 : decide ((1 : Int) ≤ n) = true := decide_eq_true h1
    by_cases h2 : n ≤ (32 : Int)
    · have e2 : decide (n ≤ (32 : Int)) = true := decide_eq_true h2
      rw [e1, e2]
      go_enter Tryz.func250, Tryz.ntmps250
      go_wp2_with fail
      refine (HV.out _).mono ?_
      rintro e w1 ⟨rfl, hb⟩
      go_wp2_with fail
      go_ret
      exact ⟨ret_bool (by simp), ext below1 hb⟩
    · have e2 : decide (n ≤ (32 : Int)) = false := decide_eq_false h2
      rw [e1, e2]
      go_enter Tryz.func250, Tryz.ntmps250
      go_wp2_with fail
      go_ret
      exact ⟨ret_bool (by simp), below1⟩
  · have e1 : decide ((1 : Int) ≤ n) = false := decide_eq_false h1
    rw [e1]
    go_enter Tryz.func250, Tryz.ntmps250
    go_wp2_with fail
    go_ret
    exact ⟨ret_bool (by simp), below1⟩
set_option maxHeartbeats 1000000 in
theorem rsright_any (s : Sup) (w : World) : Calls Tryz.prog 128 #[supV s] w fun e w' => e = .returned (.bool s.right) ∧ Below w.heap.size w w' := by
  obtain ⟨n, c, b, o, p, i, r, d⟩ := s
  unfold Sup.right
  dsimp only [supV]
  by_cases h1 : (1 : Int) ≤ n
  · have e1 : decide ((1 : Int) ≤ n) = true := decide_eq_true h1
    by_cases h2 : n ≤ (32 : Int)
    · have e2 : decide (n ≤ (32 : Int)) = true := decide_eq_true h2
      rw [e1, e2]
      go_enter Tryz.func128, Tryz.ntmps128
      go_wp2
      go_ret
      exact ⟨ret_bool (by simp [bne]; rfl), below1⟩
    · have e2 : decide (n ≤ (32 : Int)) = false := decide_eq_false h2
      rw [e1, e2]
      go_enter Tryz.func128, Tryz.ntmps128
      go_wp2
      go_ret
      exact ⟨ret_bool (by simp), below1⟩
  · have e1 : decide ((1 : Int) ≤ n) = false := decide_eq_false h1
    rw [e1]
    go_enter Tryz.func128, Tryz.ntmps128
    go_wp2
    go_ret
    exact ⟨ret_bool (by simp), below1⟩
set_option maxHeartbeats 1000000 in
theorem slist_any (c b o p : Int) (w : World) : Calls Tryz.prog 251 #[vecV c b o p] w fun e w' => e = .returned (.agg #[.int .u64 c, .int .u64 b, .int .u64 o, .int .u64 p]) ∧ Below w.heap.size w w' := by
  go_enter Tryz.func251, Tryz.ntmps251
  go_wp2
  refine bodyPost_ret (v := .agg #[.int .u64 c, .int .u64 b, .int .u64 o, .int .u64 p]) (by simp [results, Tryz.results251, go_sem]) rfl ⟨rfl, ?_⟩
  exact below2
end Go.Proofs.YtkjikigimmchlaaGreatDoor
namespace Go.Proofs.YtkjikigimmchlaaGreatDoor
open Go.RowKit
def Sup.body (s : Sup) : List UInt8 := [71, 77, 1, UInt8.ofNat s.n.toNat, UInt8.ofNat (fl [s.i, s.r, s.d])] ++ be 8 s.c.toNat ++ be 8 s.b.toNat ++ be 8 s.o.toNat ++ be 8 s.p.toNat
theorem body_length (s : Sup) : s.body.length = 37 := by simp [Sup.body, be_length]
def Sup.bytes (s : Sup) : ByteArray := txt (sealed s.body)
theorem bs3 {w : World} {g : Nat} {i r d : Bool} (h : Box w g [.bool i, .bool r, .bool d]) : Bs w w.heap.size (some ⟨g, 0, none⟩) [i, r, d] := by
  intro k x hk
  refine ⟨_, rfl, h.lt, ?_⟩
  have : (⟨g, 0, none⟩ : Addr).add k = ⟨g, k, none⟩ := by unfold Addr.add; split <;> simp_all
  rw [this, h.cell]
  match k, hk with
  | 0, hk => simp at hk; subst hk; rfl
  | 1, hk => simp at hk; subst hk; rfl
  | 2, hk => simp at hk; subst hk; rfl
theorem flags3 {g : Nat} {i r d : Bool} {w : World} (h : Box w g [.bool i, .bool r, .bool d]) :
    Calls Tryz.prog 242 #[.slice (some ⟨g, 0, none⟩) 3 3] w fun e w' => e = .returned (.int .u8 (fl [i, r, d])) ∧ Below w.heap.size w w' := by
  refine (flags_any _ 3 [i, r, d] w _ (bs3 h) (Nat.le_refl _) (by unfold maxLen; decide)).mono ?_
  rintro e w' ⟨rfl, rfl⟩
  exact ⟨rfl, Below.refl _ _⟩
theorem rflags3 {g : Nat} {i r d : Bool} {w : World} (h : Box w g [.bool i, .bool r, .bool d]) :
    Calls Tryz.prog 106 #[.slice (some ⟨g, 0, none⟩) 3 3] w fun e w' => e = .returned (.int .u8 (fl [i, r, d])) ∧ Below w.heap.size w w' := by
  refine (rflags_any _ 3 [i, r, d] w _ (bs3 h) (Nat.le_refl _) (by unfold maxLen; decide)).mono ?_
  rintro e w' ⟨rfl, rfl⟩
  exact ⟨rfl, Below.refl _ _⟩
theorem head5 (n : Int) (f : Nat) (h0 : 0 ≤ n) : (⟨#[71, 77, 1]⟩ : ByteArray) ++ strOfNums [n % 256, (f : Int)] = txt [71, 77, 1, UInt8.ofNat n.toNat, UInt8.ofNat f] := by
  have e : strOfNums [n % 256, (f : Int)] = txt [UInt8.ofNat n.toNat, UInt8.ofNat f] := by
    simp only [strOfNums, List.map_cons, List.map_nil, txt, Int.toNat_natCast]
    rw [show (n % 256).toNat = n.toNat % 256 from by omega, ofNat_mod]
  rw [e]
  exact join_str [71, 77, 1] _
set_option maxHeartbeats 1000000 in
theorem encode_no (s : Sup) (w : World) (hr : s.right = false) :
    Calls Tryz.prog 228 #[supV s] w fun e w' => e = .returned (.tuple #[.string ⟨#[]⟩, .int .i64 1]) ∧ Below w.heap.size w w' := by
  have hsr := fun w => sright_any s w
  rw [hr] at hsr
  obtain ⟨n, c, b, o, p, i, r, d⟩ := s
  dsimp only [supV] at *
  have HSR := Lib.hid hsr; clear hsr hr
  go_enter Tryz.func228, Tryz.ntmps228
  go_wp2_with fail
  refine (HSR.out _).mono ?_
  rintro e w1 ⟨rfl, hb⟩
  go_wp2_with fail
  go_ret2
  exact ⟨rfl, ext below1 hb⟩
end Go.Proofs.YtkjikigimmchlaaGreatDoor
namespace Go.Proofs.YtkjikigimmchlaaGreatDoor
open Go.RowKit
theorem body_join (s : Sup) (h0 : 0 ≤ s.n) (h1 : s.n < 256) :
    (⟨#[71, 77, 1]⟩ : ByteArray) ++ strOfNums [IntKind.u8.wrap s.n, ((fl [s.i, s.r, s.d] : Nat) : Int)] ++ ⟨(be 8 s.c.toNat).toArray⟩ ++ ⟨(be 8 s.b.toNat).toArray⟩ ++ ⟨(be 8 s.o.toNat).toArray⟩ ++ ⟨(be 8 s.p.toNat).toArray⟩ = txt s.body := by
  have h5 := head5 s.n (fl [s.i, s.r, s.d]) h0
  rw [show s.n % 256 = s.n from by omega] at h5
  rw [IntWalk.u8_in s.n (by omega), h5, txt_app, txt_app, txt_app, txt_app]
  rfl
open PX
theorem size_three : (⟨#[71, 77, 1]⟩ : ByteArray).size = 3 := rfl
set_option maxRecDepth 100000 in
theorem rbytes_any (s : Sup) (w : World) (hw : s.wide) (h0 : 0 ≤ s.n) (h1 : s.n < 256) :
    Calls Tryz.prog 129 #[supV s] w fun e w' => e = .returned (.string (txt s.body)) ∧ Below w.heap.size w w' := by
  have he := body_join s h0 h1
  generalize txt s.body = z at *
  obtain ⟨n, c, b, o, p, i, r, d⟩ := s
  obtain ⟨⟨c0, c1⟩, ⟨b0, b1⟩, ⟨o0, o1⟩, p0, p1⟩ := hw
  dsimp only at c0 c1 b0 b1 o0 o1 p0 p1 he
  refine run_v ?_
  refine t_ck (p := (0 : Int) ≤ 0 ∧ (0 : Int) < (2 : Nat)) (by decide) (t_ck (p := (0 : Int) ≤ 1 ∧ (1 : Int) < (2 : Nat)) (by decide) ?_)
  refine t_fresh 4 [.bool i, .bool r, .bool d] fun g _ => ?_
  refine t_v (args := #[.slice (some ⟨g, 0, none⟩) 3 3]) (fun u hu => rflags3 ⟨_, hu.2⟩) ?_
  refine t_v (args := #[.int .u64 c]) (fun u _ => rput64_any c u c0 c1) (t_v (args := #[.int .u64 b]) (fun u _ => rput64_any b u b0 b1) (t_v (args := #[.int .u64 o]) (fun u _ => rput64_any o u o0 o1) (t_v (args := #[.int .u64 p]) (fun u _ => rput64_any p u p0 p1) ?_)))
  refine t_cat (⟨#[71, 77, 1]⟩ : ByteArray) (strOfNums [IntKind.u8.wrap n, ((fl [i, r, d] : Nat) : Int)]) (by simp [nums2, size_three]) ?_
  refine t_cat ((⟨#[71, 77, 1]⟩ : ByteArray) ++ strOfNums [IntKind.u8.wrap n, ((fl [i, r, d] : Nat) : Int)]) ⟨(be 8 c.toNat).toArray⟩ (by simp [nums2, be8_size, size_three]) ?_
  refine t_cat ((⟨#[71, 77, 1]⟩ : ByteArray) ++ strOfNums [IntKind.u8.wrap n, ((fl [i, r, d] : Nat) : Int)] ++ ⟨(be 8 c.toNat).toArray⟩) ⟨(be 8 b.toNat).toArray⟩ (by simp [nums2, be8_size, size_three]) ?_
  refine t_cat ((⟨#[71, 77, 1]⟩ : ByteArray) ++ strOfNums [IntKind.u8.wrap n, ((fl [i, r, d] : Nat) : Int)] ++ ⟨(be 8 c.toNat).toArray⟩ ++ ⟨(be 8 b.toNat).toArray⟩) ⟨(be 8 o.toNat).toArray⟩ (by simp [nums2, be8_size, size_three]) ?_
  refine t_cat ((⟨#[71, 77, 1]⟩ : ByteArray) ++ strOfNums [IntKind.u8.wrap n, ((fl [i, r, d] : Nat) : Int)] ++ ⟨(be 8 c.toNat).toArray⟩ ++ ⟨(be 8 b.toNat).toArray⟩ ++ ⟨(be 8 o.toNat).toArray⟩) ⟨(be 8 p.toNat).toArray⟩ (by simp [nums2, be8_size, size_three]) ?_
  exact e_r2 (.string ((⟨#[71, 77, 1]⟩ : ByteArray) ++ strOfNums [IntKind.u8.wrap n, ((fl [i, r, d] : Nat) : Int)] ++ ⟨(be 8 c.toNat).toArray⟩ ++ ⟨(be 8 b.toNat).toArray⟩ ++ ⟨(be 8 o.toNat).toArray⟩ ++ ⟨(be 8 p.toNat).toArray⟩)) (by rw [he])
set_option maxRecDepth 100000 in
theorem encode_yes (s : Sup) (w : World) (hw : s.wide) (hr : s.right = true) :
    Calls Tryz.prog 228 #[supV s] w fun e w' => e = .returned (.tuple #[.string s.bytes, .int .i64 0]) ∧ Below w.heap.size w w' := by
  have hn : 1 ≤ s.n ∧ s.n ≤ 32 := by
    unfold Sup.right at hr
    simp at hr
    exact hr.1
  have hsz : (txt s.body).size = 37 := by rw [txt_size, body_length]
  have hsl := fun u => seal_any (txt s.body) u (by rw [hsz]; decide)
  rw [txt_data] at hsl
  have he := body_join s (by omega) (by omega)
  unfold Sup.bytes
  generalize txt (sealed s.body) = y at *
  generalize txt s.body = z at *
  obtain ⟨n, c, b, o, p, i, r, d⟩ := s
  obtain ⟨⟨c0, c1⟩, ⟨b0, b1⟩, ⟨o0, o1⟩, p0, p1⟩ := hw
  dsimp only at c0 c1 b0 b1 o0 o1 p0 p1 he
  refine run_ok (ap := tyL) (U := 5) (rows := []) (K := fun _ => True) rfl (st_p True) trivial ?_
  refine t_v (fun u _ => sright_any ⟨n, c, b, o, p, i, r, d⟩ u) ?_
  rw [hr]
  refine t_lit 9 (t_fresh 4 [.bool i, .bool r, .bool d] fun g _ => ?_)
  refine t_v (args := #[.slice (some ⟨g, 0, none⟩) 3 3]) (fun u hu => flags3 ⟨_, hu.2⟩) ?_
  refine t_cat (⟨#[71, 77, 1]⟩ : ByteArray) (strOfNums [IntKind.u8.wrap n, ((fl [i, r, d] : Nat) : Int)]) (by simp [nums2, size_three]) ?_
  refine t_v (args := #[vecV c b o p]) (fun u _ => slist_any c b o p u) ?_
  refine t_lit 9 (t_v (args := #[.int .u64 c]) (fun u _ => put64_any c u c0 c1) (t_cat ((⟨#[71, 77, 1]⟩ : ByteArray) ++ strOfNums [IntKind.u8.wrap n, ((fl [i, r, d] : Nat) : Int)]) ⟨(be 8 c.toNat).toArray⟩ (by simp [nums2, be8_size, size_three]) ?_))
  refine t_lit 9 (t_v (args := #[.int .u64 b]) (fun u _ => put64_any b u b0 b1) (t_cat ((⟨#[71, 77, 1]⟩ : ByteArray) ++ strOfNums [IntKind.u8.wrap n, ((fl [i, r, d] : Nat) : Int)] ++ ⟨(be 8 c.toNat).toArray⟩) ⟨(be 8 b.toNat).toArray⟩ (by simp [nums2, be8_size, size_three]) ?_))
  refine t_lit 9 (t_v (args := #[.int .u64 o]) (fun u _ => put64_any o u o0 o1) (t_cat ((⟨#[71, 77, 1]⟩ : ByteArray) ++ strOfNums [IntKind.u8.wrap n, ((fl [i, r, d] : Nat) : Int)] ++ ⟨(be 8 c.toNat).toArray⟩ ++ ⟨(be 8 b.toNat).toArray⟩) ⟨(be 8 o.toNat).toArray⟩ (by simp [nums2, be8_size, size_three]) ?_))
  refine t_lit 9 (t_v (args := #[.int .u64 p]) (fun u _ => put64_any p u p0 p1) (t_cat ((⟨#[71, 77, 1]⟩ : ByteArray) ++ strOfNums [IntKind.u8.wrap n, ((fl [i, r, d] : Nat) : Int)] ++ ⟨(be 8 c.toNat).toArray⟩ ++ ⟨(be 8 b.toNat).toArray⟩ ++ ⟨(be 8 o.toNat).toArray⟩) ⟨(be 8 p.toNat).toArray⟩ (by simp [nums2, be8_size, size_three]) ?_))
  refine t_lit 9 (t_v (args := #[.string ((⟨#[71, 77, 1]⟩ : ByteArray) ++ strOfNums [IntKind.u8.wrap n, ((fl [i, r, d] : Nat) : Int)] ++ ⟨(be 8 c.toNat).toArray⟩ ++ ⟨(be 8 b.toNat).toArray⟩ ++ ⟨(be 8 o.toNat).toArray⟩ ++ ⟨(be 8 p.toNat).toArray⟩)]) (fun u _ => by rw [he]; exact hsl u) ?_)
  exact t_ret (.tuple #[.string y, .int .i64 0]) (fun _ _ hb _ => ⟨rfl, base_below hb⟩)
end Go.Proofs.YtkjikigimmchlaaGreatDoor
namespace Go.Proofs.YtkjikigimmchlaaGreatDoor
open Go.RowKit
theorem rnumber_any (s : ByteArray) (k : Nat) (w : World) (hk : (k : Int) + 8 ≤ s.size) (h9 : (k : Int) ≤ 3000) :
    Calls Tryz.prog 230 #[.string s, .int .i64 k] w fun e w' => e = .returned (.int .u64 (num8 s.data.toList k)) ∧ w' = w := by
  have g := extract_num8 s k
  have z := extract8 s k (by omega)
  have G := Lib.hid g; clear g
  have Z := Lib.hid z; clear z
  generalize num8 s.data.toList k = x at *
  go_enter Tryz.func230, Tryz.ntmps230
  go_wp2_with fail
  refine (rget64_yes _ _ Z.out).mono ?_
  rintro e w1 ⟨rfl, rfl⟩
  rw [G.out]
  go_wp2_with fail
  go_ret
  exact ⟨rfl, rfl⟩
set_option maxHeartbeats 1000000 in
theorem rencode_yes (s : Sup) (w : World) (hw : s.wide) (hr : s.right = true) :
    Calls Tryz.prog 83 #[supV s] w fun e w' => e = .returned (.tuple #[.string s.bytes, .int .i64 0]) ∧ Below w.heap.size w w' := by
  have hsr := fun w => rsright_any s w
  rw [hr] at hsr
  have hn : 1 ≤ s.n ∧ s.n ≤ 32 := by
    unfold Sup.right at hr
    simp at hr
    exact hr.1
  have hb := fun w => rbytes_any s w hw (by omega) (by omega)
  have hbl := body_length s
  have hz : ((txt s.body).size : Int) ≤ 3000 := by rw [txt_size, hbl]; decide
  have he : txt (sealed (txt s.body).data.toList) = s.bytes := rfl
  generalize s.bytes = y at *
  generalize s.body = x at *
  obtain ⟨n, c, b, o, p, i, r, d⟩ := s
  dsimp only [supV] at *
  have HSR := Lib.hid hsr; clear hsr hr
  have HB := Lib.hid hb; clear hb
  have HE := Lib.hid he; clear he
  have HZ := Lib.hid hz; clear hz
  have HH := Lib.hid ((Held.refl w).lay [.int .i64 n, .int .u64 c, .int .u64 b, .int .u64 o, .int .u64 p, .bool i, .bool r, .bool d] 36)
  go_enter Tryz.func83, Tryz.ntmps83
  go_wp2_with fail
  refine (HSR.out _).mono ?_
  rintro e w1 ⟨rfl, hb⟩
  have H1 := Lib.hid (HH.out.up hb)
  clear hb HH
  have k := H1.out.b0.cell
  go_wp2_with fail
  refine (HB.out _).mono ?_
  rintro e w2 ⟨rfl, hb⟩
  have H2 := Lib.hid (H1.out.up hb)
  clear hb H1 k
  go_wp2_with fail
  refine (rseal_any _ _ HZ.out).mono ?_
  rintro e w3 ⟨rfl, hb⟩
  have H3 := Lib.hid (H2.out.up hb)
  clear hb H2
  rw [HE.out]
  go_wp2_with fail
  go_ret2
  exact ⟨rfl, H3.out.below⟩
set_option maxHeartbeats 1000000 in
theorem rencode_no (s : Sup) (w : World) (hr : s.right = false) :
    Calls Tryz.prog 83 #[supV s] w fun e w' => e = .returned (.tuple #[.string ⟨#[]⟩, .int .i64 1]) ∧ Below w.heap.size w w' := by
  have hsr := fun w => rsright_any s w
  rw [hr] at hsr
  obtain ⟨n, c, b, o, p, i, r, d⟩ := s
  dsimp only [supV] at *
  have HSR := Lib.hid hsr; clear hsr hr
  go_enter Tryz.func83, Tryz.ntmps83
  go_wp2_with fail
  refine (HSR.out _).mono ?_
  rintro e w1 ⟨rfl, hb⟩
  go_wp2_with fail
  go_ret2
  exact ⟨rfl, ext below1 hb⟩
end Go.Proofs.YtkjikigimmchlaaGreatDoor
namespace Go.Proofs.YtkjikigimmchlaaGreatDoor
open Go.RowKit
def supOf (l : List UInt8) : Sup :=
  ⟨((l.getD 3 0).toNat : Int), num8 l 5, num8 l 13, num8 l 21, num8 l 29, decide ((l.getD 4 0).toNat % 2 = 1), decide ((l.getD 4 0).toNat / 2 % 2 = 1), decide ((l.getD 4 0).toNat / 2 / 2 % 2 = 1)⟩
def formed (l : List UInt8) : Bool := decide (l.length = 37) && decide (l.take 3 = [71, 77, 1]) && decide ((l.getD 4 0).toNat < 8) && (supOf l).right
def Sup.zero : Sup := ⟨0, 0, 0, 0, 0, false, false, false⟩
def dec (s : ByteArray) : Sup × Int := if openE s = 0 then (if formed (openT s).data.toList then (supOf (openT s).data.toList, 0) else (Sup.zero, 2)) else (Sup.zero, openE s)
theorem unfl3 (x : Nat) : unfl 3 x = [decide (x % 2 = 1), decide (x / 2 % 2 = 1), decide (x / 2 / 2 % 2 = 1)] := rfl
end Go.Proofs.YtkjikigimmchlaaGreatDoor
