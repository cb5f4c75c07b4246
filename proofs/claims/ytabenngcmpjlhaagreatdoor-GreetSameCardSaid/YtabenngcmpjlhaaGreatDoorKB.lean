/- Plain facts on sums of bytes, and on texts with their sum behind them; no condition. Nothing of the program is imported. -/
import Derived.Test.YtabenngcmpjlhaaGreatDoorKA
namespace Go.Proofs.YtabenngcmpjlhaaGreatDoor
def step (n : Nat) (c : UInt8) : Nat := (n ^^^ c.toNat) * 16777619 % 4294967296
def fnv (l : List UInt8) : Nat := l.foldl step 2166136261
theorem step_lt (n : Nat) (c : UInt8) : step n c < 4294967296 := Nat.mod_lt _ (by decide)
theorem foldl_lt (l : List UInt8) (a : Nat) (h : a < 4294967296) : l.foldl step a < 4294967296 := by
  induction l generalizing a with
  | nil => exact h
  | cons c l ih => exact ih _ (step_lt a c)
theorem fnv_lt (l : List UInt8) : fnv l < 4294967296 := by
  unfold fnv
  exact foldl_lt l 2166136261 (by decide)
theorem fnv_snoc (l : List UInt8) (c : UInt8) : fnv (l ++ [c]) = step (fnv l) c := by
  unfold fnv; rw [List.foldl_append, List.foldl_cons, List.foldl_nil]
theorem xor_lt32 (a : Nat) (c : UInt8) (h : a < 4294967296) : a ^^^ c.toNat < 4294967296 := by
  have hc := UInt8.toNat_lt c
  exact Nat.xor_lt_two_pow (n := 32) h (Nat.lt_of_lt_of_le hc (by decide))
def sealed (l : List UInt8) : List UInt8 := l ++ be 4 (fnv l)
theorem seal_length (l : List UInt8) : (sealed l).length = l.length + 4 := by simp [sealed, be_length]
theorem val_sum (l : List UInt8) : val (be 4 (fnv l)) = fnv l := by
  rw [val_be]; exact Nat.mod_eq_of_lt (fnv_lt l)
end Go.Proofs.YtabenngcmpjlhaaGreatDoor
namespace Go.Proofs.YtabenngcmpjlhaaGreatDoor
open Go.RowKit
theorem step32 (m : Nat) (c : UInt8) (hm : m < 4294967296) : bits .xor .u32 (m : Int) (c.toNat : Int) * 16777619 % 4294967296 = ((step m c : Nat) : Int) := by
  have hc := UInt8.toNat_lt c
  rw [u32_xor_nat _ _ hm (by omega)]
  unfold step
  generalize m ^^^ c.toNat = x
  omega
theorem step64 (m : Nat) (c : UInt8) (hm : m < 4294967296) : (IntKind.u64.wrap (bits .xor .u64 (m : Int) (c.toNat : Int) * 16777619)).tmod 4294967296 = ((step m c : Nat) : Int) := by
  have hc := UInt8.toNat_lt c
  have hx := xor_lt32 m c hm
  rw [u64_xor_nat _ _ (by omega) (by omega)]
  unfold step
  generalize m ^^^ c.toNat = x at *
  rw [IntWalk.u64_in _ (by omega), Int.tmod_eq_emod_of_nonneg (by omega)]
  omega
theorem fnv_take (s : ByteArray) (k : Nat) (h : k < s.size) : fnv (s.data.toList.take (k + 1)) = step (fnv (s.data.toList.take k)) s[k] := by
  rw [List.take_succ_eq_append_getElem (by simpa using h), fnv_snoc]; rfl
set_option maxHeartbeats 400000 in
theorem sum_any (s : ByteArray) (w : World) (hs : (s.size : Int) ≤ 3000) :
    Calls Tryz.prog 199 #[.string s] w fun e w' => e = .returned (.int .u32 (fnv s.data.toList)) ∧ ∃ n, w' = w.drewN n := by
  go_enter Tryz.func199, Tryz.ntmps199
  go_wp2
  go_loop [3, 4, 7] (fun a _ i => ∃ k : Nat, (k : Int) ≤ s.size ∧ i = .int .i64 k ∧ a = .int .u32 (fnv (s.data.toList.take k) : Int)) (fun _ _ i => s.size - (intOf i).toNat)
  case atStart => exact ⟨0, by omega, rfl, rfl⟩
  case round =>
    obtain ⟨k, hk, rfl, rfl⟩ := hrel
    by_cases hlt : (k : Int) < s.size
    · have hv := fnv_lt (s.data.toList.take k)
      have hn := fnv_take s k (by omega)
      generalize fnv (s.data.toList.take k) = m at *
      have hb : (s[k]'(by omega)).toNat < 256 := UInt8.toNat_lt _
      have HN := Lib.hid hn; clear hn
      have hks : k < s.size := by omega
      go_wp2
      go_round
      case rel => exact ⟨k + 1, by omega, by go_num, by rw [HN.out, step32 m s[k] hv]⟩
      case measure => simp [intOf]; omega
    · go_wp2
      go_ret
      exact ⟨ret_int (by rw [List.take_of_length_le (by simp; omega)]), 0, rfl⟩
set_option maxHeartbeats 400000 in
theorem rsum_any (s : ByteArray) (w : World) (hs : (s.size : Int) ≤ 3000) :
    Calls Tryz.prog 186 #[.string s] w fun e w' => e = .returned (.int .u32 (fnv s.data.toList)) ∧ w' = w := by
  go_enter Tryz.func186, Tryz.ntmps186
  go_wp2
  go_loop [3, 4] (fun a i => ∃ k : Nat, (k : Int) ≤ s.size ∧ i = .int .i64 k ∧ a = .int .u64 (fnv (s.data.toList.take k) : Int)) (fun _ i => s.size - (intOf i).toNat)
  case atStart => exact ⟨0, by omega, rfl, rfl⟩
  case round =>
    obtain ⟨k, hk, rfl, rfl⟩ := hrel
    have hv := fnv_lt (s.data.toList.take k)
    by_cases hlt : (k : Int) < s.size
    · have hn := fnv_take s k (by omega)
      generalize fnv (s.data.toList.take k) = m at *
      have hb : (s[k]'(by omega)).toNat < 256 := UInt8.toNat_lt _
      have HN := Lib.hid hn; clear hn
      have hks : k < s.size := by omega
      go_wp2
      go_round
      case rel =>
        exact ⟨k + 1, by omega, by go_num, by rw [HN.out, step64 m s[k] hv]⟩
      case measure => simp [intOf]; omega
    · go_wp2
      go_ret
      exact ⟨ret_int (by rw [List.take_of_length_le (by simp; omega)]), rfl⟩
theorem add_sealed (s : ByteArray) : s ++ (⟨(be 4 (fnv s.data.toList)).toArray⟩ : ByteArray) = txt (sealed s.data.toList) := by
  obtain ⟨⟨l⟩⟩ := s
  exact join_str l _
theorem fnv_int (l : List UInt8) : 0 ≤ ((fnv l : Nat) : Int) ∧ ((fnv l : Nat) : Int) < 4294967296 := by
  have := fnv_lt l
  omega
set_option maxHeartbeats 400000 in
theorem seal_any (s : ByteArray) (w : World) (hs : (s.size : Int) ≤ 3000) :
    Calls Tryz.prog 150 #[.string s] w fun e w' => e = .returned (.string (txt (sealed s.data.toList))) ∧ Below w.heap.size w w' := by
  go_enter Tryz.func150, Tryz.ntmps150
  go_wp2_with fail
  refine (sum_any _ _ hs).mono ?_
  rintro e w1 ⟨rfl, n1, rfl⟩
  go_wp2_with fail
  refine (put32_any _ _ (fnv_int _).1 (fnv_int _).2).mono ?_
  rintro e w2 ⟨rfl, hb2⟩
  rw [Int.toNat_natCast]
  generalize hp : (⟨(be 4 (fnv s.data.toList)).toArray⟩ : ByteArray) = p
  have hz : (p.size : Int) ≤ 4 := by rw [← hp]; simp [ByteArray.size, be_length]
  have HP := Lib.hid hp; clear hp
  go_wp2_with fail
  go_ret
  exact ⟨ret_str (by rw [← HP.out]; exact add_sealed s), (below_drewN (Below.refl _ _) n1).trans hb2⟩
set_option maxHeartbeats 400000 in
theorem rseal_any (s : ByteArray) (w : World) (hs : (s.size : Int) ≤ 3000) :
    Calls Tryz.prog 131 #[.string s] w fun e w' => e = .returned (.string (txt (sealed s.data.toList))) ∧ Below w.heap.size w w' := by
  go_enter Tryz.func131, Tryz.ntmps131
  go_wp2_with fail
  refine (rsum_any _ _ hs).mono ?_
  rintro e w1 ⟨rfl, rfl⟩
  go_wp2_with fail
  refine (rput32_any _ _ (fnv_int _).1 (fnv_int _).2).mono ?_
  rintro e w2 ⟨rfl, hb2⟩
  rw [Int.toNat_natCast]
  generalize hp : (⟨(be 4 (fnv s.data.toList)).toArray⟩ : ByteArray) = p
  have hz : (p.size : Int) ≤ 4 := by rw [← hp]; simp [ByteArray.size, be_length]
  have HP := Lib.hid hp; clear hp
  go_wp2_with fail
  go_ret
  exact ⟨ret_str (by rw [← HP.out]; exact add_sealed s), hb2⟩
end Go.Proofs.YtabenngcmpjlhaaGreatDoor
namespace Go.Proofs.YtabenngcmpjlhaaGreatDoor
open Go.RowKit
def whole (n : Nat) (s : ByteArray) : Prop := val (s.data.toList.drop n) = fnv (s.data.toList.take n)
theorem head_list (s : ByteArray) (n : Nat) : (s.extract 0 n).data.toList = s.data.toList.take n := by
  obtain ⟨⟨l⟩⟩ := s
  simp
theorem text_ne {a b : ByteArray} (h : a ≠ b) : (a.toList == b.toList) = false := by
  rw [beq_eq_false_iff_ne, ByteArray.toList_eq, ByteArray.toList_eq]
  intro e
  exact h (ByteArray.ext (by rw [← Array.toList_inj]; exact e))
theorem ret_open {a b : ByteArray} (h : a = b) (c : Int) : Ending.returned (.tuple #[.string a, .int .i64 c]) = .returned (.tuple #[.string b, .int .i64 c]) := by rw [h]
theorem extract_txt (s : ByteArray) (n : Nat) : s.extract 0 n = txt (s.data.toList.take n) := by
  rw [← head_list, txt_of]
set_option maxHeartbeats 400000 in
theorem ropen_short (s : ByteArray) (w : World) (hs : (s.size : Int) < 4) :
    Calls Tryz.prog 89 #[.string s] w fun e w' => e = .returned (.tuple #[.string ⟨#[]⟩, .int .i64 2]) ∧ Below w.heap.size w w' := by
  go_enter Tryz.func89, Tryz.ntmps89
  go_wp2
  go_ret2
  exact ⟨rfl, Below.refl _ _⟩
theorem whole_iff (s : ByteArray) (n : Nat) (hn : s.size = n + 4) : whole n s ↔ txt (sealed (s.extract 0 n).data.toList) = s := by
  have hl : s.data.toList.length = n + 4 := by rw [Array.length_toList]; exact hn
  rw [head_list]
  unfold whole sealed
  constructor
  · intro h
    have e := be_val (s.data.toList.drop n)
    rw [List.length_drop, hl, show n + 4 - n = 4 from by omega, h] at e
    rw [e, List.take_append_drop, txt_of]
  · intro h
    have e : s.data.toList.take n ++ be 4 (fnv (s.data.toList.take n)) = s.data.toList := by
      have := congrArg (fun x : ByteArray => x.data.toList) h
      simpa [txt] using this
    have e2 : s.data.toList.drop n = be 4 (fnv (s.data.toList.take n)) := by
      conv => lhs; rw [← e]
      rw [List.drop_append_of_le_length (by simp; omega), List.drop_of_length_le (by simp; omega), List.nil_append]
    rw [e2, val_sum]
set_option maxHeartbeats 400000 in
theorem ropen_good (s : ByteArray) (n : Nat) (w : World) (hs : (s.size : Int) ≤ 3000) (hn : s.size = n + 4) (hw : whole n s) :
    Calls Tryz.prog 89 #[.string s] w fun e w' => e = .returned (.tuple #[.string (txt (s.data.toList.take n)), .int .i64 0]) ∧ Below w.heap.size w w' := by
  have h4 : ¬ ((s.size : Int) < 4) := by omega
  have he : (s.size : Int) - 4 = (n : Int) := by omega
  have hle : (n : Int) ≤ s.size := by omega
  have z2 : ((s.extract 0 n).size : Int) ≤ 3000 := by simp; omega
  have hv := (whole_iff s n hn).1 hw
  have Z2 := Lib.hid z2; clear z2
  have HV := Lib.hid hv; clear hv hw hn
  go_enter Tryz.func89, Tryz.ntmps89
  go_wp2_with fail
  refine (rseal_any _ _ Z2.out).mono ?_
  rintro e w1 ⟨rfl, hb1⟩
  rw [HV.out]
  clear HV
  go_wp2_with fail
  go_ret2
  exact ⟨ret_open (extract_txt s n) 0, hb1⟩
set_option maxHeartbeats 400000 in
theorem ropen_bad (s : ByteArray) (n : Nat) (w : World) (hs : (s.size : Int) ≤ 3000) (hn : s.size = n + 4) (hw : ¬ whole n s) :
    Calls Tryz.prog 89 #[.string s] w fun e w' => e = .returned (.tuple #[.string ⟨#[]⟩, .int .i64 3]) ∧ Below w.heap.size w w' := by
  have h4 : ¬ ((s.size : Int) < 4) := by omega
  have he : (s.size : Int) - 4 = (n : Int) := by omega
  have hle : (n : Int) ≤ s.size := by omega
  have z2 : ((s.extract 0 n).size : Int) ≤ 3000 := by simp; omega
  have hv : txt (sealed (s.extract 0 n).data.toList) ≠ s := fun h => hw ((whole_iff s n hn).2 h)
  have Z2 := Lib.hid z2; clear z2
  have HV := Lib.hid hv; clear hv hw hn
  go_enter Tryz.func89, Tryz.ntmps89
  go_wp2_with fail
  refine (rseal_any _ _ Z2.out).mono ?_
  rintro e w1 ⟨rfl, hb1⟩
  generalize hf : txt (sealed (s.extract 0 n).data.toList) = f at *
  have HF := Lib.hid hf; clear hf
  have hv := text_ne HV.out
  go_wp2_with fail
  go_ret2
  exact ⟨rfl, hb1⟩
end Go.Proofs.YtabenngcmpjlhaaGreatDoor
namespace Go.Proofs.YtabenngcmpjlhaaGreatDoor
open Go.RowKit
def openT (s : ByteArray) : ByteArray := if s.size < 4 then ⟨#[]⟩ else if val (s.data.toList.drop (s.size - 4)) = fnv (s.data.toList.take (s.size - 4)) then txt (s.data.toList.take (s.size - 4)) else ⟨#[]⟩
def openE (s : ByteArray) : Int := if s.size < 4 then 2 else if val (s.data.toList.drop (s.size - 4)) = fnv (s.data.toList.take (s.size - 4)) then 0 else 3
theorem ropen_any (s : ByteArray) (w : World) (hs : (s.size : Int) ≤ 3000) :
    Calls Tryz.prog 89 #[.string s] w fun e w' => e = .returned (.tuple #[.string (openT s), .int .i64 (openE s)]) ∧ Below w.heap.size w w' := by
  unfold openT openE
  by_cases h4 : s.size < 4
  · rw [if_pos h4, if_pos h4]
    exact ropen_short s w (by omega)
  · rw [if_neg h4, if_neg h4]
    by_cases hw : val (s.data.toList.drop (s.size - 4)) = fnv (s.data.toList.take (s.size - 4))
    · rw [if_pos hw, if_pos hw]
      exact ropen_good s (s.size - 4) w hs (by omega) hw
    · rw [if_neg hw, if_neg hw]
      exact ropen_bad s (s.size - 4) w hs (by omega) hw
theorem openT_size (s : ByteArray) : (openT s).size ≤ s.size := by
  unfold openT
  split
  · exact Nat.zero_le _
  · split
    · rw [txt_size, List.length_take]; omega
    · exact Nat.zero_le _
end Go.Proofs.YtabenngcmpjlhaaGreatDoor
namespace Go.Proofs.YtabenngcmpjlhaaGreatDoor
open Go.RowKit
theorem open_sealed (l : List UInt8) : openE (txt (sealed l)) = 0 ∧ openT (txt (sealed l)) = txt l := by
  have hz : (txt (sealed l)).size = l.length + 4 := by rw [txt_size, seal_length]
  have hd : (txt (sealed l)).data.toList.drop ((txt (sealed l)).size - 4) = be 4 (fnv l) := by
    rw [hz, txt_data, Nat.add_sub_cancel]
    unfold sealed
    rw [List.drop_left]
  have ht : (txt (sealed l)).data.toList.take ((txt (sealed l)).size - 4) = l := by
    rw [hz, txt_data, Nat.add_sub_cancel]
    unfold sealed
    rw [List.take_left]
  unfold openE openT
  have h4 : ¬ (txt (sealed l)).size < 4 := by omega
  rw [hd, ht, val_sum, if_neg h4, if_neg h4, if_pos rfl, if_pos rfl]
  exact ⟨rfl, rfl⟩
theorem sealed_open (s : ByteArray) (h : openE s = 0) : txt (sealed (openT s).data.toList) = s := by
  unfold openE at h
  unfold openT
  split at h
  · cases h
  · rename_i h4
    rw [if_neg h4]
    split at h
    · rename_i hw
      rw [if_pos hw]
      have := (whole_iff s (s.size - 4) (by omega)).1 hw
      rw [head_list] at this
      exact this
    · cases h
end Go.Proofs.YtabenngcmpjlhaaGreatDoor
namespace Go.Proofs.YtabenngcmpjlhaaGreatDoor
open Go.RowKit
theorem conv_box {w : World} {g : Nat} {a b : Int} (h : Box w g [.int .u8 a, .int .u8 b]) : (convert 192 9 (.slice (some ⟨g, 0, none⟩) 2 2)).run Tryz.prog w = .ok (.string (strOfNums [a, b])) w := by
  refine run_convert_bytes_arg (P := Tryz.prog) _ 192 5 Tryz.underlying192 Tryz.underlying5 g 0 2 2 [a, b] rfl (fun i hi => ?_) 9 Tryz.underlying9
  match i, hi with
  | 0, _ => exact h.cell 0
  | 1, _ => exact h.cell 1
theorem nums2 (a b : Int) : (strOfNums [a, b]).size = 2 := by rw [strOfNums_size]; rfl
@[go_sem] theorem idx0 (c b o p : Int) (w : World) : (Instr.index 186 (.agg #[.int .u64 c, .int .u64 b, .int .u64 o, .int .u64 p]) (.int .i64 0)).run Tryz.prog w = .ok (.int .u64 c) w := by kernel_rfl
@[go_sem] theorem idx1 (c b o p : Int) (w : World) : (Instr.index 186 (.agg #[.int .u64 c, .int .u64 b, .int .u64 o, .int .u64 p]) (.int .i64 1)).run Tryz.prog w = .ok (.int .u64 b) w := by kernel_rfl
@[go_sem] theorem idx2 (c b o p : Int) (w : World) : (Instr.index 186 (.agg #[.int .u64 c, .int .u64 b, .int .u64 o, .int .u64 p]) (.int .i64 2)).run Tryz.prog w = .ok (.int .u64 o) w := by kernel_rfl
@[go_sem] theorem idx3 (c b o p : Int) (w : World) : (Instr.index 186 (.agg #[.int .u64 c, .int .u64 b, .int .u64 o, .int .u64 p]) (.int .i64 3)).run Tryz.prog w = .ok (.int .u64 p) w := by kernel_rfl
theorem txt_app (l r : List UInt8) : txt l ++ (⟨r.toArray⟩ : ByteArray) = txt (l ++ r) := join_str l r
theorem be8_size (n : Nat) : (⟨(be 8 n).toArray⟩ : ByteArray).size = 8 := by simp [ByteArray.size, be_length]
def num8 (l : List UInt8) (k : Nat) : Int := ((val ((l.drop k).take 8) : Nat) : Int)
theorem num8_range (l : List UInt8) (k : Nat) : 0 ≤ num8 l k ∧ num8 l k < 18446744073709551616 := by
  unfold num8
  have h := val_lt ((l.drop k).take 8)
  have h2 : ((l.drop k).take 8).length ≤ 8 := by rw [List.length_take]; omega
  have h3 : 256 ^ ((l.drop k).take 8).length ≤ 256 ^ 8 := Nat.pow_le_pow_right (by decide) h2
  have h4 : (256 : Nat) ^ 8 = 18446744073709551616 := by decide
  omega
theorem extract_num8 (s : ByteArray) (k : Nat) : ((val (s.extract k (k + 8)).data.toList : Nat) : Int) = num8 s.data.toList k := by
  unfold num8
  obtain ⟨⟨l⟩⟩ := s
  have e : ((⟨⟨l⟩⟩ : ByteArray).extract k (k + 8)).data.toList = (l.drop k).take 8 := by
    simp [List.extract, show k + 8 - k = 8 from by omega]
  rw [e]
theorem extract8 (s : ByteArray) (k : Nat) (h : k + 8 ≤ s.size) : (s.extract k (k + 8)).size = 8 := by simp; omega
theorem at_txt (t : ByteArray) (k : Nat) (h : k < t.size) : t[k] = t.data.toList.getD k 0 := by
  obtain ⟨⟨l⟩⟩ := t
  have h' : k < l.length := h
  show l[k] = l.getD k 0
  simp [List.getD, List.getElem?_eq_getElem h']
theorem num8_at (h r : List UInt8) (k x : Nat) (hk : h.length = k) : num8 (h ++ (be 8 x ++ r)) k = ((x % 18446744073709551616 : Nat) : Int) := by
  subst hk
  unfold num8
  rw [List.drop_left, List.take_left' (be_length 8 x), val_be]
theorem num8_nat (x : Int) (h0 : 0 ≤ x) (h1 : x < 18446744073709551616) : ((x.toNat % 18446744073709551616 : Nat) : Int) = x := by omega
theorem be_drop (l : List UInt8) (k : Nat) (h : k + 8 ≤ l.length) : be 8 (num8 l k).toNat = (l.drop k).take 8 := by
  unfold num8
  have := be_val ((l.drop k).take 8)
  rw [List.length_take, List.length_drop, Nat.min_eq_left (by omega)] at this
  rw [Int.toNat_natCast]
  exact this
end Go.Proofs.YtabenngcmpjlhaaGreatDoor
