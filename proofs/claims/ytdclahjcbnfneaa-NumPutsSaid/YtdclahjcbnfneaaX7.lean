/- The walk of the law on coming back: it answers true, for every argument. No condition. -/
import Derived.Test.YtdclahjcbnfneaaX6
namespace Go.Proofs.Ytdclahjcbnfneaa
open Go.RowKit

theorem be_size (k n : Nat) : (⟨(be k n).toArray⟩ : ByteArray).size = k := by
  show (be k n).toArray.size = k
  rw [List.size_toArray, be_length]

theorem pow64 : 256 ^ 8 = 18446744073709551616 := by decide

theorem val8_of (n : Int) (h0 : 0 ≤ n) (h1 : n < 18446744073709551616) : ((val (⟨(be 8 n.toNat).toArray⟩ : ByteArray).data.toList : Nat) : Int) = n := by
  show ((val (be 8 n.toNat) : Nat) : Int) = n
  rw [val_be, pow64]
  omega

theorem val4_of (n : Int) : ((val (⟨(be 4 (n % 4294967296).toNat).toArray⟩ : ByteArray).data.toList : Nat) : Int) = n % 4294967296 := by
  show ((val (be 4 (n % 4294967296).toNat) : Nat) : Int) = n % 4294967296
  rw [val_be, show 256 ^ 4 = 4294967296 from by decide]
  omega

theorem fl_256 (l : List Bool) (h : l.length ≤ 8) : ((fl l : Nat) : Int) < 256 := by
  have h1 := fl_lt l
  have h2 : 2 ^ l.length ≤ 2 ^ 8 := Nat.pow_le_pow_right (by decide) h
  have h3 : (2 : Nat) ^ 8 = 256 := by decide
  omega

theorem back_of (s : ByteArray) (k : Nat) (h : s.size = k) : (⟨(be k ((val s.data.toList : Nat) : Int).toNat).toArray⟩ : ByteArray) = s := by
  subst h
  have e : s.size = s.data.toList.length := by rw [Array.length_toList]; rfl
  rw [Int.toNat_natCast, e, be_val]

theorem val_4 (s : ByteArray) (h : s.size = 4) : ((val s.data.toList : Nat) : Int) < 4294967296 := by
  have hl := val_lt s.data.toList
  have e : s.data.toList.length = 4 := by rw [Array.length_toList]; exact h
  rw [e, show 256 ^ 4 = 4294967296 from by decide] at hl
  omega

theorem val_8 (s : ByteArray) (h : s.size = 8) : ((val s.data.toList : Nat) : Int) < 18446744073709551616 := by
  have hl := val_lt s.data.toList
  have e : s.data.toList.length = 8 := by rw [Array.length_toList]; exact h
  rw [e, pow64] at hl
  omega

set_option maxRecDepth 100000 in
set_option maxHeartbeats 1000000 in
theorem back_text (n : Int) (s : ByteArray) (A : Option Addr) (c : Nat) (l : List Bool) (w : World) (hs : 100 < (s.size : Int)) :
    Calls Try.prog 5 #[.int .u64 n, .string s, .slice A l.length c] w (Yes w) := by
  go_enter Try.func5, Try.ntmps5
  go_wp2_with fail
  refine (alive_any _).mono ?_
  rintro e w1 ⟨rfl, hb1⟩
  go_wp2_with fail
  go_ret
  exact ⟨rfl, hb1⟩

set_option maxRecDepth 100000 in
set_option maxHeartbeats 1000000 in
theorem back_list (n : Int) (s : ByteArray) (A : Option Addr) (c : Nat) (l : List Bool) (w : World) (hs : (s.size : Int) ≤ 100) (hl : 8 < (l.length : Int)) :
    Calls Try.prog 5 #[.int .u64 n, .string s, .slice A l.length c] w (Yes w) := by
  go_enter Try.func5, Try.ntmps5
  go_wp2_with fail
  refine (alive_any _).mono ?_
  rintro e w1 ⟨rfl, hb1⟩
  go_wp2_with fail
  go_ret
  exact ⟨rfl, hb1⟩

set_option maxRecDepth 100000 in
set_option maxHeartbeats 1000000 in
theorem back_8 (n : Int) (s : ByteArray) (A : Option Addr) (c : Nat) (l : List Bool) (w : World) (h0 : 0 ≤ n) (h1 : n < 18446744073709551616) (hs : (s.size : Int) ≤ 100) (hl : (l.length : Int) ≤ 8) (hc : l.length ≤ c) (hm : c ≤ maxLen) (hbs : Bs w w.heap.size A l) (h8 : s.size = 8) :
    Calls Try.prog 5 #[.int .u64 n, .string s, .slice A l.length c] w (Yes w) := by
  have HC := Lib.hid hc; clear hc
  have HM := Lib.hid hm; clear hm
  have HS := Lib.hid hbs; clear hbs
  have b8 : ((s.size : Int) == 8) = true := by rw [beq_iff_eq]; omega
  have b4 : ((s.size : Int) == 4) = false := by rw [beq_eq_false_iff_ne]; omega
  have n4 : s.size ≠ 4 := by omega
  have H8 := Lib.hid h8; clear h8
  have N4 := Lib.hid n4; clear n4
  have B8 := Lib.hid b8; clear b8
  have B4 := Lib.hid b4; clear b4
  go_enter Try.func5, Try.ntmps5
  go_wp2_with fail
  refine (alive_any _).mono ?_
  rintro e w1 ⟨rfl, hb1⟩
  go_wp2_with fail
  refine (put64_any _ _ h0 h1).mono ?_
  rintro e w2 ⟨rfl, hb2⟩
  go_wp2_with fail
  refine (get64_yes _ _ (be_size 8 _)).mono ?_
  rintro e w3 ⟨rfl, n3, rfl⟩
  rw [val8_of n h0 h1]
  go_wp2_with fail
  refine (put32_any _ _ (by omega) (by omega)).mono ?_
  rintro e w3 ⟨rfl, hb3⟩
  go_wp2_with fail
  refine (get32_yes _ _ (be_size 4 _)).mono ?_
  rintro e w4 ⟨rfl, n4, rfl⟩
  rw [val4_of n]
  go_wp2_with fail
  have hb4 := ext hb1 (ext (ext_drewN hb2 n3) hb3)
  refine (flags_any A c l _ w.heap.size (HS.out.below (ext_drewN hb4 n4) (Nat.le_refl _)) HC.out HM.out).mono ?_
  rintro e w5 ⟨rfl, rfl⟩
  rw [List.take_of_length_le (show l.length ≤ 8 by omega)]
  go_wp2_with fail
  refine (unflag_yes (fl l) l.length _ (by omega) (fl_256 l (by omega)) (by omega) (by rw [Int.toNat_natCast]; exact fl_lt l)).mono ?_
  rw [Int.toNat_natCast, unfl_fl]
  rintro e w5 ⟨A2, c2, rfl, hc2, hm2, hs2, hb5⟩
  have HS2 := Lib.hid hs2; clear hs2
  have HM2 := Lib.hid hm2; clear hm2
  have hb6 := ext (ext_drewN hb4 n4) hb5
  have HB5 := Lib.hid hb5; clear hb5
  go_wp2_with fail
  refine (same_yes _ _ _ _ l _ w5.heap.size HS2.out (HS.out.below hb6 hb6.size) (by unfold maxLen; omega)).mono ?_
  rintro e w6 ⟨rfl, n6, rfl⟩
  go_wp2_with fail
  refine (get64_yes _ _ H8.out).mono ?_
  rintro e w7 ⟨rfl, n7, rfl⟩
  go_wp2_with fail
  refine (get32_no _ _ N4.out).mono ?_
  rintro e w7 ⟨rfl, n8, rfl⟩
  have b8 := B8.out
  have b4 := B4.out
  clear B8 B4
  go_wp2_with fail
  refine (put64_any _ _ (by omega) (val_8 s H8.out)).mono ?_
  rintro e w7 ⟨rfl, hb7⟩
  rw [back_of s 8 H8.out]
  go_wp2_with fail
  go_ret
  exact ⟨rfl, ext (ext_drewN hb6 _) hb7⟩

set_option maxRecDepth 100000 in
set_option maxHeartbeats 1000000 in
theorem back_4 (n : Int) (s : ByteArray) (A : Option Addr) (c : Nat) (l : List Bool) (w : World) (h0 : 0 ≤ n) (h1 : n < 18446744073709551616) (hs : (s.size : Int) ≤ 100) (hl : (l.length : Int) ≤ 8) (hc : l.length ≤ c) (hm : c ≤ maxLen) (hbs : Bs w w.heap.size A l) (h4 : s.size = 4) :
    Calls Try.prog 5 #[.int .u64 n, .string s, .slice A l.length c] w (Yes w) := by
  have HC := Lib.hid hc; clear hc
  have HM := Lib.hid hm; clear hm
  have HS := Lib.hid hbs; clear hbs
  have b8 : ((s.size : Int) == 8) = false := by rw [beq_eq_false_iff_ne]; omega
  have b4 : ((s.size : Int) == 4) = true := by rw [beq_iff_eq]; omega
  have n8 : s.size ≠ 8 := by omega
  have H4 := Lib.hid h4; clear h4
  have N8 := Lib.hid n8; clear n8
  have B8 := Lib.hid b8; clear b8
  have B4 := Lib.hid b4; clear b4
  go_enter Try.func5, Try.ntmps5
  go_wp2_with fail
  refine (alive_any _).mono ?_
  rintro e w1 ⟨rfl, hb1⟩
  go_wp2_with fail
  refine (put64_any _ _ h0 h1).mono ?_
  rintro e w2 ⟨rfl, hb2⟩
  go_wp2_with fail
  refine (get64_yes _ _ (be_size 8 _)).mono ?_
  rintro e w3 ⟨rfl, n3, rfl⟩
  rw [val8_of n h0 h1]
  go_wp2_with fail
  refine (put32_any _ _ (by omega) (by omega)).mono ?_
  rintro e w3 ⟨rfl, hb3⟩
  go_wp2_with fail
  refine (get32_yes _ _ (be_size 4 _)).mono ?_
  rintro e w4 ⟨rfl, n4, rfl⟩
  rw [val4_of n]
  go_wp2_with fail
  have hb4 := ext hb1 (ext (ext_drewN hb2 n3) hb3)
  refine (flags_any A c l _ w.heap.size (HS.out.below (ext_drewN hb4 n4) (Nat.le_refl _)) HC.out HM.out).mono ?_
  rintro e w5 ⟨rfl, rfl⟩
  rw [List.take_of_length_le (show l.length ≤ 8 by omega)]
  go_wp2_with fail
  refine (unflag_yes (fl l) l.length _ (by omega) (fl_256 l (by omega)) (by omega) (by rw [Int.toNat_natCast]; exact fl_lt l)).mono ?_
  rw [Int.toNat_natCast, unfl_fl]
  rintro e w5 ⟨A2, c2, rfl, hc2, hm2, hs2, hb5⟩
  have HS2 := Lib.hid hs2; clear hs2
  have HM2 := Lib.hid hm2; clear hm2
  have hb6 := ext (ext_drewN hb4 n4) hb5
  have HB5 := Lib.hid hb5; clear hb5
  go_wp2_with fail
  refine (same_yes _ _ _ _ l _ w5.heap.size HS2.out (HS.out.below hb6 hb6.size) (by unfold maxLen; omega)).mono ?_
  rintro e w6 ⟨rfl, n6, rfl⟩
  go_wp2_with fail
  refine (get64_no _ _ N8.out).mono ?_
  rintro e w7 ⟨rfl, n7, rfl⟩
  go_wp2_with fail
  refine (get32_yes _ _ H4.out).mono ?_
  rintro e w7 ⟨rfl, n8, rfl⟩
  have b8 := B8.out
  have b4 := B4.out
  clear B8 B4
  go_wp2_with fail
  refine (put32_any _ _ (by omega) (val_4 s H4.out)).mono ?_
  rintro e w7 ⟨rfl, hb7⟩
  rw [back_of s 4 H4.out]
  go_wp2_with fail
  go_ret
  exact ⟨rfl, ext (ext_drewN hb6 _) hb7⟩

set_option maxRecDepth 100000 in
set_option maxHeartbeats 1000000 in
theorem back_else (n : Int) (s : ByteArray) (A : Option Addr) (c : Nat) (l : List Bool) (w : World) (h0 : 0 ≤ n) (h1 : n < 18446744073709551616) (hs : (s.size : Int) ≤ 100) (hl : (l.length : Int) ≤ 8) (hc : l.length ≤ c) (hm : c ≤ maxLen) (hbs : Bs w w.heap.size A l) (h4 : s.size ≠ 4) (h8 : s.size ≠ 8) :
    Calls Try.prog 5 #[.int .u64 n, .string s, .slice A l.length c] w (Yes w) := by
  have HC := Lib.hid hc; clear hc
  have HM := Lib.hid hm; clear hm
  have HS := Lib.hid hbs; clear hbs
  have b8 : ((s.size : Int) == 8) = false := by rw [beq_eq_false_iff_ne]; omega
  have b4 : ((s.size : Int) == 4) = false := by rw [beq_eq_false_iff_ne]; omega
  have N4 := Lib.hid h4; clear h4
  have N8 := Lib.hid h8; clear h8
  have B8 := Lib.hid b8; clear b8
  have B4 := Lib.hid b4; clear b4
  go_enter Try.func5, Try.ntmps5
  go_wp2_with fail
  refine (alive_any _).mono ?_
  rintro e w1 ⟨rfl, hb1⟩
  go_wp2_with fail
  refine (put64_any _ _ h0 h1).mono ?_
  rintro e w2 ⟨rfl, hb2⟩
  go_wp2_with fail
  refine (get64_yes _ _ (be_size 8 _)).mono ?_
  rintro e w3 ⟨rfl, n3, rfl⟩
  rw [val8_of n h0 h1]
  go_wp2_with fail
  refine (put32_any _ _ (by omega) (by omega)).mono ?_
  rintro e w3 ⟨rfl, hb3⟩
  go_wp2_with fail
  refine (get32_yes _ _ (be_size 4 _)).mono ?_
  rintro e w4 ⟨rfl, n4, rfl⟩
  rw [val4_of n]
  go_wp2_with fail
  have hb4 := ext hb1 (ext (ext_drewN hb2 n3) hb3)
  refine (flags_any A c l _ w.heap.size (HS.out.below (ext_drewN hb4 n4) (Nat.le_refl _)) HC.out HM.out).mono ?_
  rintro e w5 ⟨rfl, rfl⟩
  rw [List.take_of_length_le (show l.length ≤ 8 by omega)]
  go_wp2_with fail
  refine (unflag_yes (fl l) l.length _ (by omega) (fl_256 l (by omega)) (by omega) (by rw [Int.toNat_natCast]; exact fl_lt l)).mono ?_
  rw [Int.toNat_natCast, unfl_fl]
  rintro e w5 ⟨A2, c2, rfl, hc2, hm2, hs2, hb5⟩
  have HS2 := Lib.hid hs2; clear hs2
  have HM2 := Lib.hid hm2; clear hm2
  have hb6 := ext (ext_drewN hb4 n4) hb5
  have HB5 := Lib.hid hb5; clear hb5
  go_wp2_with fail
  refine (same_yes _ _ _ _ l _ w5.heap.size HS2.out (HS.out.below hb6 hb6.size) (by unfold maxLen; omega)).mono ?_
  rintro e w6 ⟨rfl, n6, rfl⟩
  go_wp2_with fail
  refine (get64_no _ _ N8.out).mono ?_
  rintro e w7 ⟨rfl, n7, rfl⟩
  go_wp2_with fail
  refine (get32_no _ _ N4.out).mono ?_
  rintro e w7 ⟨rfl, n8, rfl⟩
  have b8 := B8.out
  have b4 := B4.out
  clear B8 B4
  go_wp2_with fail
  go_ret
  exact ⟨rfl, ext_drewN hb6 _⟩

theorem back_law (n : Int) (s : ByteArray) (A : Option Addr) (c : Nat) (l : List Bool) (w : World) (h0 : 0 ≤ n) (h1 : n < 18446744073709551616) (hc : l.length ≤ c) (hm : c ≤ maxLen) (hbs : Bs w w.heap.size A l) :
    Calls Try.prog 5 #[.int .u64 n, .string s, .slice A l.length c] w (Yes w) := by
  by_cases hs : 100 < (s.size : Int)
  · exact back_text n s A c l w hs
  by_cases hl : 8 < (l.length : Int)
  · exact back_list n s A c l w (by omega) hl
  by_cases h8 : s.size = 8
  · exact back_8 n s A c l w h0 h1 (by omega) (by omega) hc hm hbs h8
  by_cases h4 : s.size = 4
  · exact back_4 n s A c l w h0 h1 (by omega) (by omega) hc hm hbs h4
  · exact back_else n s A c l w h0 h1 (by omega) (by omega) hc hm hbs h4 h8
end Go.Proofs.Ytdclahjcbnfneaa
