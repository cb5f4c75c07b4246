/- Numbers as bytes: what each function that lays or reads them answers, for every argument within its type; no other condition. -/
import Derived.Test.YtbbcncofdhhflaaDoorBase
import Derived.Test.YtbbcncofdhhflaaDoorNum
import Derived.Laws.BytesArg
namespace Go.Proofs.YtbbcncofdhhflaaDoor
open Go.RowKit

/-- A text out of a row of bytes that the call has just laid. -/
theorem conv_row (w : World) (g : Nat) (hg : g = w.heap.size) (cap : Nat) (xs : List Int) (n : Nat) (hn : n = xs.length) :
    (convert 42 9 (.slice (some ⟨g, 0, none⟩) n cap)).run Tryd.prog (w.alloc (.cells (xs.map (Value.int .u8)).toArray 5)) = .ok (.string (strOfNums xs)) (w.alloc (.cells (xs.map (Value.int .u8)).toArray 5)) := by
  subst hg; subst hn
  refine run_convert_bytes_arg (P := Tryd.prog) _ 42 5 Tryd.underlying42 Tryd.underlying5 w.heap.size 0 xs.length cap xs rfl (fun i hi => ?_) 9 Tryd.underlying9
  rw [World.cell?_alloc_mark w _ 5 (0, 0)]
  simp [List.getD, List.getElem?_eq_getElem hi]

theorem four_str (n : Nat) (a b c d : Int) (ha : a.toNat = n / 16777216) (hb : b.toNat = n / 65536 % 256) (hc : c.toNat = n / 256 % 256) (hd : d.toNat = n % 256) :
    strOfNums [a, b, c, d] = ⟨(be 4 n).toArray⟩ := by
  simp only [strOfNums, List.map_cons, List.map_nil, ha, hb, hc, hd, ofNat_mod]
  simp only [be, Nat.div_div_eq_div_mul, List.nil_append, List.cons_append]

set_option maxHeartbeats 400000 in
theorem put32_any (n : Int) (w : World) (h0 : 0 ≤ n) (h1 : n < 4294967296) :
    Calls Tryd.prog 33 #[.int .u32 n] w fun e w' => e = .returned (.string ⟨(be 4 n.toNat).toArray⟩) ∧ Below w.heap.size w w' := by
  have c4 : ∀ (w : World) (a b c d : Int), (convert 42 9 (.slice (some ⟨w.heap.size, 0, none⟩) 4 4)).run Tryd.prog (w.alloc (.cells #[.int .u8 a, .int .u8 b, .int .u8 c, .int .u8 d] 5)) = .ok (.string (strOfNums [a, b, c, d])) (w.alloc (.cells #[.int .u8 a, .int .u8 b, .int .u8 c, .int .u8 d] 5)) :=
    fun w a b c d => conv_row w _ rfl 4 [a, b, c, d] 4 rfl
  go_enter Tryd.func33, Tryd.ntmps33
  go_wp2
  go_ret
  exact ⟨ret_str (four_str n.toNat _ _ _ _ (by omega) (by omega) (by omega) (by omega)), (Below.refl _ _).alloc (Nat.le_refl _) _⟩

theorem join_str (l r : List UInt8) : (⟨l.toArray⟩ : ByteArray) ++ ⟨r.toArray⟩ = ⟨(l ++ r).toArray⟩ := by
  apply ByteArray.ext
  simp

theorem join8 (n : Nat) (a b : Nat) (ha : a = n / 4294967296) (hb : b = n % 4294967296) : be 4 a ++ be 4 b = be 8 n := by
  subst ha; subst hb
  rw [show (4294967296 : Nat) = 256 ^ 4 from rfl, be_mod, ← be_add]

set_option maxHeartbeats 400000 in
theorem put64_any (n : Int) (w : World) (h0 : 0 ≤ n) (h1 : n < 18446744073709551616) :
    Calls Tryd.prog 18 #[.int .u64 n] w fun e w' => e = .returned (.string ⟨(be 8 n.toNat).toArray⟩) ∧ Below w.heap.size w w' := by
  go_enter Tryd.func18, Tryd.ntmps18
  go_wp2_with fail
  refine (put32_any _ _ (by omega) (by omega)).mono ?_
  rintro e w1 ⟨rfl, hb1⟩
  go_wp2_with fail
  refine (put32_any _ _ (by omega) (by omega)).mono ?_
  rintro e w2 ⟨rfl, hb2⟩
  go_wp2_with fail
  go_ret
  exact ⟨ret_str (by rw [join_str, join8 n.toNat _ _ (by omega) (by omega)]), hb1.trans (hb2.mono hb1.size)⟩

theorem byte_lt (c : UInt8) : (c.toNat : Int) < 256 := by have := UInt8.toNat_lt c; omega

theorem or4 (a b c d : Nat) (ha : a < 256) (hb : b < 256) (hc : c < 256) (hd : d < 256) :
    bits .or .u32 (bits .or .u32 (bits .or .u32 ((a : Int) % 4294967296 * 16777216 % 4294967296) ((b : Int) % 4294967296 * 65536 % 4294967296)) ((c : Int) % 4294967296 * 256 % 4294967296)) ((d : Int) % 4294967296) = ((((a * 256 + b) * 256 + c) * 256 + d : Nat) : Int) := by
  rw [show ((a : Int) % 4294967296 * 16777216 % 4294967296) = ((a * 16777216 : Nat) : Int) from by omega, show ((b : Int) % 4294967296 * 65536 % 4294967296) = ((b * 65536 : Nat) : Int) from by omega,
    show ((c : Int) % 4294967296 * 256 % 4294967296) = ((c * 256 : Nat) : Int) from by omega, show ((d : Int) % 4294967296) = ((d : Nat) : Int) from by omega]
  rw [u32_or_nat _ _ (by omega) (by omega), nat_join 24 (a * 16777216) (b * 65536) (by omega) (by omega)]
  rw [u32_or_nat _ _ (by omega) (by omega), nat_join 16 (a * 16777216 + b * 65536) (c * 256) (by omega) (by omega)]
  rw [u32_or_nat _ _ (by omega) (by omega), nat_join 8 (a * 16777216 + b * 65536 + c * 256) d (by omega) (by omega)]
  omega

theorem val4 (s : ByteArray) (h : s.size = 4) : val s.data.toList = ((s[0].toNat * 256 + s[1].toNat) * 256 + s[2].toNat) * 256 + s[3].toNat := by
  obtain ⟨⟨l⟩⟩ := s
  simp [ByteArray.size] at h
  match l, h with
  | [a, b, c, d], _ => simp [val]; rfl

set_option maxHeartbeats 400000 in
theorem get32_yes (s : ByteArray) (w : World) (h0 : s.size = 4)  :
    Calls Tryd.prog 54 #[.string s] w fun e w' => e = .returned (.tuple #[.int .u32 (val s.data.toList), .bool true]) ∧ ∃ n, w' = w.drewN n := by
  have a0 : (0:Int) < s.size := by omega
  have a1 : (1:Int) < s.size := by omega
  have a2 : (2:Int) < s.size := by omega
  have a3 : (3:Int) < s.size := by omega
  go_enter Tryd.func54, Tryd.ntmps54
  go_wp2
  go_quiet (fail)
  go_wp2
  go_ret2
  exact ⟨ret_num (by rw [or4 _ _ _ _ (UInt8.toNat_lt _) (UInt8.toNat_lt _) (UInt8.toNat_lt _) (UInt8.toNat_lt _), val4 s h0]) rfl, _, rfl⟩

set_option maxHeartbeats 400000 in
theorem get32_no (s : ByteArray) (w : World) (h0 : s.size ≠ 4)  :
    Calls Tryd.prog 54 #[.string s] w fun e w' => e = .returned (.tuple #[.int .u32 0, .bool false]) ∧ ∃ n, w' = w.drewN n := by
  have a0 : ((s.size : Int) != 4) = true := by rw [bne_iff_ne]; omega
  go_enter Tryd.func54, Tryd.ntmps54
  go_wp2
  go_ret2
  exact ⟨rfl, 0, rfl⟩

theorem or8 (a b : Nat) (ha : a < 4294967296) (hb : b < 4294967296) :
    bits .or .u64 (IntKind.u64.wrap (IntKind.u64.wrap (a : Int) * 4294967296)) (IntKind.u64.wrap (b : Int)) = ((a * 4294967296 + b : Nat) : Int) := by
  rw [IntWalk.u64_in (a : Int) (by omega), IntWalk.u64_in (b : Int) (by omega), IntWalk.u64_in ((a : Int) * 4294967296) (by omega), show ((a : Int) * 4294967296) = ((a * 4294967296 : Nat) : Int) from by omega]
  rw [u64_or_nat _ _ (by omega) (by omega), nat_join 32 (a * 4294967296) b (by omega) (by omega)]

theorem val8 (s : ByteArray) (h : s.size = 8) (a b : Nat) (ha : a = val (List.take 4 s.data.toList)) (hb : b = val (List.take (s.size - 4) (List.drop 4 s.data.toList))) :
    bits .or .u64 (IntKind.u64.wrap (IntKind.u64.wrap (a : Int) * 4294967296)) (IntKind.u64.wrap (b : Int)) = (val s.data.toList : Int) := by
  have hl : s.data.toList.length = 8 := by rw [Array.length_toList]; exact h
  have e : List.take (s.size - 4) (List.drop 4 s.data.toList) = List.drop 4 s.data.toList := List.take_of_length_le (by rw [List.length_drop, hl, h]; decide)
  rw [e] at hb
  have h1 := val_lt (List.take 4 s.data.toList)
  have h2 := val_lt (List.drop 4 s.data.toList)
  rw [List.length_take, hl] at h1
  rw [List.length_drop, hl] at h2
  have h3 := val_append (List.take 4 s.data.toList) (List.drop 4 s.data.toList)
  rw [List.take_append_drop, List.length_drop, hl, show 256 ^ (8 - 4) = 4294967296 from by decide] at h3
  have h4 := Nat.lt_of_lt_of_le h1 (show 256 ^ min 4 8 ≤ 4294967296 from by decide)
  have h5 := Nat.lt_of_lt_of_le h2 (show 256 ^ (8 - 4) ≤ 4294967296 from by decide)
  rw [or8 a b (by omega) (by omega), h3, ha, hb]

set_option maxHeartbeats 400000 in
theorem get64_yes (s : ByteArray) (w : World) (h0 : s.size = 8)  :
    Calls Tryd.prog 43 #[.string s] w fun e w' => e = .returned (.tuple #[.int .u64 (val s.data.toList), .bool true]) ∧ ∃ n, w' = w.drewN n := by
  have a0 : ((s.size : Int) != 8) = false := by rw [bne_eq_false_iff_eq]; omega
  have a1 : (4 : Int) ≤ s.size := by omega
  have a2 : (s.extract 0 4).size = 4 := by simp; omega
  have a3 : (s.extract 4 s.size).size = 4 := by simp; omega
  have A2 := Lib.hid a2; clear a2
  have A3 := Lib.hid a3; clear a3
  have H0 := Lib.hid h0; clear h0
  go_enter Tryd.func43, Tryd.ntmps43
  go_wp2_with fail
  refine (get32_yes _ _ A2.out).mono ?_
  rintro e w1 ⟨rfl, n1, rfl⟩
  go_wp2_with fail
  refine (get32_yes _ _ A3.out).mono ?_
  rintro e w2 ⟨rfl, n2, rfl⟩
  go_wp2_with fail
  go_ret2
  exact ⟨ret_num (val8 _ H0.out _ _ rfl rfl) rfl, _, rfl⟩

set_option maxHeartbeats 400000 in
theorem get64_no (s : ByteArray) (w : World) (h0 : s.size ≠ 8)  :
    Calls Tryd.prog 43 #[.string s] w fun e w' => e = .returned (.tuple #[.int .u64 0, .bool false]) ∧ ∃ n, w' = w.drewN n := by
  have a0 : ((s.size : Int) != 8) = true := by rw [bne_iff_ne]; omega
  go_enter Tryd.func43, Tryd.ntmps43
  go_wp2
  go_ret2
  exact ⟨rfl, 0, rfl⟩

set_option maxHeartbeats 400000 in
theorem put_any (n size : Int) (w : World) (h0 : 0 ≤ n) (h1 : n < 18446744073709551616) (h2 : 0 ≤ size) (h3 : size ≤ 8) :
    Calls Tryd.prog 41 #[.int .u64 n, .int .i64 size] w fun e w' => e = .returned (.string ⟨(be size.toNat n.toNat).toArray⟩) ∧ Below w.heap.size w w' := by
  go_enter Tryd.func41, Tryd.ntmps41
  go_wp2
  go_loopw [0, 5, 6] (fun a s i wr => ∃ k : Nat, (k : Int) ≤ size ∧ i = .int .i64 k ∧ a = .int .u64 ((n.toNat / 256 ^ k : Nat) : Int) ∧ s = .string ⟨(be k n.toNat).toArray⟩ ∧ Below w.heap.size w wr) (fun _ _ i _ => size.toNat - (intOf i).toNat)
  case atStart => exact ⟨0, h2, rfl, by simp; omega, rfl, Below.refl _ _⟩
  case round =>
    obtain ⟨k, hk, rfl, rfl, rfl, hb⟩ := hrel
    have hq : n.toNat / 256 ^ k ≤ n.toNat := Nat.div_le_self _ _
    have hlen : (be k n.toNat).length ≤ 8 := by rw [be_length]; omega
    generalize hm : n.toNat / 256 ^ k = m at *
    have HM := Lib.hid hm; clear hm
    have hs : (strOfNums [(m : Int) % 256]).size ≤ 1 := by rw [strOfNums_size]; simp
    have c1 : ∀ (w : World) (a : Int), (convert 42 9 (.slice (some ⟨w.heap.size, 0, none⟩) 1 1)).run Tryd.prog (w.alloc (.cells #[.int .u8 a] 5)) = .ok (.string (strOfNums [a])) (w.alloc (.cells #[.int .u8 a] 5)) :=
      fun w a => conv_row w _ rfl 1 [a] 1 rfl
    by_cases hlt : (k : Int) < size
    · go_wp2
      go_roundw
      case rel => 
        have e1 : n.toNat / 256 ^ (k + 1) = m / 256 := by rw [Nat.pow_succ, ← Nat.div_div_eq_div_mul, HM.out]
        have e2 : strOfNums [(m : Int) % 256] ++ (⟨(be k n.toNat).toArray⟩ : ByteArray) = ⟨(be (k + 1) n.toNat).toArray⟩ := by
          rw [be_head, HM.out, show strOfNums [(m : Int) % 256] = (⟨([UInt8.ofNat m] : List UInt8).toArray⟩ : ByteArray) from by
            simp only [strOfNums, List.map_cons, List.map_nil]; rw [show ((m : Int) % 256).toNat = m % 256 from by omega, ofNat_mod], join_str]
          rfl
        exact ⟨k + 1, by omega, by go_num, by rw [e1]; go_num, by rw [e2], hb.alloc hb.size _⟩
      case measure => simp [intOf]; omega
    · go_wp2
      go_ret
      exact ⟨ret_str (by rw [show size.toNat = k from by omega]), hb⟩

theorem val_take (s : ByteArray) (k : Nat) (h : k < s.size) : val (s.data.toList.take (k + 1)) = val (s.data.toList.take k) * 256 + s[k].toNat := by
  rw [List.take_succ_eq_append_getElem (by simpa using h), val_snoc]; rfl

theorem pow_le8 (k : Nat) (h : k < 8) : 256 ^ k ≤ 72057594037927936 := by
  have : 256 ^ k ≤ 256 ^ 7 := Nat.pow_le_pow_right (by decide) (by omega)
  simpa using this

set_option maxHeartbeats 400000 in
theorem getr_yes (s : ByteArray) (size : Int) (w : World) (h2 : 0 ≤ size) (h3 : size ≤ 8) (h0 : (s.size : Int) = size)  :
    Calls Tryd.prog 46 #[.string s, .int .i64 size] w fun e w' => e = .returned (.tuple #[.int .u64 (val s.data.toList), .bool true]) ∧ w' = w := by
  have a0 : ((s.size : Int) != size) = false := by rw [bne_eq_false_iff_eq]; omega
  have hz : (s.size : Int) ≤ size := by omega
  have hz2 : size ≤ s.size := by omega
  clear h0
  go_enter Tryd.func46, Tryd.ntmps46
  go_wp2
  go_loop [6, 7] (fun a i => ∃ k : Nat, (k : Int) ≤ size ∧ i = .int .i64 k ∧ a = .int .u64 (val (s.data.toList.take k) : Int)) (fun _ i => size.toNat - (intOf i).toNat)
  case atStart => exact ⟨0, h2, rfl, rfl⟩
  case round =>
    obtain ⟨k, hk, rfl, rfl⟩ := hrel
    by_cases hlt : (k : Int) < size
    · have hv : val (s.data.toList.take k) < 72057594037927936 := by
        have h1 := val_lt (s.data.toList.take k)
        have h4 := pow_le8 k (by omega)
        have h5 : (s.data.toList.take k).length ≤ k := by rw [List.length_take]; omega
        have h6 : 256 ^ (s.data.toList.take k).length ≤ 256 ^ k := Nat.pow_le_pow_right (by decide) h5
        omega
      have hn := val_take s k (by omega)
      generalize val (s.data.toList.take k) = m at *
      have hb : (s[k]'(by omega)).toNat < 256 := UInt8.toNat_lt _
      have HN := Lib.hid hn; clear hn
      have hks : k < s.size := by omega
      go_wp2
      go_round
      case rel => exact ⟨k + 1, by omega, by go_num, by rw [HN.out]; go_num⟩
      case measure => simp [intOf]; omega
    · go_wp2
      go_ret2
      exact ⟨ret_num (by rw [List.take_of_length_le (by simp; omega)]) rfl, rfl⟩

set_option maxHeartbeats 400000 in
theorem getr_no (s : ByteArray) (size : Int) (w : World) (h0 : (s.size : Int) ≠ size)  :
    Calls Tryd.prog 46 #[.string s, .int .i64 size] w fun e w' => e = .returned (.tuple #[.int .u64 0, .bool false]) ∧ w' = w := by
  have a0 : ((s.size : Int) != size) = true := by rw [bne_iff_ne]; omega
  clear h0
  go_enter Tryd.func46, Tryd.ntmps46
  go_wp2
  go_ret2
  exact ⟨rfl, rfl⟩

set_option maxHeartbeats 400000 in
theorem rput32_any (n : Int) (w : World) (h0 : 0 ≤ n) (h1 : n < 4294967296) :
    Calls Tryd.prog 26 #[.int .u32 n] w fun e w' => e = .returned (.string ⟨(be 4 n.toNat).toArray⟩) ∧ Below w.heap.size w w' := by
  go_enter Tryd.func26, Tryd.ntmps26
  go_wp2_with fail
  refine (put_any _ _ _ (by omega) (by omega) (by omega) (by omega)).mono ?_
  rintro e w1 ⟨rfl, hb1⟩
  go_wp2_with fail
  go_ret
  exact ⟨rfl, hb1⟩

set_option maxHeartbeats 400000 in
theorem rput64_any (n : Int) (w : World) (h0 : 0 ≤ n) (h1 : n < 18446744073709551616) :
    Calls Tryd.prog 36 #[.int .u64 n] w fun e w' => e = .returned (.string ⟨(be 8 n.toNat).toArray⟩) ∧ Below w.heap.size w w' := by
  go_enter Tryd.func36, Tryd.ntmps36
  go_wp2_with fail
  refine (put_any _ _ _ (by omega) (by omega) (by omega) (by omega)).mono ?_
  rintro e w1 ⟨rfl, hb1⟩
  go_wp2_with fail
  go_ret
  exact ⟨rfl, hb1⟩

set_option maxHeartbeats 400000 in
theorem rget64_yes (s : ByteArray) (w : World) (h0 : s.size = 8)  :
    Calls Tryd.prog 31 #[.string s] w fun e w' => e = .returned (.tuple #[.int .u64 (val s.data.toList), .bool true]) ∧ w' = w := by
  go_enter Tryd.func31, Tryd.ntmps31
  go_wp2_with fail
  refine (getr_yes _ _ _ (by omega) (by omega) (by omega)).mono ?_
  rintro e w1 ⟨rfl, rfl⟩
  go_wp2_with fail
  go_ret2
  exact ⟨rfl, rfl⟩

set_option maxHeartbeats 400000 in
theorem rget64_no (s : ByteArray) (w : World) (h0 : s.size ≠ 8)  :
    Calls Tryd.prog 31 #[.string s] w fun e w' => e = .returned (.tuple #[.int .u64 0, .bool false]) ∧ w' = w := by
  go_enter Tryd.func31, Tryd.ntmps31
  go_wp2_with fail
  refine (getr_no _ _ _ (by omega)).mono ?_
  rintro e w1 ⟨rfl, rfl⟩
  go_wp2_with fail
  go_ret2
  exact ⟨rfl, rfl⟩

set_option maxHeartbeats 400000 in
theorem rget32_yes (s : ByteArray) (w : World) (h0 : s.size = 4)  :
    Calls Tryd.prog 48 #[.string s] w fun e w' => e = .returned (.tuple #[.int .u32 (val s.data.toList), .bool true]) ∧ w' = w := by
  have hl := val_lt s.data.toList
  have hl2 : (val s.data.toList : Int) < 4294967296 := by
    have e : s.data.toList.length = 4 := by rw [Array.length_toList]; exact h0
    rw [e] at hl
    have := Nat.lt_of_lt_of_le hl (show 256 ^ 4 ≤ 4294967296 from by decide)
    omega
  clear hl
  go_enter Tryd.func48, Tryd.ntmps48
  go_wp2_with fail
  refine (getr_yes _ _ _ (by omega) (by omega) (by omega)).mono ?_
  rintro e w1 ⟨rfl, rfl⟩
  go_wp2_with fail
  go_ret2
  exact ⟨rfl, rfl⟩

set_option maxHeartbeats 400000 in
theorem rget32_no (s : ByteArray) (w : World) (h0 : s.size ≠ 4)  :
    Calls Tryd.prog 48 #[.string s] w fun e w' => e = .returned (.tuple #[.int .u32 0, .bool false]) ∧ w' = w := by
  go_enter Tryd.func48, Tryd.ntmps48
  go_wp2_with fail
  refine (getr_no _ _ _ (by omega)).mono ?_
  rintro e w1 ⟨rfl, rfl⟩
  go_wp2_with fail
  go_ret2
  exact ⟨rfl, rfl⟩
end Go.Proofs.YtbbcncofdhhflaaDoor
