/- Plain facts on numbers as bytes, and flags as bits; no condition. Nothing of the program is imported. -/
import Derived.Laws.BytesArg
import Derived.Laws.BitsAllLaws
import Derived.ChangeKeysEq
import Derived.Deep.RegionHeld3
import Derived.Test.YtkjikigimmchlaaGreatDoorKD
namespace Go.Proofs.YtkjikigimmchlaaGreatDoor
def be : Nat → Nat → List UInt8
  | 0, _ => []
  | k + 1, n => be k (n / 256) ++ [UInt8.ofNat n]
theorem be_length (k n : Nat) : (be k n).length = k := by
  induction k generalizing n with
  | zero => rfl
  | succ k ih => simp [be, ih]
theorem be_head (k n : Nat) : be (k + 1) n = UInt8.ofNat (n / 256 ^ k) :: be k n := by
  induction k generalizing n with
  | zero => simp [be]
  | succ k ih =>
    rw [be, ih (n / 256), List.cons_append]
    rw [Nat.div_div_eq_div_mul, show 256 * 256 ^ k = 256 ^ (k + 1) from by rw [Nat.pow_succ, Nat.mul_comm]]
    rfl
theorem ofNat_mod (n : Nat) : UInt8.ofNat (n % 256) = UInt8.ofNat n := by
  apply UInt8.toNat_inj.1; simp
theorem be_mod (k n : Nat) : be k (n % 256 ^ k) = be k n := by
  induction k generalizing n with
  | zero => rfl
  | succ k ih =>
    rw [be, be]
    have h1 : n % 256 ^ (k + 1) / 256 = n / 256 % 256 ^ k := by
      rw [Nat.pow_succ, Nat.mul_comm, Nat.mod_mul_right_div_self]
    have h2 : UInt8.ofNat (n % 256 ^ (k + 1)) = UInt8.ofNat n := by
      rw [← ofNat_mod (n % 256 ^ (k + 1)), ← ofNat_mod n, Nat.pow_succ, Nat.mod_mul_left_mod]
    rw [h1, h2, ih]
theorem be_add (j k n : Nat) : be (j + k) n = be j (n / 256 ^ k) ++ be k n := by
  induction k generalizing n with
  | zero => simp [be]
  | succ k ih =>
    rw [← Nat.add_assoc, be, ih, be, List.append_assoc, Nat.div_div_eq_div_mul, show 256 * 256 ^ k = 256 ^ (k + 1) from by rw [Nat.pow_succ, Nat.mul_comm]]
def val (l : List UInt8) : Nat := l.foldl (fun a c => a * 256 + c.toNat) 0
theorem val_snoc (l : List UInt8) (c : UInt8) : val (l ++ [c]) = val l * 256 + c.toNat := by
  unfold val; simp
theorem foldl_val (l : List UInt8) (a : Nat) : l.foldl (fun a c => a * 256 + c.toNat) a = a * 256 ^ l.length + val l := by
  induction l generalizing a with
  | nil => simp [val]
  | cons c l ih =>
    have e : val (c :: l) = c.toNat * 256 ^ l.length + val l := by
      show List.foldl _ (0 * 256 + c.toNat) l = _
      rw [ih]; simp
    rw [List.foldl_cons, ih, e, List.length_cons, Nat.pow_succ, Nat.add_mul, Nat.add_assoc, Nat.mul_assoc, Nat.mul_comm 256]
theorem val_append (l r : List UInt8) : val (l ++ r) = val l * 256 ^ r.length + val r := by
  unfold val; rw [List.foldl_append, foldl_val]; rfl
theorem val_lt (l : List UInt8) : val l < 256 ^ l.length := by
  induction l with
  | nil => simp [val]
  | cons c l ih =>
    have e : val (c :: l) = c.toNat * 256 ^ l.length + val l := by
      have := val_append [c] l
      simpa [val] using this
    have hc : c.toNat < 256 := UInt8.toNat_lt c
    have h2 : c.toNat * 256 ^ l.length + 256 ^ l.length ≤ 256 * 256 ^ l.length := by
      have : (c.toNat + 1) * 256 ^ l.length ≤ 256 * 256 ^ l.length := Nat.mul_le_mul_right _ (by omega)
      rw [Nat.add_mul, Nat.one_mul] at this; exact this
    rw [e, List.length_cons, Nat.pow_succ, Nat.mul_comm _ 256]
    omega
theorem val_be (k n : Nat) : val (be k n) = n % 256 ^ k := by
  induction k generalizing n with
  | zero => simp [be, val, Nat.mod_one]
  | succ k ih =>
    rw [be, val_snoc, ih]
    have : (UInt8.ofNat n).toNat = n % 256 := by simp
    rw [this, Nat.pow_succ, Nat.mul_comm (256 ^ k) 256, Nat.mod_mul]
    omega
theorem val_cons (c : UInt8) (l : List UInt8) : val (c :: l) = c.toNat * 256 ^ l.length + val l := by
  have := val_append [c] l
  simpa [val] using this
theorem be_val (l : List UInt8) : be l.length (val l) = l := by
  induction l with
  | nil => rfl
  | cons c l ih =>
    have hl := val_lt l
    have hp : 0 < 256 ^ l.length := Nat.pow_pos (by decide)
    rw [List.length_cons, be_head, val_cons]
    have h1 : (c.toNat * 256 ^ l.length + val l) / 256 ^ l.length = c.toNat := by
      rw [Nat.mul_comm, Nat.mul_add_div hp, Nat.div_eq_of_lt hl, Nat.add_zero]
    have h2 : be l.length (c.toNat * 256 ^ l.length + val l) = l := by
      rw [← be_mod, show (c.toNat * 256 ^ l.length + val l) % 256 ^ l.length = val l from by rw [Nat.mul_comm, Nat.mul_add_mod, Nat.mod_eq_of_lt hl], ih]
    rw [h1, h2]
    simp
def fl : List Bool → Nat
  | [] => 0
  | b :: r => b.toNat + 2 * fl r
theorem fl_lt (l : List Bool) : fl l < 2 ^ l.length := by
  induction l with
  | nil => simp [fl]
  | cons b l ih =>
    rw [fl, List.length_cons, Nat.pow_succ]
    cases b <;> simp <;> omega
theorem fl_snoc (l : List Bool) (b : Bool) : fl (l ++ [b]) = fl l + b.toNat * 2 ^ l.length := by
  induction l with
  | nil => simp [fl]
  | cons c l ih =>
    rw [List.cons_append, fl, ih, fl, List.length_cons, Nat.pow_succ, Nat.mul_add]
    rw [Nat.mul_comm (2 ^ l.length) 2, Nat.mul_left_comm]
    omega
def unfl : Nat → Nat → List Bool
  | 0, _ => []
  | n + 1, b => decide (b % 2 = 1) :: unfl n (b / 2)
theorem unfl_length (n b : Nat) : (unfl n b).length = n := by
  induction n generalizing b with
  | zero => rfl
  | succ n ih => simp [unfl, ih]
theorem unfl_snoc (n b : Nat) : unfl (n + 1) b = unfl n b ++ [decide (b / 2 ^ n % 2 = 1)] := by
  induction n generalizing b with
  | zero => simp [unfl]
  | succ n ih =>
    rw [unfl, ih, Nat.div_div_eq_div_mul, show 2 * 2 ^ n = 2 ^ (n + 1) from by rw [Nat.pow_succ, Nat.mul_comm]]
    rfl
end Go.Proofs.YtkjikigimmchlaaGreatDoor
namespace Go.Proofs.YtkjikigimmchlaaGreatDoor
open Go.RowKit
theorem conv_row (w : World) (g : Nat) (hg : g = w.heap.size) (cap : Nat) (xs : List Int) (n : Nat) (hn : n = xs.length) :
    (convert 126 9 (.slice (some ⟨g, 0, none⟩) n cap)).run Tryz.prog (w.alloc (.cells (xs.map (Value.int .u8)).toArray 5)) = .ok (.string (strOfNums xs)) (w.alloc (.cells (xs.map (Value.int .u8)).toArray 5)) := by
  subst hg; subst hn
  refine run_convert_bytes_arg (P := Tryz.prog) _ 126 5 Tryz.underlying126 Tryz.underlying5 w.heap.size 0 xs.length cap xs rfl (fun i hi => ?_) 9 Tryz.underlying9
  rw [World.cell?_alloc_mark w _ 5 (0, 0)]
  simp [List.getD, List.getElem?_eq_getElem hi]
theorem four_str (n : Nat) (a b c d : Int) (ha : a.toNat = n / 16777216) (hb : b.toNat = n / 65536 % 256) (hc : c.toNat = n / 256 % 256) (hd : d.toNat = n % 256) :
    strOfNums [a, b, c, d] = ⟨(be 4 n).toArray⟩ := by
  simp only [strOfNums, List.map_cons, List.map_nil, ha, hb, hc, hd, ofNat_mod]
  simp only [be, Nat.div_div_eq_div_mul, List.nil_append, List.cons_append]
set_option maxHeartbeats 400000 in
theorem put32_any (n : Int) (w : World) (h0 : 0 ≤ n) (h1 : n < 4294967296) :
    Calls Tryz.prog 208 #[.int .u32 n] w fun e w' => e = .returned (.string ⟨(be 4 n.toNat).toArray⟩) ∧ Below w.heap.size w w' := by
  have c4 : ∀ (w : World) (a b c d : Int), (convert 126 9 (.slice (some ⟨w.heap.size, 0, none⟩) 4 4)).run Tryz.prog (w.alloc (.cells #[.int .u8 a, .int .u8 b, .int .u8 c, .int .u8 d] 5)) = .ok (.string (strOfNums [a, b, c, d])) (w.alloc (.cells #[.int .u8 a, .int .u8 b, .int .u8 c, .int .u8 d] 5)) :=
    fun w a b c d => conv_row w _ rfl 4 [a, b, c, d] 4 rfl
  go_enter Tryz.func208, Tryz.ntmps208
  go_wp2
  go_ret
  exact ⟨ret_str (four_str n.toNat _ _ _ _ (by omega) (by omega) (by omega) (by omega)), (Below.refl _ _).alloc (Nat.le_refl _) _⟩
theorem join_str (l r : List UInt8) : (⟨l.toArray⟩ : ByteArray) ++ ⟨r.toArray⟩ = ⟨(l ++ r).toArray⟩ := by
  apply ByteArray.ext
  simp
theorem join8 (n : Nat) (a b : Nat) (ha : a = n / 4294967296) (hb : b = n % 4294967296) : be 4 a ++ be 4 b = be 8 n := by
  subst ha; subst hb
  rw [show (4294967296 : Nat) = 256 ^ 4 from rfl, be_mod, ← be_add]
set_option maxHeartbeats 400000 in
theorem put64_any (n : Int) (w : World) (h0 : 0 ≤ n) (h1 : n < 18446744073709551616) :
    Calls Tryz.prog 163 #[.int .u64 n] w fun e w' => e = .returned (.string ⟨(be 8 n.toNat).toArray⟩) ∧ Below w.heap.size w w' := by
  go_enter Tryz.func163, Tryz.ntmps163
  go_wp2_with fail
  refine (put32_any _ _ (by omega) (by omega)).mono ?_
  rintro e w1 ⟨rfl, hb1⟩
  go_wp2_with fail
  refine (put32_any _ _ (by omega) (by omega)).mono ?_
  rintro e w2 ⟨rfl, hb2⟩
  go_wp2_with fail
  go_ret
  exact ⟨ret_str (by rw [join_str, join8 n.toNat _ _ (by omega) (by omega)]), hb1.trans (hb2.mono hb1.size)⟩
theorem or4 (a b c d : Nat) (ha : a < 256) (hb : b < 256) (hc : c < 256) (hd : d < 256) :
    bits .or .u32 (bits .or .u32 (bits .or .u32 ((a : Int) % 4294967296 * 16777216 % 4294967296) ((b : Int) % 4294967296 * 65536 % 4294967296)) ((c : Int) % 4294967296 * 256 % 4294967296)) ((d : Int) % 4294967296) = ((((a * 256 + b) * 256 + c) * 256 + d : Nat) : Int) := by
  rw [show ((a : Int) % 4294967296 * 16777216 % 4294967296) = ((a * 16777216 : Nat) : Int) from by omega, show ((b : Int) % 4294967296 * 65536 % 4294967296) = ((b * 65536 : Nat) : Int) from by omega,
    show ((c : Int) % 4294967296 * 256 % 4294967296) = ((c * 256 : Nat) : Int) from by omega, show ((d : Int) % 4294967296) = ((d : Nat) : Int) from by omega]
  rw [u32_or_nat _ _ (by omega) (by omega), nat_join 24 (a * 16777216) (b * 65536) (by omega) (by omega)]
  rw [u32_or_nat _ _ (by omega) (by omega), nat_join 16 (a * 16777216 + b * 65536) (c * 256) (by omega) (by omega)]
  rw [u32_or_nat _ _ (by omega) (by omega), nat_join 8 (a * 16777216 + b * 65536 + c * 256) d (by omega) (by omega)]
  omega
theorem val4 (s : ByteArray) (h : s.size = 4) : val s.data.toList = ((s[0].toNat * 256 + s[1].toNat) * 256 + s[2].toNat) * 256 + s[3].toNat := by
  obtain ⟨⟨l⟩⟩ := s
  simp [ByteArray.size] at h
  match l, h with
  | [a, b, c, d], _ => simp [val]; rfl
set_option maxHeartbeats 400000 in
theorem get32_yes (s : ByteArray) (w : World) (h0 : s.size = 4)  :
    Calls Tryz.prog 159 #[.string s] w fun e w' => e = .returned (.tuple #[.int .u32 (val s.data.toList), .bool true]) ∧ ∃ n, w' = w.drewN n := by
  have a0 : (0:Int) < s.size := by omega
  have a1 : (1:Int) < s.size := by omega
  have a2 : (2:Int) < s.size := by omega
  have a3 : (3:Int) < s.size := by omega
  go_enter Tryz.func159, Tryz.ntmps159
  go_wp2
  go_quiet (fail)
  go_wp2
  go_ret2
  exact ⟨ret_num (by rw [or4 _ _ _ _ (UInt8.toNat_lt _) (UInt8.toNat_lt _) (UInt8.toNat_lt _) (UInt8.toNat_lt _), val4 s h0]) rfl, _, rfl⟩
theorem or8 (a b : Nat) (ha : a < 4294967296) (hb : b < 4294967296) :
    bits .or .u64 (IntKind.u64.wrap (IntKind.u64.wrap (a : Int) * 4294967296)) (IntKind.u64.wrap (b : Int)) = ((a * 4294967296 + b : Nat) : Int) := by
  rw [IntWalk.u64_in (a : Int) (by omega), IntWalk.u64_in (b : Int) (by omega), IntWalk.u64_in ((a : Int) * 4294967296) (by omega), show ((a : Int) * 4294967296) = ((a * 4294967296 : Nat) : Int) from by omega]
  rw [u64_or_nat _ _ (by omega) (by omega), nat_join 32 (a * 4294967296) b (by omega) (by omega)]
theorem val8 (s : ByteArray) (h : s.size = 8) (a b : Nat) (ha : a = val (List.take 4 s.data.toList)) (hb : b = val (List.take (s.size - 4) (List.drop 4 s.data.toList))) :
    bits .or .u64 (IntKind.u64.wrap (IntKind.u64.wrap (a : Int) * 4294967296)) (IntKind.u64.wrap (b : Int)) = (val s.data.toList : Int) := by
  have hl : s.data.toList.length = 8 := by rw [Array.length_toList]; exact h
  have e : List.take (s.size - 4) (List.drop 4 s.data.toList) = List.drop 4 s.data.toList := List.take_of_length_le (by rw [List.length_drop, hl, h]; decide)
  rw [e] at hb
  have h1 := val_lt (List.take 4 s.data.toList)
  have h2 := val_lt (List.drop 4 s.data.toList)
  rw [List.length_take, hl] at h1
  rw [List.length_drop, hl] at h2
  have h3 := val_append (List.take 4 s.data.toList) (List.drop 4 s.data.toList)
  rw [List.take_append_drop, List.length_drop, hl, show 256 ^ (8 - 4) = 4294967296 from by decide] at h3
  have h4 := Nat.lt_of_lt_of_le h1 (show 256 ^ min 4 8 ≤ 4294967296 from by decide)
  have h5 := Nat.lt_of_lt_of_le h2 (show 256 ^ (8 - 4) ≤ 4294967296 from by decide)
  rw [or8 a b (by omega) (by omega), h3, ha, hb]
set_option maxHeartbeats 400000 in
theorem get64_yes (s : ByteArray) (w : World) (h0 : s.size = 8)  :
    Calls Tryz.prog 108 #[.string s] w fun e w' => e = .returned (.tuple #[.int .u64 (val s.data.toList), .bool true]) ∧ ∃ n, w' = w.drewN n := by
  have a0 : ((s.size : Int) != 8) = false := by rw [bne_eq_false_iff_eq]; omega
  have a1 : (4 : Int) ≤ s.size := by omega
  have a2 : (s.extract 0 4).size = 4 := by simp; omega
  have a3 : (s.extract 4 s.size).size = 4 := by simp; omega
  have A2 := Lib.hid a2; clear a2
  have A3 := Lib.hid a3; clear a3
  have H0 := Lib.hid h0; clear h0
  go_enter Tryz.func108, Tryz.ntmps108
  go_wp2_with fail
  refine (get32_yes _ _ A2.out).mono ?_
  rintro e w1 ⟨rfl, n1, rfl⟩
  go_wp2_with fail
  refine (get32_yes _ _ A3.out).mono ?_
  rintro e w2 ⟨rfl, n2, rfl⟩
  go_wp2_with fail
  go_ret2
  exact ⟨ret_num (val8 _ H0.out _ _ rfl rfl) rfl, _, rfl⟩
set_option maxHeartbeats 400000 in
theorem put_any (n size : Int) (w : World) (h0 : 0 ≤ n) (h1 : n < 18446744073709551616) (h2 : 0 ≤ size) (h3 : size ≤ 8) :
    Calls Tryz.prog 105 #[.int .u64 n, .int .i64 size] w fun e w' => e = .returned (.string ⟨(be size.toNat n.toNat).toArray⟩) ∧ Below w.heap.size w w' := by
  go_enter Tryz.func105, Tryz.ntmps105
  go_wp2
  go_loopw [0, 5, 6] (fun a s i wr => ∃ k : Nat, (k : Int) ≤ size ∧ i = .int .i64 k ∧ a = .int .u64 ((n.toNat / 256 ^ k : Nat) : Int) ∧ s = .string ⟨(be k n.toNat).toArray⟩ ∧ Below w.heap.size w wr) (fun _ _ i _ => size.toNat - (intOf i).toNat)
  case atStart => exact ⟨0, h2, rfl, by simp; omega, rfl, Below.refl _ _⟩
  case round =>
    obtain ⟨k, hk, rfl, rfl, rfl, hb⟩ := hrel
    have hq : n.toNat / 256 ^ k ≤ n.toNat := Nat.div_le_self _ _
    have hlen : (be k n.toNat).length ≤ 8 := by rw [be_length]; omega
    generalize hm : n.toNat / 256 ^ k = m at *
    have HM := Lib.hid hm; clear hm
    have hs : (strOfNums [(m : Int) % 256]).size ≤ 1 := by rw [strOfNums_size]; simp
    have c1 : ∀ (w : World) (a : Int), (convert 126 9 (.slice (some ⟨w.heap.size, 0, none⟩) 1 1)).run Tryz.prog (w.alloc (.cells #[.int .u8 a] 5)) = .ok (.string (strOfNums [a])) (w.alloc (.cells #[.int .u8 a] 5)) :=
      fun w a => conv_row w _ rfl 1 [a] 1 rfl
    by_cases hlt : (k : Int) < size
    · go_wp2
      go_roundw
      case rel =>
        have e1 : n.toNat / 256 ^ (k + 1) = m / 256 := by rw [Nat.pow_succ, ← Nat.div_div_eq_div_mul, HM.out]
        have e2 : strOfNums [(m : Int) % 256] ++ (⟨(be k n.toNat).toArray⟩ : ByteArray) = ⟨(be (k + 1) n.toNat).toArray⟩ := by
          rw [be_head, HM.out, show strOfNums [(m : Int) % 256] = (⟨([UInt8.ofNat m] : List UInt8).toArray⟩ : ByteArray) from by
            simp only [strOfNums, List.map_cons, List.map_nil]; rw [show ((m : Int) % 256).toNat = m % 256 from by omega, ofNat_mod], join_str]
          rfl
        exact ⟨k + 1, by omega, by go_num, by rw [e1]; go_num, by rw [e2], hb.alloc hb.size _⟩
      case measure => simp [intOf]; omega
    · go_wp2
      go_ret
      exact ⟨ret_str (by rw [show size.toNat = k from by omega]), hb⟩
theorem val_take (s : ByteArray) (k : Nat) (h : k < s.size) : val (s.data.toList.take (k + 1)) = val (s.data.toList.take k) * 256 + s[k].toNat := by
  rw [List.take_succ_eq_append_getElem (by simpa using h), val_snoc]; rfl
theorem pow_le8 (k : Nat) (h : k < 8) : 256 ^ k ≤ 72057594037927936 := by
  have : 256 ^ k ≤ 256 ^ 7 := Nat.pow_le_pow_right (by decide) (by omega)
  simpa using this
set_option maxHeartbeats 400000 in
theorem getr_yes (s : ByteArray) (size : Int) (w : World) (h2 : 0 ≤ size) (h3 : size ≤ 8) (h0 : (s.size : Int) = size)  :
    Calls Tryz.prog 57 #[.string s, .int .i64 size] w fun e w' => e = .returned (.tuple #[.int .u64 (val s.data.toList), .bool true]) ∧ w' = w := by
  have a0 : ((s.size : Int) != size) = false := by rw [bne_eq_false_iff_eq]; omega
  have hz : (s.size : Int) ≤ size := by omega
  have hz2 : size ≤ s.size := by omega
  clear h0
  go_enter Tryz.func57, Tryz.ntmps57
  go_wp2
  go_loop [6, 7] (fun a i => ∃ k : Nat, (k : Int) ≤ size ∧ i = .int .i64 k ∧ a = .int .u64 (val (s.data.toList.take k) : Int)) (fun _ i => size.toNat - (intOf i).toNat)
  case atStart => exact ⟨0, h2, rfl, rfl⟩
  case round =>
    obtain ⟨k, hk, rfl, rfl⟩ := hrel
    by_cases hlt : (k : Int) < size
    · have hv : val (s.data.toList.take k) < 72057594037927936 := by
        have h1 := val_lt (s.data.toList.take k)
        have h4 := pow_le8 k (by omega)
        have h5 : (s.data.toList.take k).length ≤ k := by rw [List.length_take]; omega
        have h6 : 256 ^ (s.data.toList.take k).length ≤ 256 ^ k := Nat.pow_le_pow_right (by decide) h5
        omega
      have hn := val_take s k (by omega)
      generalize val (s.data.toList.take k) = m at *
      have hb : (s[k]'(by omega)).toNat < 256 := UInt8.toNat_lt _
      have HN := Lib.hid hn; clear hn
      have hks : k < s.size := by omega
      go_wp2
      go_round
      case rel => exact ⟨k + 1, by omega, by go_num, by rw [HN.out]; go_num⟩
      case measure => simp [intOf]; omega
    · go_wp2
      go_ret2
      exact ⟨ret_num (by rw [List.take_of_length_le (by simp; omega)]) rfl, rfl⟩
set_option maxHeartbeats 400000 in
theorem getr_no (s : ByteArray) (size : Int) (w : World) (h0 : (s.size : Int) ≠ size)  :
    Calls Tryz.prog 57 #[.string s, .int .i64 size] w fun e w' => e = .returned (.tuple #[.int .u64 0, .bool false]) ∧ w' = w := by
  have a0 : ((s.size : Int) != size) = true := by rw [bne_iff_ne]; omega
  clear h0
  go_enter Tryz.func57, Tryz.ntmps57
  go_wp2
  go_ret2
  exact ⟨rfl, rfl⟩
set_option maxHeartbeats 400000 in
theorem rput32_any (n : Int) (w : World) (h0 : 0 ≤ n) (h1 : n < 4294967296) :
    Calls Tryz.prog 84 #[.int .u32 n] w fun e w' => e = .returned (.string ⟨(be 4 n.toNat).toArray⟩) ∧ Below w.heap.size w w' := by
  go_enter Tryz.func84, Tryz.ntmps84
  go_wp2_with fail
  refine (put_any _ _ _ (by omega) (by omega) (by omega) (by omega)).mono ?_
  rintro e w1 ⟨rfl, hb1⟩
  go_wp2_with fail
  go_ret
  exact ⟨rfl, hb1⟩
set_option maxHeartbeats 400000 in
theorem rput64_any (n : Int) (w : World) (h0 : 0 ≤ n) (h1 : n < 18446744073709551616) :
    Calls Tryz.prog 63 #[.int .u64 n] w fun e w' => e = .returned (.string ⟨(be 8 n.toNat).toArray⟩) ∧ Below w.heap.size w w' := by
  go_enter Tryz.func63, Tryz.ntmps63
  go_wp2_with fail
  refine (put_any _ _ _ (by omega) (by omega) (by omega) (by omega)).mono ?_
  rintro e w1 ⟨rfl, hb1⟩
  go_wp2_with fail
  go_ret
  exact ⟨rfl, hb1⟩
set_option maxHeartbeats 400000 in
theorem rget64_yes (s : ByteArray) (w : World) (h0 : s.size = 8)  :
    Calls Tryz.prog 30 #[.string s] w fun e w' => e = .returned (.tuple #[.int .u64 (val s.data.toList), .bool true]) ∧ w' = w := by
  go_enter Tryz.func30, Tryz.ntmps30
  go_wp2_with fail
  refine (getr_yes _ _ _ (by omega) (by omega) (by omega)).mono ?_
  rintro e w1 ⟨rfl, rfl⟩
  go_wp2_with fail
  go_ret2
  exact ⟨rfl, rfl⟩
set_option maxHeartbeats 400000 in
theorem rget32_yes (s : ByteArray) (w : World) (h0 : s.size = 4)  :
    Calls Tryz.prog 59 #[.string s] w fun e w' => e = .returned (.tuple #[.int .u32 (val s.data.toList), .bool true]) ∧ w' = w := by
  have hl := val_lt s.data.toList
  have hl2 : (val s.data.toList : Int) < 4294967296 := by
    have e : s.data.toList.length = 4 := by rw [Array.length_toList]; exact h0
    rw [e] at hl
    have := Nat.lt_of_lt_of_le hl (show 256 ^ 4 ≤ 4294967296 from by decide)
    omega
  clear hl
  go_enter Tryz.func59, Tryz.ntmps59
  go_wp2_with fail
  refine (getr_yes _ _ _ (by omega) (by omega) (by omega)).mono ?_
  rintro e w1 ⟨rfl, rfl⟩
  go_wp2_with fail
  go_ret2
  exact ⟨rfl, rfl⟩
set_option maxHeartbeats 400000 in
theorem rget32_no (s : ByteArray) (w : World) (h0 : s.size ≠ 4)  :
    Calls Tryz.prog 59 #[.string s] w fun e w' => e = .returned (.tuple #[.int .u32 0, .bool false]) ∧ w' = w := by
  go_enter Tryz.func59, Tryz.ntmps59
  go_wp2_with fail
  refine (getr_no _ _ _ (by omega)).mono ?_
  rintro e w1 ⟨rfl, rfl⟩
  go_wp2_with fail
  go_ret2
  exact ⟨rfl, rfl⟩
end Go.Proofs.YtkjikigimmchlaaGreatDoor
namespace Go.Proofs.YtkjikigimmchlaaGreatDoor
open Go.RowKit
def Bs (w : World) (B : Nat) (A : Option Addr) (l : List Bool) : Prop :=
  ∀ (k : Nat) (b : Bool), l[k]? = some b → ∃ a, A = some a ∧ a.block < B ∧ w.cell? (a.add k) = some (.bool b)
theorem fl_take (l : List Bool) (k : Nat) (h : k < l.length) : fl (l.take (k + 1)) = fl (l.take k) + l[k].toNat * 2 ^ k := by
  rw [List.take_succ_eq_append_getElem h, fl_snoc, List.length_take, Nat.min_eq_left (by omega)]
theorem pow2_le (k : Nat) (h : k < 8) : 2 ^ k ≤ 128 := by
  have : 2 ^ k ≤ 2 ^ 7 := Nat.pow_le_pow_right (by decide) (by omega)
  simpa using this
theorem or_bit (x k : Nat) (hk : k < 8) (hx : x < 2 ^ k) : bits .or .u8 (x : Int) (2 ^ k % 256) = ((x + 2 ^ k : Nat) : Int) := by
  have h2 := pow2_le k hk
  rw [show ((2 : Int) ^ k % 256) = ((2 ^ k : Nat) : Int) from by
    have : ((2 : Int) ^ k) = ((2 ^ k : Nat) : Int) := by simp
    rw [this]; omega]
  rw [u8_or_nat _ _ (by omega) (by omega), Nat.or_comm, nat_join k (2 ^ k) x (by simp) hx, Nat.add_comm]
set_option maxHeartbeats 400000 in
theorem flags_any (A : Option Addr) (c : Nat) (l : List Bool) (w : World) (B : Nat) (h : Bs w B A l) (hc : l.length ≤ c) (hm : c ≤ maxLen) :
    Calls Tryz.prog 242 #[.slice A l.length c] w fun e w' => e = .returned (.int .u8 (fl (l.take 8))) ∧ w' = w := by
  unfold maxLen at hm
  have H := Lib.hid h; clear h
  by_cases h8 : (l.length : Int) ≤ 8
  · have h8' : ¬ ((8 : Int) < l.length) := by omega
    go_enter Tryz.func242, Tryz.ntmps242
    go_wp2
    go_loop [3, 12] (fun b i => ∃ k : Nat, k ≤ l.length ∧ i = .int .i64 k ∧ b = .int .u8 (fl (l.take k) : Int)) (fun _ i => l.length - (intOf i).toNat)
    case atStart => exact ⟨0, by omega, rfl, rfl⟩
    case round =>
      obtain ⟨k, hk, rfl, rfl⟩ := hrel
      by_cases hlt : k < l.length
      · have hkl : k < l.length := by omega
        obtain ⟨a, rfl, hb, hcell⟩ := H.out k l[k] (List.getElem?_eq_getElem hkl)
        have hft := fl_take l k hkl
        have hfl := fl_lt (l.take k)
        rw [List.length_take, Nat.min_eq_left (by omega)] at hfl
        have HT := Lib.hid hft; clear hft
        have HL := Lib.hid hfl; clear hfl
        cases hv : l[k]
        · rw [hv] at hcell
          have HV := Lib.hid hv; clear hv
          go_wp2
          go_round
          case rel => exact ⟨k + 1, by omega, by go_num, by rw [HT.out, HV.out]; simp⟩
          case measure => simp [intOf]; omega
        · rw [hv] at hcell
          have HV := Lib.hid hv; clear hv
          go_wp2
          go_round
          case rel => exact ⟨k + 1, by omega, by go_num, by rw [HT.out, HV.out, or_bit _ _ (by omega) HL.out]; simp⟩
          case measure => simp [intOf]; omega
      · go_wp2
        go_ret
        exact ⟨ret_int (by rw [List.take_of_length_le (show l.length ≤ k by omega), List.take_of_length_le (show l.length ≤ 8 by omega)]), rfl⟩
  · have h8' : ((8 : Int) < l.length) := by omega
    clear h8
    go_enter Tryz.func242, Tryz.ntmps242
    go_wp2
    go_loop [3, 12] (fun b i => ∃ k : Nat, k ≤ 8 ∧ i = .int .i64 k ∧ b = .int .u8 (fl (l.take k) : Int)) (fun _ i => 8 - (intOf i).toNat)
    case atStart => exact ⟨0, by omega, rfl, rfl⟩
    case round =>
      obtain ⟨k, hk, rfl, rfl⟩ := hrel
      by_cases hlt : k < 8
      · have hkl : k < l.length := by omega
        obtain ⟨a, rfl, hb, hcell⟩ := H.out k l[k] (List.getElem?_eq_getElem hkl)
        have hft := fl_take l k hkl
        have hfl := fl_lt (l.take k)
        rw [List.length_take, Nat.min_eq_left (by omega)] at hfl
        have HT := Lib.hid hft; clear hft
        have HL := Lib.hid hfl; clear hfl
        cases hv : l[k]
        · rw [hv] at hcell
          have HV := Lib.hid hv; clear hv
          go_wp2
          go_round
          case rel => exact ⟨k + 1, by omega, by go_num, by rw [HT.out, HV.out]; simp⟩
          case measure => simp [intOf]; omega
        · rw [hv] at hcell
          have HV := Lib.hid hv; clear hv
          go_wp2
          go_round
          case rel => exact ⟨k + 1, by omega, by go_num, by rw [HT.out, HV.out, or_bit _ _ (by omega) HL.out]; simp⟩
          case measure => simp [intOf]; omega
      · go_wp2
        go_ret
        exact ⟨ret_int (by rw [show k = 8 by omega]), rfl⟩
set_option maxHeartbeats 400000 in
theorem rflags_any (A : Option Addr) (c : Nat) (l : List Bool) (w : World) (B : Nat) (h : Bs w B A l) (_hc : l.length ≤ c) (_hm : c ≤ maxLen) :
    Calls Tryz.prog 106 #[.slice A l.length c] w fun e w' => e = .returned (.int .u8 (fl (l.take 8))) ∧ w' = w := by
  have H := Lib.hid h; clear h
  go_enter Tryz.func106, Tryz.ntmps106
  go_wp2
  go_loop [3, 4, 5] (fun b p i => ∃ k : Nat, k ≤ 8 ∧ k ≤ l.length ∧ i = .int .i64 k ∧ b = .int .u8 (fl (l.take k) : Int) ∧ p = .int .u8 ((2 ^ k % 256 : Nat) : Int)) (fun _ _ i => 8 - (intOf i).toNat)
  case atStart => exact ⟨0, by omega, by omega, rfl, rfl, rfl⟩
  case round =>
    obtain ⟨k, hk8, hk, rfl, rfl, rfl⟩ := hrel
    by_cases hkl : k < l.length
    · by_cases hk8' : k < 8
      · obtain ⟨a, rfl, hb, hcell⟩ := H.out k l[k] (List.getElem?_eq_getElem hkl)
        have hft := fl_take l k hkl
        have hfl := fl_lt (l.take k)
        rw [List.length_take, Nat.min_eq_left (by omega)] at hfl
        have h2 := pow2_le k hk8'
        have h3 : 2 ^ (k + 1) % 256 = 2 ^ k % 256 * 2 % 256 := by rw [Nat.pow_succ]; omega
        have h4 : 2 ^ k % 256 = 2 ^ k := by omega
        have hs : fl (l.take k) + 2 ^ k % 256 < 256 := by omega
        have HT := Lib.hid hft; clear hft
        have HL := Lib.hid hfl; clear hfl
        have H3 := Lib.hid h3; clear h3
        have H4 := Lib.hid h4; clear h4
        clear h2
        generalize hP : 2 ^ k % 256 = P at *
        have HP := Lib.hid hP; clear hP
        cases hv : l[k]
        · rw [hv] at hcell
          have HV := Lib.hid hv; clear hv
          go_wp2
          go_round
          case rel => exact ⟨k + 1, by omega, by omega, by go_num, by rw [HT.out, HV.out]; simp, by rw [H3.out]; go_num⟩
          case measure => simp [intOf]; omega
        · rw [hv] at hcell
          have HV := Lib.hid hv; clear hv
          go_wp2
          go_round
          case rel => exact ⟨k + 1, by omega, by omega, by go_num, by rw [HT.out, HV.out, ← H4.out]; simp, by rw [H3.out]; go_num⟩
          case measure => simp [intOf]; omega
      · go_wp2
        go_ret
        exact ⟨ret_int (by rw [show k = 8 by omega]), rfl⟩
    · go_wp2
      go_ret
      exact ⟨ret_int (by rw [List.take_of_length_le (show l.length ≤ k by omega), List.take_of_length_le (show l.length ≤ 8 by omega)]), rfl⟩
end Go.Proofs.YtkjikigimmchlaaGreatDoor
namespace Go.Proofs.YtkjikigimmchlaaGreatDoor
open Go.RowKit
theorem info4 : (Tryz.prog.info? 4).map (fun i => (i.zero, i.size, i.bytes)) = some (some (.bool false), 1, 1) := by kernel_rfl
set_option maxRecDepth 100000 in
theorem make_bools (n : Nat) (h : n ≤ 8) (w : World) :
    (Instr.makeSlice 69 (.int .i64 (n : Int)) (.int .i64 (n : Int))).run Tryz.prog w = .ok (.slice (some ⟨w.heap.size, 0, none⟩) n n) (w.alloc (.cells (Array.replicate n (.bool false)) 4)) := by
  obtain ⟨i0, hi, hz0, hz1, hz2⟩ := info_parts info4
  have := run_make (P := Tryz.prog) w 69 4 i0 (.bool false) Tryz.underlying69 hi hz0 .i64 .i64 n n (by omega) (by omega) (by rw [hz2]; omega) (by omega)
  rw [this]
  simp only [Int.toNat_natCast, hz1, Nat.mul_one, madeCells]
  congr 4
  apply Array.ext
  · simp
  · intro j h1 h2
    simp [Value.cells, Nat.mod_one]
def Row (w : World) (g : Nat) (l : List Bool) : Prop := w.heap[g]? = some (.cells (l.map Value.bool).toArray 4 (0, 0))
theorem Row.cell {w : World} {g : Nat} {l : List Bool} (h : Row w g l) (k : Nat) (b : Bool) (hb : l[k]? = some b) : w.cell? ⟨g, k, none⟩ = some (.bool b) := by
  unfold Row at h
  simp [World.cell?, h, hb]
theorem Row.free {w : World} {g : Nat} {l : List Bool} (h : Row w g l) (k : Nat) : w.frozen? ⟨g, k, none⟩ = false := by
  unfold Row at h
  simp [World.frozen?, h]
theorem Row.store {w : World} {g : Nat} {l : List Bool} (h : Row w g l) (k : Nat) (b : Bool) : Row (w.setCell ⟨g, k, none⟩ (.bool b)) g (l.set k b) := by
  unfold Row at h ⊢
  simp [World.setCell, Array.getElem?_modify, h]
theorem Row.bs {w : World} {g : Nat} {l : List Bool} (h : Row w g l) (hg : g < w.heap.size) : Bs w w.heap.size (some ⟨g, 0, none⟩) l := by
  intro k b hb
  refine ⟨_, rfl, hg, ?_⟩
  have : (⟨g, 0, none⟩ : Addr).add k = ⟨g, k, none⟩ := by unfold Addr.add; split <;> simp_all
  rw [this]
  exact h.cell k b hb
theorem ret_slb {A : Option Addr} {n m c : Nat} {x : Bool} (h : n = m) : Ending.returned (.tuple #[.slice A n c, .bool x]) = .returned (.tuple #[.slice A m c, .bool x]) := by rw [h]
def TyB (w : World) (A : Option Addr) : Prop := ∀ a, A = some a → ∃ cs fr, w.heap[a.block]? = some (.cells cs 4 fr)
def GivesBools (l : List Bool) (w : World) (e : Ending) (w' : World) : Prop :=
  ∃ A c, e = .returned (.tuple #[.slice A l.length c, .bool true]) ∧ l.length ≤ c ∧ (c ≤ maxLen ∧ TyB w' A) ∧ Bs w' w'.heap.size A l ∧ Below w.heap.size w w'
theorem half_at (k n b : Nat) (h : k < n) : (unfl k b ++ List.replicate (n - k) false)[k]? = some false := by
  rw [List.getElem?_append_right (by rw [unfl_length]; exact Nat.le_refl _), unfl_length, Nat.sub_self, List.getElem?_replicate, if_pos (by omega)]
theorem half_set (k n b : Nat) (h : k < n) : (unfl k b ++ List.replicate (n - k) false).set k (decide (b / 2 ^ k % 2 = 1)) = unfl (k + 1) b ++ List.replicate (n - (k + 1)) false := by
  obtain ⟨m, hm⟩ : ∃ m, n - k = m + 1 := ⟨n - k - 1, by omega⟩
  rw [hm, List.replicate_succ, List.set_append_right _ _ (by rw [unfl_length]; exact Nat.le_refl _), unfl_length, Nat.sub_self, List.set_cons_zero, unfl_snoc, List.append_assoc, show n - (k + 1) = m by omega]
  rfl
theorem bit_of (b : Int) (k : Nat) (h0 : 0 ≤ b) (h1 : b < 256) : (bits .and .u8 (b / 2 ^ k) 1 == 1) = decide (b.toNat / 2 ^ k % 2 = 1) := by
  obtain ⟨m, rfl⟩ := Int.eq_ofNat_of_zero_le h0
  have e : ((m : Int) / 2 ^ k) = ((m / 2 ^ k : Nat) : Int) := by
    have : ((2 : Int) ^ k) = ((2 ^ k : Nat) : Int) := by simp
    rw [this]; rfl
  have hle : m / 2 ^ k ≤ m := Nat.div_le_self _ _
  rw [e, show (1 : Int) = ((1 : Nat) : Int) from rfl, u8_and_nat _ _ (by omega) (by omega), nat_mask1, Int.toNat_natCast]
  by_cases h : m / 2 ^ k % 2 = 1
  · simp [h]
  · have : m / 2 ^ k % 2 = 0 := by omega
    simp [this]
set_option maxHeartbeats 400000 in
theorem unflag_yes (b : Int) (n : Nat) (w : World) (h0 : 0 ≤ b) (h1 : b < 256) (hn : n ≤ 8) (hb : b.toNat < 2 ^ n) :
    Calls Tryz.prog 206 #[.int .u8 b, .int .i64 n] w (GivesBools (unfl n b.toNat) w) := by
  have hmk := make_bools n hn
  have hz : b / 2 ^ n = 0 := Int.ediv_eq_zero_of_lt h0 (by
    have : ((2 : Int) ^ n) = ((2 ^ n : Nat) : Int) := by simp
    rw [this]; omega)
  have hz2 : (b / 2 ^ n != 0) = false := by rw [bne_eq_false_iff_eq]; exact hz
  go_enter Tryz.func206, Tryz.ntmps206
  go_wp2
  go_loopw [23] (fun i wr => ∃ k : Nat, k ≤ n ∧ i = .int .i64 k ∧ Row wr w.heap.size (unfl k b.toNat ++ List.replicate (n - k) false) ∧ Below w.heap.size w wr) (fun i _ => n - (intOf i).toNat)
  case atStart => exact ⟨0, by omega, rfl, (heap_alloc_new w _).trans (by simp [unfl]), (Below.refl _ _).alloc (Nat.le_refl _) _⟩
  case round =>
    obtain ⟨k, hk, rfl, hrow, hbel⟩ := hrel
    by_cases hlt : k < n
    · have hc := hrow.cell k false (half_at k n b.toNat hlt)
      have hf := hrow.free k
      have HR := Lib.hid hrow; clear hrow
      go_wp2
      go_roundw
      case rel =>
        have hs := HR.out.store k (decide (b.toNat / 2 ^ k % 2 = 1))
        rw [half_set k n _ hlt] at hs
        exact ⟨k + 1, by omega, by go_num, by rw [bit_of b k h0 h1]; exact hs, hbel.setCell (Nat.le_refl _) _⟩
      case measure => simp [intOf]; omega
    · obtain rfl : k = n := by omega
      have hsz : w.heap.size < wr.heap.size := by
        rcases Nat.lt_or_ge w.heap.size wr.heap.size with h | h
        · exact h
        · unfold Row at hrow; rw [Array.getElem?_eq_none h] at hrow; cases hrow
      rw [Nat.sub_self, List.replicate_zero, List.append_nil] at hrow
      have HR := Lib.hid hrow; clear hrow
      go_wp2
      go_ret2
      exact ⟨some ⟨w.heap.size, 0, none⟩, k, ret_slb (unfl_length _ _).symm, by rw [unfl_length]; exact Nat.le_refl _, ⟨by unfold maxLen; omega, fun a e => by injection e with e; subst e; exact ⟨_, _, HR.out⟩⟩, HR.out.bs hsz, hbel⟩
set_option maxHeartbeats 400000 in
theorem unflag_more (b : Int) (n : Nat) (w : World) (h0 : 0 ≤ b) (h1 : b < 256) (hn : n ≤ 8) (hb : 2 ^ n ≤ b.toNat) :
    Calls Tryz.prog 206 #[.int .u8 b, .int .i64 n] w fun e w' => e = .returned (.tuple #[.slice none 0 0, .bool false]) ∧ w' = w := by
  have hz2 : (b / 2 ^ n != 0) = true := by
    rw [bne_iff_ne]
    obtain ⟨m, rfl⟩ := Int.eq_ofNat_of_zero_le h0
    have e : ((m : Int) / 2 ^ n) = ((m / 2 ^ n : Nat) : Int) := by
      have : ((2 : Int) ^ n) = ((2 ^ n : Nat) : Int) := by simp
      rw [this]; rfl
    have : 0 < m / 2 ^ n := Nat.div_pos (by simpa using hb) (Nat.pow_pos (by decide))
    rw [e]; omega
  clear hb
  go_enter Tryz.func206, Tryz.ntmps206
  go_wp2
  go_ret2
  exact ⟨rfl, rfl⟩
def GivesOr (yes : Prop) (l : List Bool) (w : World) (e : Ending) (w' : World) : Prop :=
  (yes ∧ GivesBools l w e w') ∨ (¬ yes ∧ e = .returned (.tuple #[.slice none 0 0, .bool false]) ∧ Below w.heap.size w w')
theorem gives_own {w wr : World} {v : Value} {k : Nat} {l : List Bool} (hl : l.length = k) (h : wr.ownsRow w.heap.size 4 1 v k (l.map Value.bool)) (hb : Below w.heap.size w wr) :
    GivesBools l w (.returned (.tuple #[v, .bool true])) wr := by
  subst hl
  rcases h.2 with ⟨rfl, h0⟩ | ⟨g, cap, cur, rfl, hbg, hh, hn, hm, _, _⟩
  · refine ⟨none, 0, ret_slb h0.symm, by omega, ⟨by unfold maxLen; omega, fun a e => by cases e⟩, ?_, hb⟩
    intro k b hk
    have : l = [] := List.eq_nil_of_length_eq_zero h0
    subst this
    simp at hk
  · refine ⟨some ⟨g, 0, none⟩, cap, rfl, hn, ⟨hm, fun a e => by injection e with e; subst e; exact ⟨_, _, hh⟩⟩, ?_, hb⟩
    intro k b hk
    have hlt : g < wr.heap.size := by
      rcases Nat.lt_or_ge g wr.heap.size with h | h
      · exact h
      · rw [Array.getElem?_eq_none h] at hh; cases hh
    exact ⟨_, rfl, hlt, h.cells (g := g) rfl k (.bool b) (by simp [hk])⟩
set_option maxRecDepth 100000 in
set_option maxHeartbeats 1000000 in
theorem runflag_any (b : Int) (n : Nat) (w : World) (h0 : 0 ≤ b) (h1 : b < 256) (hn : n ≤ 8) :
    Calls Tryz.prog 58 #[.int .u8 b, .int .i64 n] w (GivesOr (b.toNat < 2 ^ n) (unfl n b.toNat) w) := by
  obtain ⟨i0, hi, hz0, hz1, hz2⟩ := info_parts info4
  go_enter Tryz.func58, Tryz.ntmps58
  go_wp2
  go_loopw [0, 6, 7] (fun x v i wr => ∃ k : Nat, k ≤ n ∧ i = .int .i64 k ∧ x = .int .u8 ((b.toNat / 2 ^ k : Nat) : Int) ∧ wr.ownsRow w.heap.size 4 1 v k ((unfl k b.toNat).map Value.bool) ∧ Below w.heap.size w wr) (fun _ _ i _ => n - (intOf i).toNat)
  case atStart => exact ⟨0, by omega, rfl, by simp; omega, World.ownsRow_nil _ _ _ _, Below.refl _ _⟩
  case round =>
    obtain ⟨k, hk, rfl, rfl, hown, hbel⟩ := hrel
    by_cases hlt : k < n
    · have hq : b.toNat / 2 ^ k < 256 := by have : b.toNat / 2 ^ k ≤ b.toNat := Nat.div_le_self _ _; omega
      have hus := unfl_snoc k b.toNat
      have hq2 : b.toNat / 2 ^ (k + 1) = b.toNat / 2 ^ k / 2 := by rw [Nat.pow_succ, ← Nat.div_div_eq_div_mul]
      have HU := Lib.hid hus; clear hus
      have HQ := Lib.hid hq2; clear hq2
      generalize hm : b.toNat / 2 ^ k = m at *
      have HM := Lib.hid hm; clear hm
      have hlen : (unfl k b.toNat).length ≤ 8 := by rw [unfl_length]; omega
      have HO := Lib.hid hown; clear hown
      have HB := Lib.hid hbel; clear hbel
      go_wp2_with (at_builtin; refine wpList_append_own _ rfl _ _ 69 rfl w.heap.size 4 i0 (.bool false) 1 1 Tryz.underlying69 hi hz0 hz1 hz2 rfl (by decide) _ _ _ rfl (HO.out.alloc _) ⟨wr.heap.size, 0, none⟩ 1 1 [.bool ((m : Int) % 2 == 1)] rfl rfl ?c1 ?c2 ?c3 ?c4 ?c5 ?_)
      case c1 => exact cell_new1 wr _ 4
      case c2 => intro u hu; simp at hu; subst hu; rfl
      case c3 => unfold maxLen; omega
      case c4 => omega
      case c5 => simp; have := HB.out.size; omega
      intro v' w1 hown' hgrow _
      have hb' := (HB.out.alloc HB.out.size (.cells #[.bool ((m : Int) % 2 == 1)] 4)).grown hgrow (by simp; have := HB.out.size; omega) (own_low HO.out)
      rw [bit_mod, ← List.map_singleton (f := Value.bool), ← List.map_append, ← HU.out] at hown'
      have HO' := Lib.hid hown'; clear hown'
      have HB' := Lib.hid hb'; clear hb'
      clear hgrow
      go_wp2
      go_roundw
      case rel => exact ⟨k + 1, by omega, by go_num, by rw [HQ.out]; go_num, HO'.out, HB'.out⟩
      case measure => simp [intOf]; omega
    · obtain rfl : k = n := by omega
      have HO := Lib.hid hown; clear hown
      have HB := Lib.hid hbel; clear hbel
      by_cases hz : b.toNat < 2 ^ k
      · have he : b.toNat / 2 ^ k = 0 := Nat.div_eq_of_lt hz
        rw [he]
        have HZ := Lib.hid hz; clear hz
        clear he
        go_wp2
        go_ret2
        refine Or.inl ⟨HZ.out, ?_⟩
        exact gives_own (unfl_length _ _) HO.out HB.out
      · have he : 0 < b.toNat / 2 ^ k := Nat.div_pos (by omega) (Nat.pow_pos (by decide))
        generalize b.toNat / 2 ^ k = m at *
        have HZ := Lib.hid hz; clear hz
        go_wp2
        go_ret2
        exact Or.inr ⟨HZ.out, rfl, HB.out⟩
theorem Bs.below {w w' : World} {B B' : Nat} {A : Option Addr} {l : List Bool} (h : Bs w B A l) (hb : Below B w w') (hB : B ≤ B') : Bs w' B' A l := by
  intro k b hk
  obtain ⟨a, ha, hlt, hc⟩ := h k b hk
  exact ⟨a, ha, by omega, (hb.cell (p := a.add k) (by unfold Addr.add; split <;> simpa using hlt)).trans hc⟩
end Go.Proofs.YtkjikigimmchlaaGreatDoor
namespace Go.Proofs.YtkjikigimmchlaaGreatDoor
open Go.RowKit
@[reducible] def vecV (c b o p : Int) : Value := .agg #[.int .u64 c, .int .u64 b, .int .u64 o, .int .u64 p]
def mintB (c b g : Int) : Int := if g = 0 then 0 else if b = 0 then c else b
def mintO (c b o g : Int) : Int := if g = 0 then 0 else if b = 0 then o else c
def mintP (b o p g : Int) : Int := if g = 0 then 0 else if b = 0 then p else o
def mintE (g : Int) : Int := if g = 0 then 14 else 0
def retO (b o : Int) : Int := if b = 0 then o else b
def retP (b o p : Int) : Int := if b = 0 then p else o
theorem cells_u64 : Tryz.prog.cellsOf 31 = 1 := by kernel_rfl
@[go_sem] theorem eql_two (d : Nat) (o1 p1 o2 p2 : Int) (w : World) :
    (Op.equalIn (d + 2) 32 (.agg #[.int .u64 o1, .int .u64 p1]) (.agg #[.int .u64 o2, .int .u64 p2])).run Tryz.prog w = .ok (o1 == o2 && p1 == p2) w := by
  obtain ⟨i, hi⟩ := info_of_underlying Tryz.underlying31
  rw [show d + 2 = (d + 1) + 1 from rfl, run_equalIn_array w (d + 1) _ _ Tryz.underlying32 hi, cells_u64]
  cases h1 : (o1 == o2) <;> cases h2 : (p1 == p2) <;> simp [List.range, List.range.loop, Op.eqItems, go_sem, h1, h2]
@[go_sem] theorem fld0 (c b o p : Int) (w : World) : (Instr.field 34 (.agg #[.int .u64 c, .int .u64 b, .int .u64 o, .int .u64 p]) 0).run Tryz.prog w = .ok (.int .u64 c) w := by kernel_rfl
@[go_sem] theorem fld1 (c b o p : Int) (w : World) : (Instr.field 34 (.agg #[.int .u64 c, .int .u64 b, .int .u64 o, .int .u64 p]) 1).run Tryz.prog w = .ok (.int .u64 b) w := by kernel_rfl
@[go_sem] theorem fld2 (c b o p : Int) (w : World) : (Instr.field 34 (.agg #[.int .u64 c, .int .u64 b, .int .u64 o, .int .u64 p]) 2).run Tryz.prog w = .ok (.agg #[.int .u64 o, .int .u64 p]) w := by kernel_rfl
set_option maxHeartbeats 400000 in
theorem elder_any (o p g : Int) (w : World) :
    Calls Tryz.prog 126 #[.agg #[.int .u64 o, .int .u64 p], .int .u64 g] w fun e w' => e = .returned (.agg #[.int .u64 g, .int .u64 o]) ∧ Below w.heap.size w w' := by
  go_enter Tryz.func126, Tryz.ntmps126
  go_wp2
  refine bodyPost_ret (v := .agg #[.int .u64 g, .int .u64 o]) (by simp [results, Tryz.results126, go_sem]) rfl ⟨rfl, ?_⟩
  exact ext_alloc (ext_alloc (Below.refl _ _) _) _
set_option maxHeartbeats 400000 in
theorem vright_any (c b o p : Int) (w : World) :
    Calls Tryz.prog 102 #[vecV c b o p] w fun e w' => e = .returned (.bool (!decide (c = 0))) ∧ Below w.heap.size w w' := by
  go_enter Tryz.func102, Tryz.ntmps102
  go_wp2
  go_ret
  exact ⟨ret_bool rfl, below1⟩
set_option maxHeartbeats 400000 in
theorem from_any (c b o p g : Int) (w : World) :
    Calls Tryz.prog 116 #[vecV c b o p, .int .u64 g] w fun e w' => e = .returned (vecV c g o p) ∧ Below w.heap.size w w' := by
  go_enter Tryz.func116, Tryz.ntmps116
  go_wp2
  refine bodyPost_ret (v := vecV c g o p) (by simp [results, Tryz.results116, go_sem]) rfl ⟨rfl, ?_⟩
  exact ext_alloc (ext_alloc (Below.refl _ _) _) _
set_option maxHeartbeats 400000 in
theorem rfrom_any (c b o p g : Int) (w : World) :
    Calls Tryz.prog 202 #[vecV c b o p, .int .u64 g] w fun e w' => e = .returned (vecV c g o p) ∧ Below w.heap.size w w' := by
  go_enter Tryz.func202, Tryz.ntmps202
  go_wp2
  refine bodyPost_ret (v := vecV c g o p) (by simp [results, Tryz.results202, go_sem]) rfl ⟨rfl, ?_⟩
  exact ext_alloc (ext_alloc (Below.refl _ _) _) _
end Go.Proofs.YtkjikigimmchlaaGreatDoor
namespace Go.Proofs.YtkjikigimmchlaaGreatDoor
open Go.RowKit
def Own (w : World) (b n : Nat) : Prop := ∃ vs : List Value, vs.length = n ∧ Box w b vs
theorem Own.below {w w' : World} {b n : Nat} (h : Own w b n) (hb : Below w.heap.size w w') : Own w' b n := by
  obtain ⟨vs, hl, hx⟩ := h
  exact ⟨vs, hl, hx.below hb⟩
theorem Own.lt {w : World} {b n : Nat} (h : Own w b n) : b < w.heap.size := by
  obtain ⟨vs, _, hx⟩ := h
  exact hx.lt
theorem Own.set {w : World} {b n : Nat} (h : Own w b n) (g j : Nat) (v : Value) : Own (w.setCell ⟨g, j, none⟩ v) b n := by
  obtain ⟨vs, hl, hx⟩ := h
  by_cases e : g = b
  · subst e
    exact ⟨vs.set j v, by rw [List.length_set]; exact hl, hx.set j v⟩
  · exact ⟨vs, hl, hx.other (fun q => e q.symm) v⟩
structure Held (W0 : World) (L : List (Nat × List Value)) (M : List (Nat × Nat)) (w : World) : Prop where
  below : Below W0.heap.size W0 w
  boxs : Boxs w L
  owns : ∀ y ∈ M, Own w y.1 y.2
  high : ∀ y ∈ M, W0.heap.size ≤ y.1
  apart : ∀ x ∈ L, ∀ y ∈ M, x.1 ≠ y.1
theorem Held.refl (w : World) : Held w [] [] w := ⟨Below.refl _ _, Boxs.nil w, by simp, by simp, by simp⟩
section
variable {W0 w w' : World} {L : List (Nat × List Value)} {M : List (Nat × Nat)}
theorem Held.up (h : Held W0 L M w) (hb : Below w.heap.size w w') : Held W0 L M w' := ⟨ext h.below hb, h.boxs.up hb, fun y hy => (h.owns y hy).below hb, h.high, h.apart⟩
theorem Held.drew (h : Held W0 L M w) : Held W0 L M w.drew := h.up (Below.refl _ _).drew
theorem Held.alloc (h : Held W0 L M w) (o : Obj) : Held W0 L M (w.alloc o) := h.up below1
theorem Held.lay (h : Held W0 L M w) (vs : List Value) (t : TypeId) : Held W0 ((w.heap.size, vs) :: L) M (w.alloc (.cells vs.toArray t)) := by
  refine ⟨(h.alloc _).below, h.boxs.lay vs t, (h.alloc _).owns, h.high, fun x hx y hy => ?_⟩
  rcases List.mem_cons.1 hx with rfl | hx
  · have := (h.owns y hy).lt
    dsimp only
    omega
  · exact h.apart x hx y hy
theorem Held.own (h : Held W0 L M w) (vs : List Value) (t : TypeId) {n : Nat} (hn : vs.length = n) : Held W0 L ((w.heap.size, n) :: M) (w.alloc (.cells vs.toArray t)) := by
  refine ⟨(h.alloc _).below, (h.alloc _).boxs, fun y hy => ?_, fun y hy => ?_, fun x hx y hy => ?_⟩
  · rcases List.mem_cons.1 hy with rfl | hy
    · exact ⟨vs, hn, Box.new _ _ _⟩
    · exact (h.alloc _).owns y hy
  · rcases List.mem_cons.1 hy with rfl | hy
    · exact h.below.size
    · exact h.high y hy
  · rcases List.mem_cons.1 hy with rfl | hy
    · have := (h.boxs x hx).lt
      dsimp only
      omega
    · exact h.apart x hx y hy
theorem Held.set (h : Held W0 L M w) {b : Nat} (hb : ∃ n, (b, n) ∈ M) (j : Nat) (v : Value) : Held W0 L M (w.setCell ⟨b, j, none⟩ v) := by
  obtain ⟨n, hn⟩ := hb
  refine ⟨h.below.setCell (p := ⟨b, j, none⟩) (h.high _ hn) v, fun x hx => ?_, fun y hy => (h.owns y hy).set b j v, h.high, h.apart⟩
  exact (h.boxs x hx).other (h.apart x hx _ hn) v
theorem Held.less {x : Nat × List Value} (h : Held W0 (x :: L) M w) : Held W0 L M w := ⟨h.below, h.boxs.tl, h.owns, h.high, fun y hy => h.apart y (List.mem_cons_of_mem _ hy)⟩
theorem Held.done {y : Nat × Nat} (h : Held W0 L (y :: M) w) : Held W0 L M w := ⟨h.below, h.boxs, fun x hx => h.owns x (List.mem_cons_of_mem _ hx), fun x hx => h.high x (List.mem_cons_of_mem _ hx), fun x hx z hz => h.apart x hx z (List.mem_cons_of_mem _ hz)⟩
theorem Held.fix {b n : Nat} {vs : List Value} (h : Held W0 L ((b, n) :: M) w) (hx : Box w b vs) (hM : ∀ y ∈ M, b ≠ y.1) : Held W0 ((b, vs) :: L) M w :=
  ⟨h.below, Boxs.cons hx h.boxs, h.done.owns, h.done.high, fun x hx' y hy => by
    rcases List.mem_cons.1 hx' with rfl | hx'
    · exact hM y hy
    · exact h.done.apart x hx' y hy⟩
theorem Held.b0 {x0 : Nat × List Value} (h : Held W0 (x0 :: L) M w) : Box w x0.1 x0.2 := h.boxs.hd
theorem Held.b1 {x0 x1 : Nat × List Value} (h : Held W0 (x0 :: x1 :: L) M w) : Box w x1.1 x1.2 := h.boxs.tl.hd
theorem Held.b2 {x0 x1 x2 : Nat × List Value} (h : Held W0 (x0 :: x1 :: x2 :: L) M w) : Box w x2.1 x2.2 := h.boxs.tl.tl.hd
theorem Held.b3 {x0 x1 x2 x3 : Nat × List Value} (h : Held W0 (x0 :: x1 :: x2 :: x3 :: L) M w) : Box w x3.1 x3.2 := h.boxs.tl.tl.tl.hd
theorem Held.b4 {x0 x1 x2 x3 x4 : Nat × List Value} (h : Held W0 (x0 :: x1 :: x2 :: x3 :: x4 :: L) M w) : Box w x4.1 x4.2 := h.boxs.tl.tl.tl.tl.hd
theorem Held.o0 {y0 : Nat × Nat} (h : Held W0 L (y0 :: M) w) : Own w y0.1 y0.2 := h.owns _ (by simp)
theorem Held.o1 {y0 y1 : Nat × Nat} (h : Held W0 L (y0 :: y1 :: M) w) : Own w y1.1 y1.2 := h.owns _ (by simp)
end
theorem Own.four {w : World} {b : Nat} (h : Own w b 4) : ∃ u0 u1 u2 u3, Box w b [u0, u1, u2, u3] := by
  obtain ⟨vs, hl, hx⟩ := h
  match vs, hl with
  | [u0, u1, u2, u3], _ => exact ⟨_, _, _, _, hx⟩
theorem Own.eight {w : World} {b : Nat} (h : Own w b 8) : ∃ u0 u1 u2 u3 u4 u5 u6 u7, Box w b [u0, u1, u2, u3, u4, u5, u6, u7] := by
  obtain ⟨vs, hl, hx⟩ := h
  match vs, hl with
  | [u0, u1, u2, u3, u4, u5, u6, u7], _ => exact ⟨_, _, _, _, _, _, _, _, hx⟩
theorem Box.eight {w : World} {b : Nat} {u0 u1 u2 u3 u4 u5 u6 u7 : Value} (h : Box w b [u0, u1, u2, u3, u4, u5, u6, u7]) (v0 v1 v2 v3 v4 v5 v6 v7 : Value) : Box ((((((((w.setCell ⟨b, 0, none⟩ v0).setCell ⟨b, 1, none⟩ v1).setCell ⟨b, 2, none⟩ v2).setCell ⟨b, 3, none⟩ v3).setCell ⟨b, 4, none⟩ v4).setCell ⟨b, 5, none⟩ v5).setCell ⟨b, 6, none⟩ v6).setCell ⟨b, 7, none⟩ v7) b [v0, v1, v2, v3, v4, v5, v6, v7] := ((((((((h.set 0 v0).set 1 v1).set 2 v2).set 3 v3).set 4 v4).set 5 v5).set 6 v6).set 7 v7)
theorem Held.set1 {W0 w : World} {L : List (Nat × List Value)} {M : List (Nat × Nat)} {b : Nat} (h : Held W0 L M w) (hb : ∃ n, (b, n) ∈ M) (v0 : Value) : Held W0 L M (w.setCell ⟨b, 0, none⟩ v0) := (h.set hb 0 v0)
theorem Held.set4 {W0 w : World} {L : List (Nat × List Value)} {M : List (Nat × Nat)} {b : Nat} (h : Held W0 L M w) (hb : ∃ n, (b, n) ∈ M) (v0 v1 v2 v3 : Value) : Held W0 L M ((((w.setCell ⟨b, 0, none⟩ v0).setCell ⟨b, 1, none⟩ v1).setCell ⟨b, 2, none⟩ v2).setCell ⟨b, 3, none⟩ v3) := ((((h.set hb 0 v0).set hb 1 v1).set hb 2 v2).set hb 3 v3)
theorem Held.set8 {W0 w : World} {L : List (Nat × List Value)} {M : List (Nat × Nat)} {b : Nat} (h : Held W0 L M w) (hb : ∃ n, (b, n) ∈ M) (v0 v1 v2 v3 v4 v5 v6 v7 : Value) : Held W0 L M ((((((((w.setCell ⟨b, 0, none⟩ v0).setCell ⟨b, 1, none⟩ v1).setCell ⟨b, 2, none⟩ v2).setCell ⟨b, 3, none⟩ v3).setCell ⟨b, 4, none⟩ v4).setCell ⟨b, 5, none⟩ v5).setCell ⟨b, 6, none⟩ v6).setCell ⟨b, 7, none⟩ v7) := ((((((((h.set hb 0 v0).set hb 1 v1).set hb 2 v2).set hb 3 v3).set hb 4 v4).set hb 5 v5).set hb 6 v6).set hb 7 v7)
section
variable {P : Program} {ops : Array Oper} {Q : Exit → Act → World → Prop} {md : Region.Mode} {S T : World → Prop}
theorem stored4 {W0 w : World} {L : List (Nat × List Value)} {M : List (Nat × Nat)} {b fuel : Nat} {listed : Array Bool} {a : Act} {u0 u1 u2 u3 v0 v1 v2 v3 : Value} (h : Held W0 L M w) (hb : ∃ n, (b, n) ∈ M) (hx : Box w b [u0, u1, u2, u3])
    (H : ∀ v, Held W0 L M v → Box v b [v0, v1, v2, v3] → wpAnyH P md ops Q (Held W0 L M) fuel listed a v) : wpAnyH P md ops Q (Held W0 L M) fuel listed a ((((w.setCell ⟨b, 0, none⟩ v0).setCell ⟨b, 1, none⟩ v1).setCell ⟨b, 2, none⟩ v2).setCell ⟨b, 3, none⟩ v3) :=
  H _ ((((h.set hb 0 v0).set hb 1 v1).set hb 2 v2).set hb 3 v3) ((((hx.set 0 v0).set 1 v1).set 2 v2).set 3 v3)
theorem held_begin {W0 w : World} {L : List (Nat × List Value)} {M : List (Nat × Nat)} {id : Nat} {a : Act} (hm : P.follows .mixedOrders = true) (h : Held W0 L M w)
    (H : ∀ v, Held W0 L M v → wpAnyH P .any ops Q (Held W0 L M) ops.size (Array.replicate ops.size false) a v) : (Code.region id ops true).wp P Q a w :=
  wp_region_held_drew hm h.drew (fun hS => H _ hS)
end
end Go.Proofs.YtkjikigimmchlaaGreatDoor
namespace Go.Proofs.YtkjikigimmchlaaGreatDoor
open Go.RowKit
def txt (l : List UInt8) : ByteArray := ⟨l.toArray⟩
theorem txt_data (l : List UInt8) : (txt l).data.toList = l := rfl
theorem txt_of (s : ByteArray) : txt s.data.toList = s := by
  obtain ⟨⟨l⟩⟩ := s
  rfl
theorem txt_size (l : List UInt8) : (txt l).size = l.length := rfl
end Go.Proofs.YtkjikigimmchlaaGreatDoor
namespace Go.Proofs.YtkjikigimmchlaaGreatDoor
open Go.RowKit
structure Sup where
  n : Int
  c : Int
  b : Int
  o : Int
  p : Int
  i : Bool
  r : Bool
  d : Bool
@[reducible] def supV (s : Sup) : Value := .agg #[.int .i64 s.n, .int .u64 s.c, .int .u64 s.b, .int .u64 s.o, .int .u64 s.p, .bool s.i, .bool s.r, .bool s.d]
def Sup.wide (s : Sup) : Prop := (0 ≤ s.c ∧ s.c < 18446744073709551616) ∧ (0 ≤ s.b ∧ s.b < 18446744073709551616) ∧ (0 ≤ s.o ∧ s.o < 18446744073709551616) ∧ 0 ≤ s.p ∧ s.p < 18446744073709551616
def Sup.right (s : Sup) : Bool := decide (1 ≤ s.n) && decide (s.n ≤ 32) && !decide (s.c = 0)
end Go.Proofs.YtkjikigimmchlaaGreatDoor
