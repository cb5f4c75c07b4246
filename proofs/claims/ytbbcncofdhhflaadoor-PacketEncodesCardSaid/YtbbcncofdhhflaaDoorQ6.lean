/- Hellos: there and back in plain words; what Encode and Decode answer on both sides, for every hello and every text. No condition but that the generations are numbers of eight bytes and the mask is one of four. -/
import Derived.Test.YtbbcncofdhhflaaDoorQ3
import Derived.Test.YtbbcncofdhhflaaDoorQ5
namespace Go.Proofs.YtbbcncofdhhflaaDoor
open Go.RowKit

theorem hbits_fl (i r d q : Bool) : decide (fl [i, r, d, q] % 2 = 1) = i ∧ decide (fl [i, r, d, q] / 2 % 2 = 1) = r ∧ decide (fl [i, r, d, q] / 2 / 2 % 2 = 1) = d ∧ decide (fl [i, r, d, q] / 2 / 2 / 2 % 2 = 1) = q ∧ fl [i, r, d, q] < 16 := by
  cases i <;> cases r <;> cases d <;> cases q <;> decide

/-- The bytes of a hello tell it. -/
theorem hel_body (s : Hel) (hw : s.wide) (h0 : 0 ≤ s.n) (h1 : s.n < 256) : helOf s.body = s := by
  obtain ⟨n, c, b, o, p, i, r, d, q, m⟩ := s
  obtain ⟨⟨c0, c1⟩, ⟨b0, b1⟩, ⟨o0, o1⟩, ⟨p0, p1⟩, m1⟩ := hw
  dsimp only at *
  obtain ⟨e0, e1, e2, e3, e4⟩ := hbits_fl i r d q
  have hn : ((UInt8.ofNat n.toNat).toNat : Int) = n := by
    rw [UInt8.toNat_ofNat', show n.toNat % 2 ^ 8 = n.toNat from by omega]; omega
  have hf : (UInt8.ofNat (fl [i, r, d, q])).toNat = fl [i, r, d, q] := by
    rw [UInt8.toNat_ofNat', show fl [i, r, d, q] % 2 ^ 8 = fl [i, r, d, q] from by omega]
  have hm4 : m < 256 ^ 4 := by
    have : (256 : Nat) ^ 4 = 4294967296 := by decide
    omega
  unfold helOf Hel.body
  dsimp only
  have n5 := num8_at [UInt8.ofNat n.toNat, UInt8.ofNat (fl [i, r, d, q])] (be 8 b.toNat ++ (be 8 o.toNat ++ (be 8 p.toNat ++ be 4 m))) 2 c.toNat rfl
  have n13 := num8_at ([UInt8.ofNat n.toNat, UInt8.ofNat (fl [i, r, d, q])] ++ be 8 c.toNat) (be 8 o.toNat ++ (be 8 p.toNat ++ be 4 m)) 10 b.toNat (by simp [be_length])
  have n21 := num8_at ([UInt8.ofNat n.toNat, UInt8.ofNat (fl [i, r, d, q])] ++ be 8 c.toNat ++ be 8 b.toNat) (be 8 p.toNat ++ be 4 m) 18 o.toNat (by simp [be_length])
  have n29 := num8_at ([UInt8.ofNat n.toNat, UInt8.ofNat (fl [i, r, d, q])] ++ be 8 c.toNat ++ be 8 b.toNat ++ be 8 o.toNat) (be 4 m) 26 p.toNat (by simp [be_length])
  have n37 : ([UInt8.ofNat n.toNat, UInt8.ofNat (fl [i, r, d, q])] ++ be 8 c.toNat ++ be 8 b.toNat ++ be 8 o.toNat ++ be 8 p.toNat ++ be 4 m).drop 34 = be 4 m :=
    List.drop_left' (by simp [be_length])
  rw [num8_nat c c0 c1] at n5
  rw [num8_nat b b0 b1] at n13
  rw [num8_nat o o0 o1] at n21
  rw [num8_nat p p0 p1] at n29
  simp only [List.append_assoc] at n5 n13 n21 n29 n37 ⊢
  rw [n5, n13, n21, n29, n37, val_be]
  simp only [List.cons_append, List.nil_append, List.getD_cons_succ, List.getD_cons_zero]
  rw [hn, hf, e0, e1, e2, e3, Nat.mod_eq_of_lt (show m < 256 ^ 4 from hm4)]

theorem hfl_bits (x : Nat) (h : x < 16) : fl [decide (x % 2 = 1), decide (x / 2 % 2 = 1), decide (x / 2 / 2 % 2 = 1), decide (x / 2 / 2 / 2 % 2 = 1)] = x := by
  have : ∀ x : Fin 16, fl [decide (x.1 % 2 = 1), decide (x.1 / 2 % 2 = 1), decide (x.1 / 2 / 2 % 2 = 1), decide (x.1 / 2 / 2 / 2 % 2 = 1)] = x.1 := by decide
  exact this ⟨x, h⟩

/-- What tells a hello are its bytes. -/
theorem body_hel (l : List UInt8) (hl : l.length = 38) (h8 : (l.getD 1 0).toNat < 16) : (helOf l).body = l := by
  have b5 := be_drop l 2 (by omega)
  have b13 := be_drop l 10 (by omega)
  have b21 := be_drop l 18 (by omega)
  have b29 := be_drop l 26 (by omega)
  have b37 : be 4 (val (l.drop 34)) = l.drop 34 := by
    have h := be_val (l.drop 34)
    rw [List.length_drop, hl] at h
    exact h
  unfold Hel.body helOf
  dsimp only
  rw [b5, b13, b21, b29, b37, Int.toNat_natCast, hfl_bits _ h8, UInt8.ofNat_toNat, UInt8.ofNat_toNat]
  have s29 : (l.drop 26).take 8 ++ l.drop 34 = l.drop 26 := by have := List.take_append_drop 8 (l.drop 26); rw [List.drop_drop] at this; exact this
  have s21 : (l.drop 18).take 8 ++ l.drop 26 = l.drop 18 := by have := List.take_append_drop 8 (l.drop 18); rw [List.drop_drop] at this; exact this
  have s13 : (l.drop 10).take 8 ++ l.drop 18 = l.drop 10 := by have := List.take_append_drop 8 (l.drop 10); rw [List.drop_drop] at this; exact this
  have s5 : (l.drop 2).take 8 ++ l.drop 10 = l.drop 2 := by have := List.take_append_drop 8 (l.drop 2); rw [List.drop_drop] at this; exact this
  simp only [List.append_assoc]
  rw [s29, s21, s13, s5]
  match l, hl with
  | x0 :: x1 :: r, _ => rfl

theorem hformed_body (s : Hel) (hw : s.wide) (hr : s.right = true) : hformed s.body = true := by
  have hn := Hel.right_n hr
  unfold hformed
  rw [hel_body s hw (by omega) (by omega), hr, hbody_length]
  have e4 := (hbits_fl s.i s.r s.d s.q).2.2.2.2
  have : ((s.body).getD 1 0).toNat < 16 := by
    unfold Hel.body
    simp only [List.append_assoc, List.cons_append, List.nil_append, List.getD_cons_succ, List.getD_cons_zero]
    rw [UInt8.toNat_ofNat', show fl [s.i, s.r, s.d, s.q] % 2 ^ 8 = fl [s.i, s.r, s.d, s.q] from by omega]
    exact e4
  rw [decide_eq_true this]
  rfl

theorem hdec_bytes (s : Hel) (hw : s.wide) (hr : s.right = true) : hdec s.bytes = (s, 0) := by
  have hn := Hel.right_n hr
  unfold hdec Hel.bytes
  rw [txt_data, hformed_body s hw hr, if_pos rfl, hel_body s hw (by omega) (by omega)]

theorem helOf_wide (l : List UInt8) (hl : l.length = 38) : (helOf l).wide := by
  refine ⟨num8_range _ _, num8_range _ _, num8_range _ _, num8_range _ _, ?_⟩
  show val (l.drop 34) < 4294967296
  have h := val_lt (l.drop 34)
  rw [List.length_drop, hl] at h
  exact h

theorem bytes_hdec (x : ByteArray) (h : (hdec x).2 = 0) : (hdec x).1.right = true ∧ (hdec x).1.wide ∧ (hdec x).1.bytes = x := by
  unfold hdec at *
  by_cases hf : hformed x.data.toList = true
  · rw [if_pos hf] at *
    unfold hformed at hf
    simp only [Bool.and_eq_true, decide_eq_true_eq] at hf
    refine ⟨hf.2, helOf_wide _ hf.1.1, ?_⟩
    unfold Hel.bytes
    rw [body_hel _ hf.1.1 hf.1.2, txt_of]
  · rw [if_neg hf] at h
    cases h

theorem hdec_zero (x : ByteArray) (h : (hdec x).2 ≠ 0) : (hdec x).1 = Hel.zero := by
  unfold hdec at *
  by_cases hf : hformed x.data.toList = true
  · rw [if_pos hf] at h
    exact absurd rfl h
  · rw [if_neg hf]

theorem hdec_wide (x : ByteArray) : (hdec x).1.m < 4294967296 := by
  unfold hdec
  by_cases hf : hformed x.data.toList = true
  · rw [if_pos hf]
    unfold hformed at hf
    simp only [Bool.and_eq_true, decide_eq_true_eq] at hf
    exact (helOf_wide _ hf.1.1).2.2.2.2
  · rw [if_neg hf]
    decide

theorem hdec_at (t : ByteArray) (hl : t.size = 38) : (⟨((t[0]'(by omega)).toNat : Int), num8 t.data.toList 2, num8 t.data.toList 10, num8 t.data.toList 18, num8 t.data.toList 26, decide ((t[1]'(by omega)).toNat % 2 = 1), decide ((t[1]'(by omega)).toNat / 2 % 2 = 1), decide ((t[1]'(by omega)).toNat / 2 / 2 % 2 = 1), decide ((t[1]'(by omega)).toNat / 2 / 2 / 2 % 2 = 1), val (t.data.toList.drop 34)⟩ : Hel) = helOf t.data.toList := by
  unfold helOf
  rw [at_txt t 0 (by omega), at_txt t 1 (by omega)]

theorem hdecode_any (t : ByteArray) (w : World) : Calls Tryd.prog 55 #[.string t] w fun e w' => e = .returned (.tuple #[helV (hdec t).1, .int .i64 (hdec t).2]) ∧ Below w.heap.size w w' := by
  by_cases hl : t.size = 38
  · by_cases h8 : (t[1]'(by omega)).toNat < 16
    · have e := hdec_at t hl
      have h8' : (t.data.toList.getD 1 0).toNat < 16 := by rw [← at_txt t 1 (by omega)]; exact h8
      have hl' : t.data.toList.length = 38 := hl
      cases hr : (helOf t.data.toList).right
      · have hd : hdec t = (Hel.zero, 2) := by unfold hdec hformed; rw [hr]; simp
        rw [hd]
        exact hdec_wrong t w (by omega) h8 (by rw [e]; exact hr)
      · have hd : hdec t = (helOf t.data.toList, 0) := by unfold hdec hformed; rw [hr, hl', decide_eq_true h8']; simp
        rw [hd]
        have := hdec_ok t w (by omega) h8 (by rw [e]; exact hr)
        rw [e] at this
        exact this
    · have h8' : ¬ (t.data.toList.getD 1 0).toNat < 16 := by rw [← at_txt t 1 (by omega)]; exact h8
      have hd : hdec t = (Hel.zero, 2) := by unfold hdec hformed; rw [decide_eq_false h8']; simp
      rw [hd]
      exact hdec_flags t w (by omega) (by omega)
  · have hd : hdec t = (Hel.zero, 2) := by
      have hl' : ¬ t.data.toList.length = 38 := hl
      unfold hdec hformed; rw [decide_eq_false hl']; simp
    rw [hd]
    exact hdec_len t w hl

theorem rhdecode_any (t : ByteArray) (w : World) : Calls Tryd.prog 32 #[.string t] w fun e w' => e = .returned (.tuple #[helV (hdec t).1, .int .i64 (hdec t).2]) ∧ Below w.heap.size w w' := by
  by_cases hl : t.size = 38
  · by_cases h8 : (t[1]'(by omega)).toNat < 16
    · have e := hdec_at t hl
      have h8' : (t.data.toList.getD 1 0).toNat < 16 := by rw [← at_txt t 1 (by omega)]; exact h8
      have hl' : t.data.toList.length = 38 := hl
      cases hr : (helOf t.data.toList).right
      · have hd : hdec t = (Hel.zero, 2) := by unfold hdec hformed; rw [hr]; simp
        rw [hd]
        exact rhdec_wrong t w (by omega) h8 (by rw [e]; exact hr)
      · have hd : hdec t = (helOf t.data.toList, 0) := by unfold hdec hformed; rw [hr, hl', decide_eq_true h8']; simp
        rw [hd]
        have := rhdec_ok t w (by omega) h8 (by rw [e]; exact hr)
        rw [e] at this
        exact this
    · have h8' : ¬ (t.data.toList.getD 1 0).toNat < 16 := by rw [← at_txt t 1 (by omega)]; exact h8
      have hd : hdec t = (Hel.zero, 2) := by unfold hdec hformed; rw [decide_eq_false h8']; simp
      rw [hd]
      exact rhdec_flags t w (by omega) (by omega)
  · have hd : hdec t = (Hel.zero, 2) := by
      have hl' : ¬ t.data.toList.length = 38 := hl
      unfold hdec hformed; rw [decide_eq_false hl']; simp
    rw [hd]
    exact rhdec_len t w hl

/-- What Encode answers: the bytes, or none, and the number. -/
def Hel.encT (s : Hel) : ByteArray := if s.right = true then s.bytes else ⟨#[]⟩
def Hel.encE (s : Hel) : Int := if s.right = true then 0 else 1

theorem hencode_any (s : Hel) (w : World) (hw : s.wide) : Calls Tryd.prog 35 #[helV s] w fun e w' => e = .returned (.tuple #[.string s.encT, .int .i64 s.encE]) ∧ Below w.heap.size w w' := by
  unfold Hel.encT Hel.encE
  cases h : s.right
  · rw [if_neg (by simp), if_neg (by simp)]
    exact hencode_no s w hw.2.2.2.2 h
  · rw [if_pos rfl, if_pos rfl]
    exact hencode_yes s w hw h

theorem rhencode_any (s : Hel) (w : World) (hw : s.wide) : Calls Tryd.prog 37 #[helV s] w fun e w' => e = .returned (.tuple #[.string s.encT, .int .i64 s.encE]) ∧ Below w.heap.size w w' := by
  unfold Hel.encT Hel.encE
  cases h : s.right
  · rw [if_neg (by simp), if_neg (by simp)]
    exact rhencode_no s w hw.2.2.2.2 h
  · rw [if_pos rfl, if_pos rfl]
    exact rhencode_yes s w hw h

end Go.Proofs.YtbbcncofdhhflaaDoor
