/- What bytes are a superblock's, in plain words, and what both Decodes answer to any text of up to 3000 bytes. Under (the program's alone): both package variables as they are laid. -/
import Derived.Test.YtjkgellkkjjnbaaGreatDoorT3
import Derived.Test.YtjkgellkkjjnbaaGreatDoorKB
namespace Go.Proofs.YtjkgellkkjjnbaaGreatDoor
open Go.RowKit

/-! ### Plain facts -/

theorem bits_fl (i r d : Bool) : decide (fl [i, r, d] % 2 = 1) = i ∧ decide (fl [i, r, d] / 2 % 2 = 1) = r ∧ decide (fl [i, r, d] / 2 / 2 % 2 = 1) = d ∧ fl [i, r, d] < 8 := by
  cases i <;> cases r <;> cases d <;> decide

/-- The bytes of a superblock tell it. -/
theorem sup_body (s : Sup) (hw : s.wide) (h0 : 0 ≤ s.n) (h1 : s.n < 256) : supOf s.body = s := by
  obtain ⟨n, c, b, o, p, i, r, d⟩ := s
  obtain ⟨⟨c0, c1⟩, ⟨b0, b1⟩, ⟨o0, o1⟩, p0, p1⟩ := hw
  dsimp only at *
  obtain ⟨e0, e1, e2, e3⟩ := bits_fl i r d
  have hn : ((UInt8.ofNat n.toNat).toNat : Int) = n := by
    rw [UInt8.toNat_ofNat', show n.toNat % 2 ^ 8 = n.toNat from by omega]; omega
  have hf : (UInt8.ofNat (fl [i, r, d])).toNat = fl [i, r, d] := by
    rw [UInt8.toNat_ofNat', show fl [i, r, d] % 2 ^ 8 = fl [i, r, d] from by omega]
  unfold supOf Sup.body
  dsimp only
  have n5 := num8_at [71, 77, 1, UInt8.ofNat n.toNat, UInt8.ofNat (fl [i, r, d])] (be 8 b.toNat ++ (be 8 o.toNat ++ be 8 p.toNat)) 5 c.toNat rfl
  have n13 := num8_at ([71, 77, 1, UInt8.ofNat n.toNat, UInt8.ofNat (fl [i, r, d])] ++ be 8 c.toNat) (be 8 o.toNat ++ be 8 p.toNat) 13 b.toNat (by simp [be_length])
  have n21 := num8_at ([71, 77, 1, UInt8.ofNat n.toNat, UInt8.ofNat (fl [i, r, d])] ++ be 8 c.toNat ++ be 8 b.toNat) (be 8 p.toNat) 21 o.toNat (by simp [be_length])
  have n29 := num8_at ([71, 77, 1, UInt8.ofNat n.toNat, UInt8.ofNat (fl [i, r, d])] ++ be 8 c.toNat ++ be 8 b.toNat ++ be 8 o.toNat) [] 29 p.toNat (by simp [be_length])
  rw [num8_nat c c0 c1] at n5
  rw [num8_nat b b0 b1] at n13
  rw [num8_nat o o0 o1] at n21
  rw [num8_nat p p0 p1] at n29
  simp only [List.append_assoc, List.append_nil] at n5 n13 n21 n29 ⊢
  rw [n5, n13, n21, n29]
  simp only [List.cons_append, List.nil_append, List.getD_cons_succ, List.getD_cons_zero]
  rw [hn, hf, e0, e1, e2]

theorem fl_bits (x : Nat) (h : x < 8) : fl [decide (x % 2 = 1), decide (x / 2 % 2 = 1), decide (x / 2 / 2 % 2 = 1)] = x := by
  have : ∀ x : Fin 8, fl [decide (x.1 % 2 = 1), decide (x.1 / 2 % 2 = 1), decide (x.1 / 2 / 2 % 2 = 1)] = x.1 := by decide
  exact this ⟨x, h⟩

/-- What tells a superblock are its bytes, where they begin as they must. -/
theorem body_sup (l : List UInt8) (hl : l.length = 37) (hh : l.take 3 = [71, 77, 1]) (h8 : (l.getD 4 0).toNat < 8) : (supOf l).body = l := by
  have b5 := be_drop l 5 (by omega)
  have b13 := be_drop l 13 (by omega)
  have b21 := be_drop l 21 (by omega)
  have b29 := be_drop l 29 (by omega)
  unfold Sup.body supOf
  dsimp only
  rw [b5, b13, b21, b29, Int.toNat_natCast, fl_bits _ h8, UInt8.ofNat_toNat, UInt8.ofNat_toNat]
  have e29 : (l.drop 29).take 8 = l.drop 29 := List.take_of_length_le (by rw [List.length_drop, hl]; decide)
  have s21 : (l.drop 21).take 8 ++ l.drop 29 = l.drop 21 := by have := List.take_append_drop 8 (l.drop 21); rw [List.drop_drop] at this; exact this
  have s13 : (l.drop 13).take 8 ++ l.drop 21 = l.drop 13 := by have := List.take_append_drop 8 (l.drop 13); rw [List.drop_drop] at this; exact this
  have s5 : (l.drop 5).take 8 ++ l.drop 13 = l.drop 5 := by have := List.take_append_drop 8 (l.drop 5); rw [List.drop_drop] at this; exact this
  have s3 : l.drop 3 = l.getD 3 0 :: l.getD 4 0 :: l.drop 5 := by
    rw [List.drop_eq_getElem_cons (by omega), List.drop_eq_getElem_cons (by omega)]
    simp [List.getD, hl]
  simp only [List.append_assoc]
  rw [e29, s21, s13, s5]
  conv => rhs; rw [← List.take_append_drop 3 l, hh, s3]
  rfl

theorem body_three (s : Sup) : s.body.take 3 = [71, 77, 1] := rfl

theorem right_n {s : Sup} (h : s.right = true) : 1 ≤ s.n ∧ s.n ≤ 32 ∧ s.c ≠ 0 := by
  unfold Sup.right at h
  simp at h
  exact ⟨h.1.1, h.1.2, h.2⟩

theorem formed_body (s : Sup) (hw : s.wide) (hr : s.right = true) : formed s.body = true := by
  obtain ⟨h1, h2, _⟩ := right_n hr
  have e := sup_body s hw (by omega) (by omega)
  unfold formed
  rw [e, hr, body_length, body_three]
  have hf := (bits_fl s.i s.r s.d).2.2.2
  have : (s.body.getD 4 0).toNat < 8 := by
    show (UInt8.ofNat (fl [s.i, s.r, s.d])).toNat < 8
    rw [UInt8.toNat_ofNat']
    omega
  rw [decide_eq_true this]
  rfl

/-- There and back. -/
theorem dec_bytes (s : Sup) (hw : s.wide) (hr : s.right = true) : dec s.bytes = (s, 0) := by
  obtain ⟨h1, h2, _⟩ := right_n hr
  obtain ⟨he, ht⟩ := open_sealed s.body
  unfold dec Sup.bytes
  rw [he, ht, if_pos rfl, txt_data, formed_body s hw hr, sup_body s hw (by omega) (by omega)]
  rfl

theorem bytes_dec (x : ByteArray) (h : (dec x).2 = 0) : (dec x).1.right = true ∧ (dec x).1.wide ∧ (dec x).1.bytes = x := by
  unfold dec at *
  split at h
  · rename_i he
    rw [if_pos he]
    split at h
    · rename_i hf
      rw [if_pos hf]
      have hs := sealed_open x he
      unfold formed at hf
      simp at hf
      obtain ⟨⟨⟨f1, f2⟩, f3⟩, f4⟩ := hf
      refine ⟨f4, ⟨num8_range _ _, num8_range _ _, num8_range _ _, num8_range _ _⟩, ?_⟩
      unfold Sup.bytes
      rw [body_sup _ (by simpa using f1) f2 (by simpa using f3)]
      exact hs
    · cases h
  · rename_i he
    exact absurd h he

theorem dec_zero (x : ByteArray) (h : (dec x).2 ≠ 0) : (dec x).1 = Sup.zero := by
  unfold dec at *
  split
  · rename_i he
    rw [if_pos he] at h
    split
    · rename_i hf
      rw [if_pos hf] at h
      exact absurd rfl h
    · rfl
  · rfl

/-! ### Both Decodes -/
theorem sup_at (t : ByteArray) (hl : t.size = 37) : (⟨((t[3]'(by omega)).toNat : Int), num8 t.data.toList 5, num8 t.data.toList 13, num8 t.data.toList 21, num8 t.data.toList 29, decide ((t[4]'(by omega)).toNat % 2 = 1), decide ((t[4]'(by omega)).toNat / 2 % 2 = 1), decide ((t[4]'(by omega)).toNat / 2 / 2 % 2 = 1)⟩ : Sup) = supOf t.data.toList := by
  unfold supOf
  rw [at_txt t 3 (by omega), at_txt t 4 (by omega)]

theorem num8_tail (t : ByteArray) (k : Nat) : num8 (t.extract 5 t.size).data.toList k = num8 t.data.toList (5 + k) := by
  unfold num8
  rw [tail_list, List.drop_drop]

theorem head_iff (t : ByteArray) : t.extract 0 3 = ⟨#[71, 77, 1]⟩ ↔ t.data.toList.take 3 = [71, 77, 1] := by
  rw [extract_txt]
  constructor
  · intro h
    exact congrArg (fun x : ByteArray => x.data.toList) h
  · intro h
    rw [h]
    rfl

theorem rdecode_any (s : ByteArray) (w : World) (hs : (s.size : Int) ≤ 3000) :
    Calls Tryz.prog 62 #[.string s] w fun e w' => e = .returned (.tuple #[supV (dec s).1, .int .i64 (dec s).2]) ∧ Below w.heap.size w w' := by
  have ho := fun w => ropen_any s w hs
  unfold dec
  by_cases he : openE s = 0
  · rw [if_pos he]
    rw [he] at ho
    generalize openT s = t at *
    by_cases hl : t.size = 37
    · have hl2 : (t.size : Int) = 37 := by omega
      have hlen : t.data.toList.length = 37 := hl
      have hsup := sup_at t hl
      have h4 := at_txt t 4 (by omega)
      unfold formed
      by_cases h8 : (t[4]'(by omega)).toNat < 8
      · have h8l : (t.data.toList.getD 4 0).toNat < 8 := by rw [← h4]; exact h8
        cases hr : (supOf t.data.toList).right with
        | false =>
          rw [Bool.and_false]
          exact rdec_wrong s t w ho hl2 h8 (by rw [hsup]; exact hr)
        | true =>
          by_cases hh : t.data.toList.take 3 = [71, 77, 1]
          · have hd : txt (supOf t.data.toList).body = t := by rw [body_sup _ hlen hh h8l, txt_of]
            have := rdec_ok s t w ho hl2 h8 (by rw [hsup]; exact hr) (by rw [hsup]; exact hd)
            rw [hsup] at this
            rw [decide_eq_true hlen, decide_eq_true hh, decide_eq_true h8l]
            exact this
          · have hd : txt (supOf t.data.toList).body ≠ t := by
              intro e
              apply hh
              have e2 : (supOf t.data.toList).body = t.data.toList := congrArg (fun x : ByteArray => x.data.toList) e
              rw [← e2]
              rfl
            rw [decide_eq_false hh, Bool.and_false, Bool.false_and, Bool.false_and]
            exact rdec_head s t w ho hl2 h8 (by rw [hsup]; exact hr) (by rw [hsup]; exact hd)
      · rw [decide_eq_false (show ¬ (t.data.toList.getD 4 0).toNat < 8 from by rw [← h4]; exact h8), Bool.and_false, Bool.false_and]
        exact rdec_flags s t w ho hl2 (by omega)
    · unfold formed
      rw [decide_eq_false (show ¬ t.data.toList.length = 37 from hl), Bool.false_and, Bool.false_and, Bool.false_and]
      exact rdec_len s t w ho hl
  · rw [if_neg he]
    exact rdec_seal s (openT s) (openE s) w ho he

theorem parse_any (s : ByteArray) (a : Addr) (w : World) (hs : (s.size : Int) ≤ 3000) (hg : Glob w a) :
    Calls Tryz.prog 91 #[.string s] w fun e w' => ∃ v, e = .returned (.tuple #[supV (dec s).1, v]) ∧ ErrOf a v (dec s).2 ∧ Below w.heap.size w w' := by
  have ho := fun w => open_any s w hs
  unfold dec
  by_cases he : openE s = 0
  · rw [if_pos he]
    rw [he] at ho
    generalize openT s = t at *
    by_cases hl : t.size = 37
    · have hl2 : (t.size : Int) = 37 := by omega
      have hlen : t.data.toList.length = 37 := hl
      have hsup := sup_at t hl
      rw [← num8_tail t 0, ← num8_tail t 8, ← num8_tail t 16, ← num8_tail t 24] at hsup
      have h4 := at_txt t 4 (by omega)
      unfold formed
      by_cases hh : t.extract 0 3 = ⟨#[71, 77, 1]⟩
      · rw [decide_eq_true ((head_iff t).1 hh), decide_eq_true hlen]
        by_cases h8 : (t[4]'(by omega)).toNat < 8
        · rw [decide_eq_true (show (t.data.toList.getD 4 0).toNat < 8 from by rw [← h4]; exact h8)]
          cases hr : (supOf t.data.toList).right with
          | false => exact parse_wrong s t a w hg ho hl2 hh h8 (by rw [hsup]; exact hr)
          | true =>
            have := parse_ok s t a w hg ho hl2 hh h8 (by rw [hsup]; exact hr)
            rw [hsup] at this
            exact this
        · rw [decide_eq_false (show ¬ (t.data.toList.getD 4 0).toNat < 8 from by rw [← h4]; exact h8), Bool.and_false, Bool.false_and]
          exact parse_flags s t a w hg ho hl2 hh (by omega)
      · rw [decide_eq_false (fun h => hh ((head_iff t).2 h)), Bool.and_false, Bool.false_and, Bool.false_and]
        exact parse_head s t a w hg ho hl2 hh
    · unfold formed
      rw [decide_eq_false (show ¬ t.data.toList.length = 37 from hl), Bool.false_and, Bool.false_and, Bool.false_and]
      exact parse_len s t a w hg ho hl
  · rw [if_neg he]
    exact parse_seal s (openT s) (openE s) a w ho he

set_option maxRecDepth 100000 in
set_option maxHeartbeats 2000000 in
theorem decode_any (s : ByteArray) (a : Addr) (w : World) (hs : (s.size : Int) ≤ 3000) (hg : Glob w a) :
    Calls Tryz.prog 55 #[.string s] w fun e w' => e = .returned (.tuple #[supV (dec s).1, .int .i64 (dec s).2]) ∧ Below w.heap.size w w' := by
  have hp := fun w hg => parse_any s a w hs hg
  generalize dec s = D at *
  obtain ⟨⟨n, c, b, o, p, i, r, d⟩, m⟩ := D
  dsimp only [supV] at *
  have HP := Lib.hid hp; clear hp
  have HG := Lib.hid hg; clear hg
  have H0 := Lib.hid ((Held.refl w).own (supC Sup.zero) 31 (n := 8) rfl)
  go_enter Tryz.func55, Tryz.ntmps55
  go_wp2_with fail
  refine (HP.out _ (HG.out.up H0.out.below)).mono ?_
  rintro e w1 ⟨v, rfl, hv, hb⟩
  have HV := Lib.hid hv; clear hv
  have H1 := Lib.hid ((H0.out.up hb).lay [.int .i64 n, .int .u64 c, .int .u64 b, .int .u64 o, .int .u64 p, .bool i, .bool r, .bool d] 31)
  clear hb H0
  go_wp2_with fail
  refine held_begin (by kernel_rfl) H1.out (fun v0 hH0 => ?_)
  refine wpAnyH_take (i := 0) (v := ?_) rfl (by kernel_rfl) (by kernel_rfl) (by kernel_rfl) (fun _ _ _ h => h) (Or.inl ⟨by rfl, ?_⟩) hH0 ?_
  rotate_left
  · (intro v hSw; have k := hSw.b0.cell; go_simp; try with_reducible rfl)
  simp only [Act.put, List.setIfInBounds_toArray, List.set_cons_zero, List.set_cons_succ, List.getElem_toArray, List.getElem_cons_zero]
  refine wpAnyH_take (i := 1) (v := ?_) rfl (by kernel_rfl) (by kernel_rfl) (by kernel_rfl) (fun _ _ _ h => h) (Or.inl ⟨by rfl, ?_⟩) hH0 ?_
  rotate_left
  · (intro v hSw; go_simp; try with_reducible rfl)
  simp only [Act.put, List.setIfInBounds_toArray, List.set_cons_zero, List.set_cons_succ, List.getElem_toArray, List.getElem_cons_zero, List.getElem_cons_succ]
  refine wpAnyH_ready (rs := [2]) (by kernel_rfl) (by simp) ?_
  refine AllReadyH.cons rfl (fun K hK => ?_) AllReadyH.nil
  go_simp
  refine (number_any _ _ a _ (HG.out.up hH0.below) HV.out).mono ?_
  rintro e v1 ⟨rfl, hb⟩
  go_wp2_with fail
  refine hK.out _ _ (hH0.up hb) (fun hH1 => ?_)
  clear hK K hH0
  refine wpAnyH_ready (rs := [3]) (by kernel_rfl) (by simp) ?_
  refine AllReadyH.cons rfl (fun K hK => ?_) AllReadyH.nil
  obtain ⟨u0, u1, u2, u3, u4, u5, u6, u7, hx⟩ := hH1.o0.eight
  have kx := hx.cell
  have fx := hx.frozen
  go_simp
  refine hK.out _ _ (hH1.set8 ⟨8, by simp⟩ _ _ _ _ _ _ _ _) (fun hX => ?_)
  refine stored8 hH1 ⟨8, by simp⟩ hx (fun v2 hH2 hy => ?_)
  clear hK K hX hH1 hx kx fx
  refine wpAnyH_take (i := 4) (v := ?_) rfl (by kernel_rfl) (by kernel_rfl) (by kernel_rfl) (fun _ _ _ h => h) (Or.inl ⟨by rfl, ?_⟩) hH2 ?_
  rotate_left
  · (intro v hSw; go_simp; try with_reducible rfl)
  simp only [Act.put, List.setIfInBounds_toArray, List.set_cons_zero, List.set_cons_succ, List.getElem_toArray, List.getElem_cons_zero, List.getElem_cons_succ]
  refine wpAnyH_done (by kernel_rfl) ?_ _
  have kz := hy.cell
  go_wp2_with fail
  refine bodyPost_ret (v := .tuple #[.agg #[.int .i64 n, .int .u64 c, .int .u64 b, .int .u64 o, .int .u64 p, .bool i, .bool r, .bool d], .int .i64 m]) (by simp [results, Tryz.results55, go_sem, kz]) rfl ⟨rfl, hH2.below⟩

/-- What both Encodes answer. -/
def Sup.encT (s : Sup) : ByteArray := if s.right then s.bytes else ⟨#[]⟩
def Sup.encE (s : Sup) : Int := if s.right then 0 else 1

theorem encode_any (s : Sup) (w : World) (hw : s.wide) : Calls Tryz.prog 88 #[supV s] w fun e w' => e = .returned (.tuple #[.string s.encT, .int .i64 s.encE]) ∧ Below w.heap.size w w' := by
  unfold Sup.encT Sup.encE
  cases hr : s.right with
  | true => exact encode_yes s w hw hr
  | false => exact encode_no s w hr

theorem rencode_any (s : Sup) (w : World) (hw : s.wide) : Calls Tryz.prog 70 #[supV s] w fun e w' => e = .returned (.tuple #[.string s.encT, .int .i64 s.encE]) ∧ Below w.heap.size w w' := by
  unfold Sup.encT Sup.encE
  cases hr : s.right with
  | true => exact rencode_yes s w hw hr
  | false => exact rencode_no s w hr

end Go.Proofs.YtjkgellkkjjnbaaGreatDoor
