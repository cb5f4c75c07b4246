/- Packets: Decode and Read, by the document, for every text of up to three thousand bytes. No other condition. -/
import Derived.Test.YtbbcncofdhhflaaDoorPK5
import Derived.Test.YtbbcncofdhhflaaDoorPK6
import Derived.Test.YtbbcncofdhhflaaDoorPK7
namespace Go.Proofs.YtbbcncofdhhflaaDoor
open Go.RowKit

theorem pdec_bad {l : List UInt8} (h : (pktOf l).right = false) : pdec l = (Pkt.zero, 2) := by unfold pdec pformed; rw [h]; simp
theorem pdec_diff {l : List UInt8} (h : ¬ (pktOf l).body = l) : pdec l = (Pkt.zero, 2) := by unfold pdec pformed; rw [decide_eq_false h]; simp
theorem pdec_ok {l : List UInt8} (h9 : 9 ≤ l.length) (h : (pktOf l).right = true) (hb : (pktOf l).body = l) : pdec l = (pktOf l, 0) := by unfold pdec pformed; rw [h, decide_eq_true hb, decide_eq_true h9]; rfl
theorem pdec_few {l : List UInt8} (h9 : ¬ 9 ≤ l.length) : pdec l = (Pkt.zero, 2) := by unfold pdec pformed; rw [decide_eq_false h9]; rfl

theorem tail_txt (t : ByteArray) (k : Nat) : t.extract k t.size = txt (t.data.toList.drop k) := by
  have e : (t.extract k t.size).data.toList = t.data.toList.drop k := by
    obtain ⟨⟨l⟩⟩ := t
    simp [List.extract, ByteArray.size]
    exact List.take_of_length_le (by simp)
  rw [← e, txt_of]

theorem diff_texts {l : List UInt8} {t : ByteArray} (h : ¬ l = t.data.toList) : ((txt l).toList == t.toList) = false := by
  rw [beq_eq_false_iff_ne, ByteArray.toList_eq, ByteArray.toList_eq, txt_data]
  exact h

theorem get_num (t : ByteArray) (h9 : 9 ≤ t.size) (w : World) : Calls Tryd.prog 31 #[.string (t.extract 1 9)] w fun e w' => e = .returned (.tuple #[.int .u64 (num8 t.data.toList 1), .bool true]) ∧ Below w.heap.size w w' := by
  have := rget64_b (t.extract 1 9) w (extract8 t 1 (by omega))
  rw [extract_num8 t 1] at this
  exact this

theorem rpdec_one (s t : ByteArray) (w : World) (ho : ∀ w, Calls Tryd.prog 30 #[.string s] w fun e w' => e = .returned (.tuple #[.string t, .int .i64 0]) ∧ Below w.heap.size w w') (h9 : 9 ≤ t.size) (hz : (t.size : Int) ≤ 3000) (h1 : ((t.data.toList.getD 0 0).toNat : Int) = 1) : Calls Tryd.prog 14 #[.string s] w fun e w' => e = .returned (.tuple #[pktV (pdec t.data.toList).1, .int .i64 (pdec t.data.toList).2]) ∧ Below w.heap.size w w' := by
  have hg := get_num t h9
  have hk : ((t[0]'(by omega)).toNat : Int) = ((t.data.toList.getD 0 0).toNat : Int) := by rw [at_txt t 0 (by omega)]
  have hkr : 0 ≤ ((t.data.toList.getD 0 0).toNat : Int) ∧ ((t.data.toList.getD 0 0).toNat : Int) < 256 := ⟨by omega, by have := (t.data.toList.getD 0 0).toNat_lt; omega⟩
  have hd := fun w => rhdecode_any (t.extract 9 t.size) w
  by_cases h0 : (hdec (t.extract 9 t.size)).2 = 0
  · rw [h0] at hd
    have hp : pktOf t.data.toList = ⟨((t.data.toList.getD 0 0).toNat : Int), num8 t.data.toList 1, (hdec (t.extract 9 t.size)).1, 0, ⟨#[]⟩⟩ := by
      unfold pktOf
      dsimp only
      rw [if_pos h1, tail_txt]
    generalize (hdec (t.extract 9 t.size)).1 = h at *
    obtain ⟨n, c, b, o, p, i, r, d, q, m⟩ := h
    rw [h1] at hp
    have hwd := pktOf_wide t.data.toList
    cases hr : (pktOf t.data.toList).right
    · rw [pdec_bad hr]
      refine rpd_hel_bad s t _ _ n c b o p i r d q m w ho h9 hg hk h1 hd hz ?_
      intro w
      have := rpright_any (pktOf t.data.toList) w hwd.2.2.2.2.2
      rw [hr, hp] at this
      exact this
    · by_cases hq : (pktOf t.data.toList).body = t.data.toList
      · rw [pdec_ok h9 hr hq, hp]
        refine rpd_hel_ok s t _ _ n c b o p i r d q m w ho h9 hg hk h1 hd hz ?_ ?_
        · intro w
          have := rpright_any (pktOf t.data.toList) w hwd.2.2.2.2.2
          rw [hr, hp] at this
          exact this
        · intro w
          have := rbytes_any (pktOf t.data.toList) w hwd hr
          rw [hq, txt_of, hp] at this
          exact this
      · rw [pdec_diff hq]
        refine rpd_hel_diff s t (txt (pktOf t.data.toList).body) _ _ n c b o p i r d q m w ho h9 hg hk h1 hd hz ?_ ?_ (diff_texts hq)
        · intro w
          have := rpright_any (pktOf t.data.toList) w hwd.2.2.2.2.2
          rw [hr, hp] at this
          exact this
        · intro w
          have := rbytes_any (pktOf t.data.toList) w hwd hr
          rw [hp] at this ⊢
          exact this

  · have hbad : (pktOf t.data.toList).right = false := by
      have hp : (pktOf t.data.toList).k = 1 ∧ (pktOf t.data.toList).h = Hel.zero := by
        unfold pktOf
        dsimp only
        rw [if_pos h1, ← tail_txt]
        exact ⟨h1, hdec_zero _ h0⟩
      unfold Pkt.right
      rw [hp.1, hp.2, if_pos rfl, show Hel.zero.right = false from by decide]
      simp
    rw [pdec_bad hbad]
    have hfn : ((hdec (t.extract 9 t.size)).2 != 0) = true := bne_iff_ne.2 h0
    generalize (hdec (t.extract 9 t.size)).1 = h at *
    generalize (hdec (t.extract 9 t.size)).2 = f at *
    obtain ⟨n, c, b, o, p, i, r, d, q, m⟩ := h
    exact rpd_nohel s t _ _ n c b o p i r d q m f w ho h9 hg hk h1 hd hfn hz

theorem rpdec_flat (s t : ByteArray) (w : World) (ho : ∀ w, Calls Tryd.prog 30 #[.string s] w fun e w' => e = .returned (.tuple #[.string t, .int .i64 0]) ∧ Below w.heap.size w w') (h9 : 9 ≤ t.size) (hz : (t.size : Int) ≤ 3000) (h1 : ((t.data.toList.getD 0 0).toNat : Int) ≠ 1) (hb : blockK ((t.data.toList.getD 0 0).toNat : Int) = false) : Calls Tryd.prog 14 #[.string s] w fun e w' => e = .returned (.tuple #[pktV (pdec t.data.toList).1, .int .i64 (pdec t.data.toList).2]) ∧ Below w.heap.size w w' := by
  have hg := get_num t h9
  have hk : ((t[0]'(by omega)).toNat : Int) = ((t.data.toList.getD 0 0).toNat : Int) := by rw [at_txt t 0 (by omega)]
  have hkr : 0 ≤ ((t.data.toList.getD 0 0).toNat : Int) ∧ ((t.data.toList.getD 0 0).toNat : Int) < 256 := ⟨by omega, by have := (t.data.toList.getD 0 0).toNat_lt; omega⟩
  have hp : pktOf t.data.toList = ⟨((t.data.toList.getD 0 0).toNat : Int), num8 t.data.toList 1, Hel.zero, 0, t.extract 9 t.size⟩ := by
    unfold pktOf
    dsimp only
    rw [if_neg h1, hb, tail_txt]
    rfl
  have hwd := pktOf_wide t.data.toList
  cases hr : (pktOf t.data.toList).right
  · rw [pdec_bad hr]
    refine rpd_flat_bad s t _ _ w ho h9 hg hk h1 hkr _ rfl hz hb ?_
    intro w
    have := rpright_any (pktOf t.data.toList) w hwd.2.2.2.2.2
    rw [hr, hp] at this
    exact this
  · by_cases hq : (pktOf t.data.toList).body = t.data.toList
    · rw [pdec_ok h9 hr hq, hp]
      refine rpd_flat_ok s t _ _ w ho h9 hg hk h1 hkr _ rfl hz hb ?_ ?_
      · intro w
        have := rpright_any (pktOf t.data.toList) w hwd.2.2.2.2.2
        rw [hr, hp] at this
        exact this
      · intro w
        have := rbytes_any (pktOf t.data.toList) w hwd hr
        rw [hq, txt_of, hp] at this
        exact this
    · rw [pdec_diff hq]
      refine rpd_flat_diff s t (txt (pktOf t.data.toList).body) _ _ w ho h9 hg hk h1 hkr _ rfl hz hb ?_ ?_ (diff_texts hq)
      · intro w
        have := rpright_any (pktOf t.data.toList) w hwd.2.2.2.2.2
        rw [hr, hp] at this
        exact this
      · intro w
        have := rbytes_any (pktOf t.data.toList) w hwd hr
        rw [hp] at this ⊢
        exact this

theorem rpdec_none (s t : ByteArray) (w : World) (ho : ∀ w, Calls Tryd.prog 30 #[.string s] w fun e w' => e = .returned (.tuple #[.string t, .int .i64 0]) ∧ Below w.heap.size w w') (h9 : 9 ≤ t.size) (hz : (t.size : Int) ≤ 3000) (h1 : ((t.data.toList.getD 0 0).toNat : Int) ≠ 1) (hb : blockK ((t.data.toList.getD 0 0).toNat : Int) = true) (h10 : ¬ 9 < t.size) : Calls Tryd.prog 14 #[.string s] w fun e w' => e = .returned (.tuple #[pktV (pdec t.data.toList).1, .int .i64 (pdec t.data.toList).2]) ∧ Below w.heap.size w w' := by
  have hg := get_num t h9
  have hk : ((t[0]'(by omega)).toNat : Int) = ((t.data.toList.getD 0 0).toNat : Int) := by rw [at_txt t 0 (by omega)]
  have hkr : 0 ≤ ((t.data.toList.getD 0 0).toNat : Int) ∧ ((t.data.toList.getD 0 0).toNat : Int) < 256 := ⟨by omega, by have := (t.data.toList.getD 0 0).toNat_lt; omega⟩
  have hp : pktOf t.data.toList = ⟨((t.data.toList.getD 0 0).toNat : Int), num8 t.data.toList 1, Hel.zero, 0, t.extract 9 t.size⟩ := by
    unfold pktOf
    dsimp only
    rw [if_neg h1, hb, tail_txt, if_neg]
    rw [Bool.true_and, decide_eq_true_eq]
    exact h10
  have hwd := pktOf_wide t.data.toList
  cases hr : (pktOf t.data.toList).right
  · rw [pdec_bad hr]
    refine rpd_none_bad s t _ _ w ho h9 hg hk h1 hkr _ rfl hz hb (by simp; omega) ?_
    intro w
    have := rpright_any (pktOf t.data.toList) w hwd.2.2.2.2.2
    rw [hr, hp] at this
    exact this
  · by_cases hq : (pktOf t.data.toList).body = t.data.toList
    · rw [pdec_ok h9 hr hq, hp]
      refine rpd_none_ok s t _ _ w ho h9 hg hk h1 hkr _ rfl hz hb (by simp; omega) ?_ ?_
      · intro w
        have := rpright_any (pktOf t.data.toList) w hwd.2.2.2.2.2
        rw [hr, hp] at this
        exact this
      · intro w
        have := rbytes_any (pktOf t.data.toList) w hwd hr
        rw [hq, txt_of, hp] at this
        exact this
    · rw [pdec_diff hq]
      refine rpd_none_diff s t (txt (pktOf t.data.toList).body) _ _ w ho h9 hg hk h1 hkr _ rfl hz hb (by simp; omega) ?_ ?_ (diff_texts hq)
      · intro w
        have := rpright_any (pktOf t.data.toList) w hwd.2.2.2.2.2
        rw [hr, hp] at this
        exact this
      · intro w
        have := rbytes_any (pktOf t.data.toList) w hwd hr
        rw [hp] at this ⊢
        exact this

theorem rpdec_blk (s t : ByteArray) (w : World) (ho : ∀ w, Calls Tryd.prog 30 #[.string s] w fun e w' => e = .returned (.tuple #[.string t, .int .i64 0]) ∧ Below w.heap.size w w') (h9 : 9 ≤ t.size) (hz : (t.size : Int) ≤ 3000) (h1 : ((t.data.toList.getD 0 0).toNat : Int) ≠ 1) (hb : blockK ((t.data.toList.getD 0 0).toNat : Int) = true) (h10 : 9 < t.size) : Calls Tryd.prog 14 #[.string s] w fun e w' => e = .returned (.tuple #[pktV (pdec t.data.toList).1, .int .i64 (pdec t.data.toList).2]) ∧ Below w.heap.size w w' := by
  have hg := get_num t h9
  have hk : ((t[0]'(by omega)).toNat : Int) = ((t.data.toList.getD 0 0).toNat : Int) := by rw [at_txt t 0 (by omega)]
  have hkr : 0 ≤ ((t.data.toList.getD 0 0).toNat : Int) ∧ ((t.data.toList.getD 0 0).toNat : Int) < 256 := ⟨by omega, by have := (t.data.toList.getD 0 0).toNat_lt; omega⟩
  have hsz : 0 < (t.extract 9 t.size).size := by simp; omega
  have hy : (t.extract 9 t.size).extract 1 (t.extract 9 t.size).size = txt (t.data.toList.drop 10) := by
    rw [tail_txt (t.extract 9 t.size) 1, tail_txt t 9, txt_data, List.drop_drop]
  have hz0 : (((t.extract 9 t.size)[0]'hsz).toNat : Int) = ((t.data.toList.getD 9 0).toNat : Int) := by
    rw [at_txt (t.extract 9 t.size) 0 hsz, tail_txt t 9, txt_data]
    congr 2
    rw [List.getD_eq_getElem?_getD, List.getD_eq_getElem?_getD, List.getElem?_drop]
  have hzr : 0 ≤ ((t.data.toList.getD 9 0).toNat : Int) ∧ ((t.data.toList.getD 9 0).toNat : Int) < 256 := ⟨by omega, by have := (t.data.toList.getD 9 0).toNat_lt; omega⟩
  have hp : pktOf t.data.toList = ⟨((t.data.toList.getD 0 0).toNat : Int), num8 t.data.toList 1, Hel.zero, ((t.data.toList.getD 9 0).toNat : Int), txt (t.data.toList.drop 10)⟩ := by
    unfold pktOf
    dsimp only
    rw [if_neg h1, hb, if_pos]
    rw [Bool.true_and, decide_eq_true_eq]
    exact h10
  have hwd := pktOf_wide t.data.toList
  cases hr : (pktOf t.data.toList).right
  · rw [pdec_bad hr]
    refine rpd_blk_bad s t _ _ w ho h9 hg hk h1 hkr _ rfl hz _ _ hb hsz hzr hz0 hy ?_
    intro w
    have := rpright_any (pktOf t.data.toList) w hwd.2.2.2.2.2
    rw [hr, hp] at this
    exact this
  · by_cases hq : (pktOf t.data.toList).body = t.data.toList
    · rw [pdec_ok h9 hr hq, hp]
      refine rpd_blk_ok s t _ _ w ho h9 hg hk h1 hkr _ rfl hz _ _ hb hsz hzr hz0 hy ?_ ?_
      · intro w
        have := rpright_any (pktOf t.data.toList) w hwd.2.2.2.2.2
        rw [hr, hp] at this
        exact this
      · intro w
        have := rbytes_any (pktOf t.data.toList) w hwd hr
        rw [hq, txt_of, hp] at this
        exact this
    · rw [pdec_diff hq]
      refine rpd_blk_diff s t (txt (pktOf t.data.toList).body) _ _ w ho h9 hg hk h1 hkr _ rfl hz _ _ hb hsz hzr hz0 hy ?_ ?_ (diff_texts hq)
      · intro w
        have := rpright_any (pktOf t.data.toList) w hwd.2.2.2.2.2
        rw [hr, hp] at this
        exact this
      · intro w
        have := rbytes_any (pktOf t.data.toList) w hwd hr
        rw [hp] at this ⊢
        exact this

theorem rpdecode_any (s : ByteArray) (w : World) (hs : (s.size : Int) ≤ 3000) : Calls Tryd.prog 14 #[.string s] w fun e w' => e = .returned (.tuple #[pktV (decP s).1, .int .i64 (decP s).2]) ∧ Below w.heap.size w w' := by
  have ho := fun w => ropen_any s w hs
  have hts := openT_size s
  unfold decP
  by_cases h0 : openE s = 0
  · rw [if_pos h0]
    rw [h0] at ho
    generalize openT s = t at *
    by_cases h9 : 9 ≤ t.size
    · by_cases h1 : ((t.data.toList.getD 0 0).toNat : Int) = 1
      · exact rpdec_one s t w ho h9 (by omega) h1
      · cases hb : blockK ((t.data.toList.getD 0 0).toNat : Int)
        · exact rpdec_flat s t w ho h9 (by omega) h1 hb
        · by_cases h10 : 9 < t.size
          · exact rpdec_blk s t w ho h9 (by omega) h1 hb h10
          · exact rpdec_none s t w ho h9 (by omega) h1 hb h10
    · rw [pdec_few h9]
      exact rpd_short s t w ho (by omega)
  · rw [if_neg h0]
    exact rpd_open s _ _ w ho (bne_iff_ne.2 h0)

set_option maxRecDepth 100000 in
set_option maxHeartbeats 16000000 in
theorem rprd_no (s : ByteArray) (k l n c b o p : Int) (i r d q : Bool) (m : Nat) (z : Int) (t : ByteArray) (g f : Int) (w : World) (hd : ∀ w, Calls Tryd.prog 14 #[.string s] w fun e w' => e = .returned (.tuple #[.agg #[.int .i64 k, .int .u64 l, .int .i64 n, .int .u64 c, .int .u64 b, .int .u64 o, .int .u64 p, .bool i, .bool r, .bool d, .bool q, .int .u32 (m : Int), .int .i64 z, .string t], .int .i64 f]) ∧ Below w.heap.size w w') (hf : (f != 0) = true) :
    Calls Tryd.prog 16 #[.string s, .int .u64 g] w fun e w' => e = .returned (.tuple #[.agg #[.int .i64 0, .int .u64 0, .int .i64 0, .int .u64 0, .int .u64 0, .int .u64 0, .int .u64 0, .bool false, .bool false, .bool false, .bool false, .int .u32 0, .int .i64 0, .string ⟨#[]⟩], .int .i64 f]) ∧ Below w.heap.size w w' := by
  have HD := Lib.hid hd; clear hd
  have H0 := Lib.hid ((Held.refl w).own [.int .i64 0, .int .u64 0, .int .i64 0, .int .u64 0, .int .u64 0, .int .u64 0, .int .u64 0, .bool false, .bool false, .bool false, .bool false, .int .u32 0, .int .i64 0, .string ⟨#[]⟩] 30 (n := 14) rfl)
  have BR0 := Lib.hid (Box.new w [.int .i64 0, .int .u64 0, .int .i64 0, .int .u64 0, .int .u64 0, .int .u64 0, .int .u64 0, .bool false, .bool false, .bool false, .bool false, .int .u32 0, .int .i64 0, .string ⟨#[]⟩] 30)
  go_enter Tryd.func16, Tryd.ntmps16
  go_wp2_with fail
  refine (HD.out _).mono ?_
  rintro e w1 ⟨rfl, hb⟩
  have kp := (Box.new w1 [.int .i64 k, .int .u64 l, .int .i64 n, .int .u64 c, .int .u64 b, .int .u64 o, .int .u64 p, .bool i, .bool r, .bool d, .bool q, .int .u32 (m : Int), .int .i64 z, .string t] 30).cell
  have H1 := Lib.hid ((H0.out.up hb).alloc (.cells #[.int .i64 k, .int .u64 l, .int .i64 n, .int .u64 c, .int .u64 b, .int .u64 o, .int .u64 p, .bool i, .bool r, .bool d, .bool q, .int .u32 (m : Int), .int .i64 z, .string t] 30))
  have BR1 := Lib.hid ((BR0.out.below hb).alloc (.cells #[.int .i64 k, .int .u64 l, .int .i64 n, .int .u64 c, .int .u64 b, .int .u64 o, .int .u64 p, .bool i, .bool r, .bool d, .bool q, .int .u32 (m : Int), .int .i64 z, .string t] 30))
  clear hb H0 BR0
  have kr := BR1.out.cell
  have fr := BR1.out.frozen
  go_wp2_with fail
  refine bodyPost_ret (v := .tuple #[.agg #[.int .i64 0, .int .u64 0, .int .i64 0, .int .u64 0, .int .u64 0, .int .u64 0, .int .u64 0, .bool false, .bool false, .bool false, .bool false, .int .u32 0, .int .i64 0, .string ⟨#[]⟩], .int .i64 f]) (by simp [results, Tryd.results16, go_sem, kr]) rfl ⟨rfl, ?_⟩
  exact (H1.out.set14 (b := w.heap.size) ⟨14, by simp⟩ _ _ _ _ _ _ _ _ _ _ _ _ _ _).below

set_option maxRecDepth 100000 in
set_option maxHeartbeats 16000000 in
theorem rprd_stale (s : ByteArray) (k l n c b o p : Int) (i r d q : Bool) (m : Nat) (z : Int) (t : ByteArray) (g : Int) (w : World) (hd : ∀ w, Calls Tryd.prog 14 #[.string s] w fun e w' => e = .returned (.tuple #[.agg #[.int .i64 k, .int .u64 l, .int .i64 n, .int .u64 c, .int .u64 b, .int .u64 o, .int .u64 p, .bool i, .bool r, .bool d, .bool q, .int .u32 (m : Int), .int .i64 z, .string t], .int .i64 0]) ∧ Below w.heap.size w w') (hf : (l != g) = true) :
    Calls Tryd.prog 16 #[.string s, .int .u64 g] w fun e w' => e = .returned (.tuple #[.agg #[.int .i64 0, .int .u64 0, .int .i64 0, .int .u64 0, .int .u64 0, .int .u64 0, .int .u64 0, .bool false, .bool false, .bool false, .bool false, .int .u32 0, .int .i64 0, .string ⟨#[]⟩], .int .i64 16]) ∧ Below w.heap.size w w' := by
  have HD := Lib.hid hd; clear hd
  have H0 := Lib.hid ((Held.refl w).own [.int .i64 0, .int .u64 0, .int .i64 0, .int .u64 0, .int .u64 0, .int .u64 0, .int .u64 0, .bool false, .bool false, .bool false, .bool false, .int .u32 0, .int .i64 0, .string ⟨#[]⟩] 30 (n := 14) rfl)
  have BR0 := Lib.hid (Box.new w [.int .i64 0, .int .u64 0, .int .i64 0, .int .u64 0, .int .u64 0, .int .u64 0, .int .u64 0, .bool false, .bool false, .bool false, .bool false, .int .u32 0, .int .i64 0, .string ⟨#[]⟩] 30)
  go_enter Tryd.func16, Tryd.ntmps16
  go_wp2_with fail
  refine (HD.out _).mono ?_
  rintro e w1 ⟨rfl, hb⟩
  have kp := (Box.new w1 [.int .i64 k, .int .u64 l, .int .i64 n, .int .u64 c, .int .u64 b, .int .u64 o, .int .u64 p, .bool i, .bool r, .bool d, .bool q, .int .u32 (m : Int), .int .i64 z, .string t] 30).cell
  have H1 := Lib.hid ((H0.out.up hb).alloc (.cells #[.int .i64 k, .int .u64 l, .int .i64 n, .int .u64 c, .int .u64 b, .int .u64 o, .int .u64 p, .bool i, .bool r, .bool d, .bool q, .int .u32 (m : Int), .int .i64 z, .string t] 30))
  have BR1 := Lib.hid ((BR0.out.below hb).alloc (.cells #[.int .i64 k, .int .u64 l, .int .i64 n, .int .u64 c, .int .u64 b, .int .u64 o, .int .u64 p, .bool i, .bool r, .bool d, .bool q, .int .u32 (m : Int), .int .i64 z, .string t] 30))
  clear hb H0 BR0
  have kr := BR1.out.cell
  have fr := BR1.out.frozen
  go_wp2_with fail
  refine bodyPost_ret (v := .tuple #[.agg #[.int .i64 0, .int .u64 0, .int .i64 0, .int .u64 0, .int .u64 0, .int .u64 0, .int .u64 0, .bool false, .bool false, .bool false, .bool false, .int .u32 0, .int .i64 0, .string ⟨#[]⟩], .int .i64 16]) (by simp [results, Tryd.results16, go_sem, kr]) rfl ⟨rfl, ?_⟩
  exact (H1.out.set14 (b := w.heap.size) ⟨14, by simp⟩ _ _ _ _ _ _ _ _ _ _ _ _ _ _).below

set_option maxRecDepth 100000 in
set_option maxHeartbeats 16000000 in
theorem rprd_ok (s : ByteArray) (k l n c b o p : Int) (i r d q : Bool) (m : Nat) (z : Int) (t : ByteArray) (g : Int) (w : World) (hd : ∀ w, Calls Tryd.prog 14 #[.string s] w fun e w' => e = .returned (.tuple #[.agg #[.int .i64 k, .int .u64 l, .int .i64 n, .int .u64 c, .int .u64 b, .int .u64 o, .int .u64 p, .bool i, .bool r, .bool d, .bool q, .int .u32 (m : Int), .int .i64 z, .string t], .int .i64 0]) ∧ Below w.heap.size w w') (hf : (l != g) = false) :
    Calls Tryd.prog 16 #[.string s, .int .u64 g] w fun e w' => e = .returned (.tuple #[.agg #[.int .i64 k, .int .u64 l, .int .i64 n, .int .u64 c, .int .u64 b, .int .u64 o, .int .u64 p, .bool i, .bool r, .bool d, .bool q, .int .u32 (m : Int), .int .i64 z, .string t], .int .i64 0]) ∧ Below w.heap.size w w' := by
  have HD := Lib.hid hd; clear hd
  have H0 := Lib.hid ((Held.refl w).own [.int .i64 0, .int .u64 0, .int .i64 0, .int .u64 0, .int .u64 0, .int .u64 0, .int .u64 0, .bool false, .bool false, .bool false, .bool false, .int .u32 0, .int .i64 0, .string ⟨#[]⟩] 30 (n := 14) rfl)
  have BR0 := Lib.hid (Box.new w [.int .i64 0, .int .u64 0, .int .i64 0, .int .u64 0, .int .u64 0, .int .u64 0, .int .u64 0, .bool false, .bool false, .bool false, .bool false, .int .u32 0, .int .i64 0, .string ⟨#[]⟩] 30)
  go_enter Tryd.func16, Tryd.ntmps16
  go_wp2_with fail
  refine (HD.out _).mono ?_
  rintro e w1 ⟨rfl, hb⟩
  have kp := (Box.new w1 [.int .i64 k, .int .u64 l, .int .i64 n, .int .u64 c, .int .u64 b, .int .u64 o, .int .u64 p, .bool i, .bool r, .bool d, .bool q, .int .u32 (m : Int), .int .i64 z, .string t] 30).cell
  have H1 := Lib.hid ((H0.out.up hb).alloc (.cells #[.int .i64 k, .int .u64 l, .int .i64 n, .int .u64 c, .int .u64 b, .int .u64 o, .int .u64 p, .bool i, .bool r, .bool d, .bool q, .int .u32 (m : Int), .int .i64 z, .string t] 30))
  have BR1 := Lib.hid ((BR0.out.below hb).alloc (.cells #[.int .i64 k, .int .u64 l, .int .i64 n, .int .u64 c, .int .u64 b, .int .u64 o, .int .u64 p, .bool i, .bool r, .bool d, .bool q, .int .u32 (m : Int), .int .i64 z, .string t] 30))
  clear hb H0 BR0
  have kr := BR1.out.cell
  have fr := BR1.out.frozen
  go_wp2_with fail
  refine bodyPost_ret (v := .tuple #[.agg #[.int .i64 k, .int .u64 l, .int .i64 n, .int .u64 c, .int .u64 b, .int .u64 o, .int .u64 p, .bool i, .bool r, .bool d, .bool q, .int .u32 (m : Int), .int .i64 z, .string t], .int .i64 0]) (by simp [results, Tryd.results16, go_sem, kr]) rfl ⟨rfl, ?_⟩
  exact (H1.out.set14 (b := w.heap.size) ⟨14, by simp⟩ _ _ _ _ _ _ _ _ _ _ _ _ _ _).below

theorem rpread_any (s : ByteArray) (g : Int) (w : World) (hs : (s.size : Int) ≤ 3000) : Calls Tryd.prog 16 #[.string s, .int .u64 g] w fun e w' => e = .returned (.tuple #[pktV (readP s g).1, .int .i64 (readP s g).2]) ∧ Below w.heap.size w w' := by
  have hd := fun w => rpdecode_any s w hs
  unfold readP
  generalize decP s = x at *
  obtain ⟨⟨k, l, ⟨n, c, b, o, p, i, r, d, q, m⟩, z, t⟩, f⟩ := x
  dsimp only [pktV] at *
  by_cases h0 : f = 0
  · subst h0
    rw [if_pos rfl]
    by_cases h1 : l = g
    · rw [if_pos h1]
      exact rprd_ok s k l n c b o p i r d q m z t g w hd (by simp [h1])
    · rw [if_neg h1]
      exact rprd_stale s k l n c b o p i r d q m z t g w hd (by simp [h1])
  · rw [if_neg h0]
    exact rprd_no s k l n c b o p i r d q m z t g f w hd (bne_iff_ne.2 h0)

end Go.Proofs.YtbbcncofdhhflaaDoor
