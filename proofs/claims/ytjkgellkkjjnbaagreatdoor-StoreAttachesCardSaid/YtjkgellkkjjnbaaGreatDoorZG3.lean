/- Stores: what each call of the code's layer 15 answers, plainly, for every disk within what they ask. -/
import Derived.Test.YtjkgellkkjjnbaaGreatDoorZG2
import Derived.Test.YtjkgellkkjjnbaaGreatDoorZF
namespace Go.Proofs.YtjkgellkkjjnbaaGreatDoor
open Go.RowKit

theorem uni_set (k : Nat) (i : Int) : uniB [k, setB 0 [i]] = setB k [i] := by
  unfold uniB setB
  simp
theorem clr_no {k : Nat} {i : Int} (hk : k < 4294967296) (h : hasB k i = false) : clrB k [i] = k := by
  have e1 : ofB [i] = oneB i := by simp [ofB]
  unfold clrB
  rw [e1]
  exact clr_none k i hk h
theorem clr_yes {k : Nat} {i : Int} (hk : k < 4294967296) (h : hasB k i = true) : clrB k [i] ≠ k := by
  have e1 : ofB [i] = oneB i := by simp [ofB]
  obtain ⟨h1, h2⟩ := clr_had k i hk h
  have h3 : 0 < 2 ^ i.toNat := Nat.two_pow_pos _
  unfold clrB
  rw [e1, ← h2]
  omega

theorem zattach_any (A B : Option Addr) (n m : Nat) (s : List ByteArray) (c : List Wr) (f : Int) (x : Bool) (w : World) (hm : Mem w A n B m s c) (hF : Fit s c f) (a : Addr) (hg : Glob w a) : Calls Tryz.prog 10 #[.agg #[.slice A s.length n, .slice B c.length m, .int .i64 f, .bool x]] w (GivesS (att s c f x) (attE s c x) w) := by
  have hR1 := fun (v : World) (hb : Below w.heap.size w v) => load_any A B n m s c f x (s.getD 0 e0) a v (hm.up hb) hF.first hF.l64 (by have := hF.c9; omega) (hF.hold 0 0) (hg.up hb)
  have hR2 := fun (v : World) (hb : Below w.heap.size w v) => bload_any A B n m s c f x v (hm.up hb) hF.l64 (by have := hF.c9; omega) (hF.hold 1 1)
  have hR3 := fun (v : World) (hb : Below w.heap.size w v) => aall_any A B n m s c f x v (hm.up hb) hF.l64 (by have := hF.c9; omega)
  by_cases h1 : (loadD s c x (s.getD 0 e0)).2 = 0
  · by_cases h2 : (loadB s c x).2 = 0
    · by_cases h3 : (allA s c x).2 = 0
      · have e : attE s c x = 0 := by unfold attE; rw [if_pos h1, if_pos h2, h3]
        rw [att_good e, e]
        exact (zattach_yes A B n m s c f x _ _ _ _ _ _ w hR1 hR2 hR3 h1 h2 h3).mono fun _ _ h => ⟨A, n, B, m, h.1, hm.up h.2, h.2⟩
      · have e : attE s c x = (allA s c x).2 := by unfold attE; rw [if_pos h1, if_pos h2]
        rw [att_bad e h3, e]
        exact (zattach_bad3 A B n m s c f x _ _ _ _ _ _ w hR1 hR2 hR3 h1 h2 h3).mono fun _ _ h => gives_zero h
    · have e : attE s c x = (loadB s c x).2 := by unfold attE; rw [if_pos h1, if_neg h2]
      rw [att_bad e h2, e]
      exact (zattach_bad2 A B n m s c f x _ _ _ _ w hR1 hR2 h1 h2).mono fun _ _ h => gives_zero h
  · have e : attE s c x = (loadD s c x (s.getD 0 e0)).2 := by unfold attE; rw [if_neg h1]
    rw [att_bad e h1, e]
    exact (zattach_bad1 A B n m s c f x _ _ w hR1 h1).mono fun _ _ h => gives_zero h

theorem zcommit_any (A B : Option Addr) (n m : Nat) (s : List ByteArray) (c : List Wr) (f : Int) (x : Bool) (b : Sup) (k : Nat) (q : Sup) (w : World) (hm : Mem w A n B m s c) (hF : Fit s c f) (hw : q.wide) : Calls Tryz.prog 26 #[toV ⟨s, c, f, x, b, k⟩ A n B m, supV q] w (GivesS (Sto.commit ⟨s, c, f, x, b, k⟩ q).1 (Sto.commit ⟨s, c, f, x, b, k⟩ q).2 w) := by
  unfold Sto.commit
  by_cases hq : q.same b = true
  · rw [if_pos hq]
    exact (zcommit_same A B n m s c f x b k q w hq).mono fun _ _ h => ⟨A, n, B, m, h.1, hm.up h.2, h.2⟩
  · rw [if_neg hq]
    have hR := fun (v : World) (hb : Below w.heap.size w v) => commit_any A B n m s c f x q v (hm.up hb) hw hF.l1 hF.l64 hF.c9 hF.fu hF.mis
    have hq2 : q.same b = false := by simpa using hq
    by_cases he : (commitD s c f x q).e = 0
    · rw [on_yes he, he]
      refine (zcommit_yes A B n m s c f x b k q w hq2 _ he hR).mono fun _ _ h => gives_st ?_
      rw [he] at h
      exact h
    · rw [on_no he]
      exact (zcommit_no A B n m s c f x b k q w hq2 _ he hR).mono fun _ _ h => gives_st h

theorem zput_any (A B : Option Addr) (n m : Nat) (s : List ByteArray) (c : List Wr) (f : Int) (x : Bool) (b : Sup) (k : Nat) (i : Int) (d : ByteArray) (w : World) (hm : Mem w A n B m s c) (hF : Fit s c f) : Calls Tryz.prog 24 #[toV ⟨s, c, f, x, b, k⟩ A n B m, .int .i64 i, .string d] w (GivesS (Sto.put ⟨s, c, f, x, b, k⟩ i d).1 (Sto.put ⟨s, c, f, x, b, k⟩ i d).2 w) := by
  have hR := fun (v : World) (hb : Below w.heap.size w v) => aput_any A B n m s c f x i d v (hm.up hb) hF.l64 hF.c9 hF.fu hF.mis
  have e : Sto.put ⟨s, c, f, x, b, k⟩ i d = (⟨(putA s c f x i d).s, (putA s c f x i d).c, (putA s c f x i d).f, (putA s c f x i d).x, b, k⟩, (putA s c f x i d).e) := by
    unfold Sto.put Sto.on
    rw [ite_self, ite_self]
  rw [e]
  exact (zput_at A B n m s c f x b k i d w _ hR).mono fun _ _ h => gives_st h

theorem zsame_any (A B : Option Addr) (n m : Nat) (s : List ByteArray) (c : List Wr) (f : Int) (x : Bool) (b : Sup) (k : Nat) (A2 B2 : Option Addr) (n2 m2 : Nat) (s2 : List ByteArray) (c2 : List Wr) (f2 : Int) (x2 : Bool) (b2 : Sup) (k2 : Nat) (w : World) (hm : Mem w A n B m s c) (hm2 : Mem w A2 n2 B2 m2 s2 c2) (hl : s.length ≤ 1000) (hl2 : s2.length ≤ 1000) (hl3 : c.length ≤ 1000) (hl4 : c2.length ≤ 1000) :
    Calls Tryz.prog 13 #[toV ⟨s, c, f, x, b, k⟩ A n B m, toV ⟨s2, c2, f2, x2, b2, k2⟩ A2 n2 B2 m2] w fun e w' => e = .returned (.bool (Sto.same ⟨s, c, f, x, b, k⟩ ⟨s2, c2, f2, x2, b2, k2⟩)) ∧ Below w.heap.size w w' := by
  have hR := fun (v : World) (hb : Below w.heap.size w v) => same_any A B A2 B2 n m n2 m2 s s2 c c2 f f2 x x2 v (hm.up hb).es (hm.up hb).ws (hm2.up hb).es (hm2.up hb).ws (by unfold maxLen; omega) (by unfold maxLen; omega) (by unfold maxLen; omega) (by unfold maxLen; omega)
  unfold Sto.same
  cases hq : sameB s s2 c c2 f f2 x x2 with
  | false => exact (zsame_no1 A B n m s c f x b k A2 B2 n2 m2 s2 c2 f2 x2 b2 k2 w hq hR).mono fun _ _ h => by rw [hq] at h; exact h
  | true =>
    cases hs : b.same b2 with
    | false => exact (zsame_no2 A B n m s c f x b k A2 B2 n2 m2 s2 c2 f2 x2 b2 k2 w hq hs hR).mono fun _ _ h => by rw [hq, hs] at h; exact h
    | true => exact (zsame_yes A B n m s c f x b k A2 B2 n2 m2 s2 c2 f2 x2 b2 k2 w hq hs hR).mono fun _ _ h => by rw [hq, hs] at h; exact h

theorem zrsave_any (A B : Option Addr) (n m : Nat) (s : List ByteArray) (c : List Wr) (f : Int) (x : Bool) (b : Sup) (k : Nat) (k2 : Nat) (w : World) (hm : Mem w A n B m s c) (hF : Fit s c f) (hk : k2 < 4294967296) (hq : k2 ≠ k) : Calls Tryz.prog 46 #[toV ⟨s, c, f, x, b, k⟩ A n B m, .int .u32 k2, .func (.func 53) #[] #[]] w (GivesS (Sto.save ⟨s, c, f, x, b, k⟩ k2).1 (Sto.save ⟨s, c, f, x, b, k⟩ k2).2 w) := by
  unfold Sto.save
  rw [if_neg hq]
  have hR := fun (v : World) (hb : Below w.heap.size w v) => bsave_any A B n m s c f x k2 v (hm.up hb) hk hF.l64 hF.c9 hF.fu hF.mis
  by_cases he : (saveB s c f x k2).e = 0
  · rw [on_yes he, he]
    refine (zrsave_yes A B n m s c f x b k k2 w _ he hR).mono fun _ _ h => gives_st ?_
    rw [he] at h
    exact h
  · rw [on_no he]
    exact (zrsave_no A B n m s c f x b k k2 w _ he hR).mono fun _ _ h => gives_st h

theorem zrnote_any (A B : Option Addr) (n m : Nat) (s : List ByteArray) (c : List Wr) (f : Int) (x : Bool) (b : Sup) (k : Nat) (k2 : Nat) (w : World) (hm : Mem w A n B m s c) (hF : Fit s c f) (hk : k2 < 4294967296) (hq : k2 ≠ k) : Calls Tryz.prog 46 #[toV ⟨s, c, f, x, b, k⟩ A n B m, .int .u32 k2, .func (.func 48) #[] #[]] w (GivesS (Sto.note ⟨s, c, f, x, b, k⟩ k2).1 (Sto.note ⟨s, c, f, x, b, k⟩ k2).2 w) := by
  unfold Sto.note
  rw [if_neg hq]
  have hR := fun (v : World) (hb : Below w.heap.size w v) => bnote_any A B n m s c f x k2 v (hm.up hb) hk hF.l64 hF.c9 hF.fu
  by_cases he : (noteB s c f x k2).e = 0
  · rw [on_yes he, he]
    refine (zrnote_yes A B n m s c f x b k k2 w _ he hR).mono fun _ _ h => gives_st ?_
    rw [he] at h
    exact h
  · rw [on_no he]
    exact (zrnote_no A B n m s c f x b k k2 w _ he hR).mono fun _ _ h => gives_st h

theorem note_is (s : List ByteArray) (c : List Wr) (f : Int) (x : Bool) (b : Sup) (k k2 : Nat) : ∃ s1 c1 f1 x1 k1 e1, Sto.note ⟨s, c, f, x, b, k⟩ k2 = (⟨s1, c1, f1, x1, b, k1⟩, e1) := by
  unfold Sto.note
  split
  · exact ⟨_, _, _, _, _, _, rfl⟩
  · exact ⟨_, _, _, _, _, _, by unfold Sto.on; rw [ite_self]⟩

theorem zjoin_any (A B : Option Addr) (n m : Nat) (s : List ByteArray) (c : List Wr) (f : Int) (x : Bool) (b : Sup) (k : Nat) (k2 : Nat) (w : World) (hm : Mem w A n B m s c) (hF : Fit s c f) (hk : k < 4294967296) (hk2 : k2 < 4294967296) : Calls Tryz.prog 27 #[toV ⟨s, c, f, x, b, k⟩ A n B m, .int .u32 k2] w (GivesS (Sto.join ⟨s, c, f, x, b, k⟩ k2).1 (Sto.join ⟨s, c, f, x, b, k⟩ k2).2 w) := by
  have hu : uniB [k, k2] < 4294967296 := uniB_lt _ (by intro y hy; simp at hy; omega)
  by_cases hq : uniB [k, k2] = k
  · have e : Sto.join ⟨s, c, f, x, b, k⟩ k2 = (⟨s, c, f, x, b, k⟩, 0) := by
      unfold Sto.join Sto.save
      rw [if_pos hq]
    rw [e]
    exact (zjoin_same A B n m s c f x b k k2 w hk hk2 hq).mono fun _ _ h => ⟨A, n, B, m, h.1, hm.up h.2, h.2⟩
  · have hR := fun (v : World) (hb : Below w.heap.size w v) => zrsave_any A B n m s c f x b k (uniB [k, k2]) v (hm.up hb) hF hu hq
    obtain ⟨s1, c1, f1, x1, k1, e1, hs⟩ := save_is s c f x b k (uniB [k, k2])
    have hs2 : Sto.join ⟨s, c, f, x, b, k⟩ k2 = _ := hs
    rw [hs2]
    rw [hs] at hR
    exact (zjoin_do A B n m s c f x b k k2 w hk hk2 hq s1 c1 f1 x1 k1 e1 (fun v hb => (hR v hb).mono fun _ _ h => by
      obtain ⟨A1, n1, B1, m1, g1, g2, g3⟩ := h
      exact ⟨A1, B1, n1, m1, g1, g2, g3⟩)).mono fun _ _ h => gives_st h

theorem zmark_any (A B : Option Addr) (n m : Nat) (s : List ByteArray) (c : List Wr) (f : Int) (x : Bool) (b : Sup) (k : Nat) (i : Int) (w : World) (hm : Mem w A n B m s c) (hF : Fit s c f) (hk : k < 4294967296) : Calls Tryz.prog 22 #[toV ⟨s, c, f, x, b, k⟩ A n B m, .int .i64 i] w (GivesS (Sto.mark ⟨s, c, f, x, b, k⟩ i).1 (Sto.mark ⟨s, c, f, x, b, k⟩ i).2 w) := by
  have hH := fun v => zhas_any A B n m s c f x b k i v
  unfold Sto.mark
  by_cases ho : Sto.out ⟨s, c, f, x, b, k⟩ i = true
  · rw [if_pos ho]
    rw [ho] at hH
    exact (zmark_out A B n m s c f x b k i w hH).mono fun _ _ h => ⟨A, n, B, m, h.1, hm.up h.2, h.2⟩
  · rw [if_neg ho]
    rw [show Sto.out ⟨s, c, f, x, b, k⟩ i = false by simpa using ho] at hH
    have hR := fun (v : World) (hb : Below w.heap.size w v) => zjoin_any A B n m s c f x b k (setB 0 [i]) v (hm.up hb) hF hk (setB_lt (by decide) _)
    have hj : Sto.join ⟨s, c, f, x, b, k⟩ (setB 0 [i]) = Sto.save ⟨s, c, f, x, b, k⟩ (setB k [i]) := by
      unfold Sto.join
      rw [show (⟨s, c, f, x, b, k⟩ : Sto).m = k from rfl, uni_set]
    obtain ⟨s1, c1, f1, x1, k1, e1, hs⟩ := save_is s c f x b k (setB k [i])
    have hs2 : (Sto.save ⟨s, c, f, x, b, k⟩ (setB (Sto.m ⟨s, c, f, x, b, k⟩) [i])) = _ := hs
    rw [hs2]
    rw [hj, hs] at hR
    exact (zmark_in A B n m s c f x b k i w hH s1 c1 f1 x1 k1 e1 (fun v hb => (hR v hb).mono fun _ _ h => by
      obtain ⟨A1, n1, B1, m1, g1, g2, g3⟩ := h
      exact ⟨A1, B1, n1, m1, g1, g2, g3⟩)).mono fun _ _ h => gives_st h

theorem zwipe_any (A B : Option Addr) (n m : Nat) (s : List ByteArray) (c : List Wr) (f : Int) (x : Bool) (b : Sup) (k : Nat) (i : Int) (w : World) (hm : Mem w A n B m s c) (hF : Fit s c f) (hk : k < 4294967296) : Calls Tryz.prog 23 #[toV ⟨s, c, f, x, b, k⟩ A n B m, .int .i64 i] w (GivesS (Sto.wipe ⟨s, c, f, x, b, k⟩ i).1 (Sto.wipe ⟨s, c, f, x, b, k⟩ i).2 w) := by
  have hH := fun v => zhas_any A B n m s c f x b k i v
  have hM := fun v => has_any k i v hk
  unfold Sto.wipe
  by_cases ho : Sto.out ⟨s, c, f, x, b, k⟩ i = true
  · rw [if_pos ho]
    rw [ho] at hH
    exact (zwipe_out A B n m s c f x b k i w hH).mono fun _ _ h => ⟨A, n, B, m, h.1, hm.up h.2, h.2⟩
  · rw [if_neg ho]
    rw [show Sto.out ⟨s, c, f, x, b, k⟩ i = false by simpa using ho] at hH
    rw [show (⟨s, c, f, x, b, k⟩ : Sto).m = k from rfl]
    cases hh : hasB k i with
    | false =>
      rw [hh] at hM
      have e : Sto.note ⟨s, c, f, x, b, k⟩ (clrB k [i]) = (⟨s, c, f, x, b, k⟩, 0) := by
        unfold Sto.note
        rw [if_pos (clr_no hk hh)]
      rw [e]
      exact (zwipe_same A B n m s c f x b k i w hH hM).mono fun _ _ h => ⟨A, n, B, m, h.1, hm.up h.2, h.2⟩
    | true =>
      rw [hh] at hM
      have hR := fun (v : World) (hb : Below w.heap.size w v) => zrnote_any A B n m s c f x b k (clrB k [i]) v (hm.up hb) hF (clrB_lt hk _) (clr_yes hk hh)
      obtain ⟨s1, c1, f1, x1, k1, e1, hs⟩ := note_is s c f x b k (clrB k [i])
      rw [hs] at hR ⊢
      exact (zwipe_do A B n m s c f x b k i w hk hH hM s1 c1 f1 x1 k1 e1 (fun v hb => (hR v hb).mono fun _ _ h => by
        obtain ⟨A1, n1, B1, m1, g1, g2, g3⟩ := h
        exact ⟨A1, B1, n1, m1, g1, g2, g3⟩)).mono fun _ _ h => gives_st h

end Go.Proofs.YtjkgellkkjjnbaaGreatDoor
