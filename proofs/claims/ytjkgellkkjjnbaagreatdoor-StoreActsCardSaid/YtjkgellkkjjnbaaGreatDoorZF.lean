/- Stores: what each call of the document's layer 15 answers, plainly, for every disk within what they ask. -/
import Derived.Test.YtjkgellkkjjnbaaGreatDoorZE
namespace Go.Proofs.YtjkgellkkjjnbaaGreatDoor
open Go.RowKit

theorem gives_zero {r : Int} {w : World} {e : Ending} {w' : World} (he : e = .returned (.tuple #[.agg #[.slice none 0 0, .slice none 0 0, .int .i64 0, .bool false, .int .i64 0, .int .u64 0, .int .u64 0, .int .u64 0, .int .u64 0, .bool false, .bool false, .bool false, .int .u32 0], .int .i64 r]) ∧ Below w.heap.size w w') : GivesS Sto.zero r w e w' :=
  ⟨none, 0, none, 0, he.1, mem_nil _, he.2⟩

theorem att_bad {s : List ByteArray} {c : List Wr} {f : Int} {x : Bool} {e : Int} (h : attE s c x = e) (he : e ≠ 0) : att s c f x = Sto.zero := by
  unfold att
  rw [h, if_neg he]
theorem att_good {s : List ByteArray} {c : List Wr} {f : Int} {x : Bool} (h : attE s c x = 0) : att s c f x = ⟨s, c, f, x, (loadD s c x (s.getD 0 e0)).1, (loadB s c x).1⟩ := by
  unfold att
  rw [if_pos h]

theorem rzattach_any (A B : Option Addr) (n m : Nat) (s : List ByteArray) (c : List Wr) (f : Int) (x : Bool) (w : World) (hm : Mem w A n B m s c) (hF : Fit s c f) : Calls Tryz.prog 11 #[.agg #[.slice A s.length n, .slice B c.length m, .int .i64 f, .bool x]] w (GivesS (att s c f x) (attE s c x) w) := by
  have hR1 := fun (v : World) (hb : Below w.heap.size w v) => rload_any A B n m s c f x (s.getD 0 e0) v (hm.up hb) hF.first hF.l64 (by have := hF.c9; omega) (hF.hold 0 0)
  have hR2 := fun (v : World) (hb : Below w.heap.size w v) => rbload_any A B n m s c f x v (hm.up hb) hF.l64 (by have := hF.c9; omega) (hF.hold 1 1)
  have hR3 := fun (v : World) (hb : Below w.heap.size w v) => raall_any A B n m s c f x v (hm.up hb) hF.l64 (by have := hF.c9; omega)
  by_cases h1 : (loadD s c x (s.getD 0 e0)).2 = 0
  · by_cases h2 : (loadB s c x).2 = 0
    · by_cases h3 : (allA s c x).2 = 0
      · have e : attE s c x = 0 := by unfold attE; rw [if_pos h1, if_pos h2, h3]
        rw [att_good e, e]
        exact (rzattach_yes A B n m s c f x _ _ _ _ _ _ w hR1 hR2 hR3 h1 h2 h3).mono fun _ _ h => ⟨A, n, B, m, h.1, hm.up h.2, h.2⟩
      · have e : attE s c x = (allA s c x).2 := by unfold attE; rw [if_pos h1, if_pos h2]
        rw [att_bad e h3, e]
        exact (rzattach_bad3 A B n m s c f x _ _ _ _ _ _ w hR1 hR2 hR3 h1 h2 h3).mono fun _ _ h => gives_zero h
    · have e : attE s c x = (loadB s c x).2 := by unfold attE; rw [if_pos h1, if_neg h2]
      rw [att_bad e h2, e]
      exact (rzattach_bad2 A B n m s c f x _ _ _ _ w hR1 hR2 h1 h2).mono fun _ _ h => gives_zero h
  · have e : attE s c x = (loadD s c x (s.getD 0 e0)).2 := by unfold attE; rw [if_neg h1]
    rw [att_bad e h1, e]
    exact (rzattach_bad1 A B n m s c f x _ _ w hR1 h1).mono fun _ _ h => gives_zero h

theorem on_yes {s : List ByteArray} {c : List Wr} {f : Int} {x : Bool} {b q : Sup} {k l : Nat} {R : Ans} (h : R.e = 0) : Sto.on ⟨s, c, f, x, b, k⟩ R q l = ⟨R.s, R.c, R.f, R.x, q, l⟩ := by
  unfold Sto.on
  rw [if_pos h, if_pos h]
theorem on_no {s : List ByteArray} {c : List Wr} {f : Int} {x : Bool} {b q : Sup} {k l : Nat} {R : Ans} (h : R.e ≠ 0) : Sto.on ⟨s, c, f, x, b, k⟩ R q l = ⟨R.s, R.c, R.f, R.x, b, k⟩ := by
  unfold Sto.on
  rw [if_neg h, if_neg h]

theorem gives_st {t : Sto} {r : Int} {w : World} {e : Ending} {w' : World} (h : ∃ A1 B1 n1 m1, e = .returned (.tuple #[toV t A1 n1 B1 m1, .int .i64 r]) ∧ Mem w' A1 n1 B1 m1 t.s t.c ∧ Below w.heap.size w w') : GivesS t r w e w' := by
  obtain ⟨A1, B1, n1, m1, h1, h2, h3⟩ := h
  exact ⟨A1, n1, B1, m1, h1, h2, h3⟩

theorem rzcommit_any (A B : Option Addr) (n m : Nat) (s : List ByteArray) (c : List Wr) (f : Int) (x : Bool) (b : Sup) (k : Nat) (q : Sup) (w : World) (hm : Mem w A n B m s c) (hF : Fit s c f) (hw : q.wide) : Calls Tryz.prog 41 #[toV ⟨s, c, f, x, b, k⟩ A n B m, supV q] w (GivesS (Sto.commit ⟨s, c, f, x, b, k⟩ q).1 (Sto.commit ⟨s, c, f, x, b, k⟩ q).2 w) := by
  unfold Sto.commit
  by_cases hq : q.same b = true
  · rw [if_pos hq]
    exact (rzcommit_same A B n m s c f x b k q w hq).mono fun _ _ h => ⟨A, n, B, m, h.1, hm.up h.2, h.2⟩
  · rw [if_neg hq]
    have hR := fun (v : World) (hb : Below w.heap.size w v) => rcommit_any A B n m s c f x q v (hm.up hb) hw hF.l1 hF.l64 hF.c9 hF.fu hF.mis
    have hq2 : q.same b = false := by simpa using hq
    by_cases he : (commitD s c f x q).e = 0
    · rw [on_yes he, he]
      refine (rzcommit_yes A B n m s c f x b k q w hq2 _ he hR).mono fun _ _ h => gives_st ?_
      rw [he] at h
      exact h
    · rw [on_no he]
      exact (rzcommit_no A B n m s c f x b k q w hq2 _ he hR).mono fun _ _ h => gives_st h

theorem rzsave_any (A B : Option Addr) (n m : Nat) (s : List ByteArray) (c : List Wr) (f : Int) (x : Bool) (b : Sup) (k : Nat) (k2 : Nat) (w : World) (hm : Mem w A n B m s c) (hF : Fit s c f) (hk : k2 < 4294967296) : Calls Tryz.prog 74 #[toV ⟨s, c, f, x, b, k⟩ A n B m, .int .u32 k2] w (GivesS (Sto.save ⟨s, c, f, x, b, k⟩ k2).1 (Sto.save ⟨s, c, f, x, b, k⟩ k2).2 w) := by
  unfold Sto.save
  by_cases hq : k2 = k
  · rw [if_pos hq]
    subst hq
    exact (rzsave_same A B n m s c f x b k2 w).mono fun _ _ h => ⟨A, n, B, m, h.1, hm.up h.2, h.2⟩
  · rw [if_neg hq]
    have hR := fun (v : World) (hb : Below w.heap.size w v) => rbsave_any A B n m s c f x k2 v (hm.up hb) hk hF.l64 hF.c9 hF.fu hF.mis
    by_cases he : (saveB s c f x k2).e = 0
    · rw [on_yes he, he]
      refine (rzsave_yes A B n m s c f x b k k2 w hq _ he hR).mono fun _ _ h => gives_st ?_
      rw [he] at h
      exact h
    · rw [on_no he]
      exact (rzsave_no A B n m s c f x b k k2 w hq _ he hR).mono fun _ _ h => gives_st h

theorem save_is (s : List ByteArray) (c : List Wr) (f : Int) (x : Bool) (b : Sup) (k k2 : Nat) : ∃ s1 c1 f1 x1 k1 e1, Sto.save ⟨s, c, f, x, b, k⟩ k2 = (⟨s1, c1, f1, x1, b, k1⟩, e1) := by
  unfold Sto.save
  split
  · exact ⟨_, _, _, _, _, _, rfl⟩
  · exact ⟨_, _, _, _, _, _, by unfold Sto.on; rw [ite_self]⟩

theorem out_yes {s : List ByteArray} {c : List Wr} {f : Int} {x : Bool} {b : Sup} {k : Nat} {i : Int} (h : Sto.out ⟨s, c, f, x, b, k⟩ i = true) : i < 0 ∨ b.n ≤ i := by
  unfold Sto.out at h
  simpa using h
theorem out_no {s : List ByteArray} {c : List Wr} {f : Int} {x : Bool} {b : Sup} {k : Nat} {i : Int} (h : ¬ Sto.out ⟨s, c, f, x, b, k⟩ i = true) : ¬ i < 0 ∧ ¬ b.n ≤ i := by
  unfold Sto.out at h
  simpa using h

theorem rzmark_any (A B : Option Addr) (n m : Nat) (s : List ByteArray) (c : List Wr) (f : Int) (x : Bool) (b : Sup) (k : Nat) (i : Int) (w : World) (hm : Mem w A n B m s c) (hF : Fit s c f) (hk : k < 4294967296) : Calls Tryz.prog 37 #[toV ⟨s, c, f, x, b, k⟩ A n B m, .int .i64 i] w (GivesS (Sto.mark ⟨s, c, f, x, b, k⟩ i).1 (Sto.mark ⟨s, c, f, x, b, k⟩ i).2 w) := by
  unfold Sto.mark
  by_cases ho : Sto.out ⟨s, c, f, x, b, k⟩ i = true
  · rw [if_pos ho]
    exact (rzmark_out A B n m s c f x b k i w (out_yes ho)).mono fun _ _ h => ⟨A, n, B, m, h.1, hm.up h.2, h.2⟩
  · rw [if_neg ho]
    have hR := fun (v : World) (hb : Below w.heap.size w v) => rzsave_any A B n m s c f x b k (setB k [i]) v (hm.up hb) hF (setB_lt hk _)
    obtain ⟨s1, c1, f1, x1, k1, e1, hs⟩ := save_is s c f x b k (setB k [i])
    have hs2 : (Sto.save ⟨s, c, f, x, b, k⟩ (setB (Sto.m ⟨s, c, f, x, b, k⟩) [i])) = _ := hs
    rw [hs2]
    rw [hs] at hR
    exact (rzmark_in A B n m s c f x b k i w (out_no ho).1 (out_no ho).2 hk s1 c1 f1 x1 k1 e1 (fun v hb => (hR v hb).mono fun _ _ h => by
      obtain ⟨A1, n1, B1, m1, g1, g2, g3⟩ := h
      exact ⟨A1, B1, n1, m1, g1, g2, g3⟩)).mono fun _ _ h => gives_st h

theorem rzjoin_any (A B : Option Addr) (n m : Nat) (s : List ByteArray) (c : List Wr) (f : Int) (x : Bool) (b : Sup) (k : Nat) (k2 : Nat) (w : World) (hm : Mem w A n B m s c) (hF : Fit s c f) (hk : k < 4294967296) (hk2 : k2 < 4294967296) : Calls Tryz.prog 39 #[toV ⟨s, c, f, x, b, k⟩ A n B m, .int .u32 k2] w (GivesS (Sto.join ⟨s, c, f, x, b, k⟩ k2).1 (Sto.join ⟨s, c, f, x, b, k⟩ k2).2 w) := by
  have hu : uniB [k, k2] < 4294967296 := uniB_lt _ (by intro y hy; simp at hy; omega)
  have hR := fun (v : World) (hb : Below w.heap.size w v) => rzsave_any A B n m s c f x b k (uniB [k, k2]) v (hm.up hb) hF hu
  obtain ⟨s1, c1, f1, x1, k1, e1, hs⟩ := save_is s c f x b k (uniB [k, k2])
  have hs2 : Sto.join ⟨s, c, f, x, b, k⟩ k2 = _ := hs
  rw [hs2]
  rw [hs] at hR
  exact (rzjoin_at A B n m s c f x b k k2 w hk hk2 s1 c1 f1 x1 k1 e1 (fun v hb => (hR v hb).mono fun _ _ h => by
    obtain ⟨A1, n1, B1, m1, g1, g2, g3⟩ := h
    exact ⟨A1, B1, n1, m1, g1, g2, g3⟩)).mono fun _ _ h => gives_st h

theorem rzwipe_any (A B : Option Addr) (n m : Nat) (s : List ByteArray) (c : List Wr) (f : Int) (x : Bool) (b : Sup) (k : Nat) (i : Int) (w : World) (hm : Mem w A n B m s c) (hF : Fit s c f) (hk : k < 4294967296) : Calls Tryz.prog 38 #[toV ⟨s, c, f, x, b, k⟩ A n B m, .int .i64 i] w (GivesS (Sto.wipe ⟨s, c, f, x, b, k⟩ i).1 (Sto.wipe ⟨s, c, f, x, b, k⟩ i).2 w) := by
  unfold Sto.wipe
  by_cases ho : Sto.out ⟨s, c, f, x, b, k⟩ i = true
  · rw [if_pos ho]
    exact (rzwipe_out A B n m s c f x b k i w (out_yes ho)).mono fun _ _ h => ⟨A, n, B, m, h.1, hm.up h.2, h.2⟩
  · rw [if_neg ho]
    unfold Sto.note
    by_cases hq : clrB k [i] = k
    · rw [if_pos hq]
      exact (rzwipe_same A B n m s c f x b k i w (out_no ho).1 (out_no ho).2 hk hq).mono fun _ _ h => ⟨A, n, B, m, h.1, hm.up h.2, h.2⟩
    · rw [if_neg hq]
      have hR := fun (v : World) (hb : Below w.heap.size w v) => rbnote_any A B n m s c f x (clrB k [i]) v (hm.up hb) (clrB_lt hk _) hF.l64 hF.c9 hF.fu
      by_cases he : (noteB s c f x (clrB k [i])).e = 0
      · rw [on_yes he, he]
        refine (rzwipe_yes A B n m s c f x b k i w (out_no ho).1 (out_no ho).2 hk hq _ he hR).mono fun _ _ h => gives_st ?_
        rw [he] at h
        exact h
      · rw [on_no he]
        exact (rzwipe_no A B n m s c f x b k i w (out_no ho).1 (out_no ho).2 hk hq _ he hR).mono fun _ _ h => gives_st h

theorem rzput_any (A B : Option Addr) (n m : Nat) (s : List ByteArray) (c : List Wr) (f : Int) (x : Bool) (b : Sup) (k : Nat) (i : Int) (d : ByteArray) (w : World) (hm : Mem w A n B m s c) (hF : Fit s c f) : Calls Tryz.prog 40 #[toV ⟨s, c, f, x, b, k⟩ A n B m, .int .i64 i, .string d] w (GivesS (Sto.put ⟨s, c, f, x, b, k⟩ i d).1 (Sto.put ⟨s, c, f, x, b, k⟩ i d).2 w) := by
  have hR := fun (v : World) (hb : Below w.heap.size w v) => raput_any A B n m s c f x i d v (hm.up hb) hF.l64 hF.c9 hF.fu hF.mis
  have e : Sto.put ⟨s, c, f, x, b, k⟩ i d = (⟨(putA s c f x i d).s, (putA s c f x i d).c, (putA s c f x i d).f, (putA s c f x i d).x, b, k⟩, (putA s c f x i d).e) := by
    unfold Sto.put Sto.on
    rw [ite_self, ite_self]
  rw [e]
  exact (rzput_at A B n m s c f x b k i d w _ hR).mono fun _ _ h => gives_st h

/-- Are two stores the same? -/
def Sto.same (t u : Sto) : Bool := sameB t.s u.s t.c u.c t.f u.f t.x u.x && (t.b.same u.b && decide (t.m = u.m))
theorem Sto.same_self (t : Sto) : t.same t = true := by
  unfold Sto.same
  rw [same_is rfl rfl rfl rfl, Sup.same_self, decide_eq_true rfl]
  rfl

theorem rzsame_any (A B : Option Addr) (n m : Nat) (s : List ByteArray) (c : List Wr) (f : Int) (x : Bool) (b : Sup) (k : Nat) (A2 B2 : Option Addr) (n2 m2 : Nat) (s2 : List ByteArray) (c2 : List Wr) (f2 : Int) (x2 : Bool) (b2 : Sup) (k2 : Nat) (w : World) (hm : Mem w A n B m s c) (hm2 : Mem w A2 n2 B2 m2 s2 c2) (hl : s.length ≤ 1000) (_hl2 : s2.length ≤ 1000) (hl3 : c.length ≤ 1000) (_hl4 : c2.length ≤ 1000) :
    Calls Tryz.prog 12 #[toV ⟨s, c, f, x, b, k⟩ A n B m, toV ⟨s2, c2, f2, x2, b2, k2⟩ A2 n2 B2 m2] w fun e w' => e = .returned (.bool (Sto.same ⟨s, c, f, x, b, k⟩ ⟨s2, c2, f2, x2, b2, k2⟩)) ∧ Below w.heap.size w w' := by
  have hR := fun (v : World) (hb : Below w.heap.size w v) => rsame_any A B A2 B2 n m n2 m2 s s2 c c2 f f2 x x2 v (hm.up hb).es (hm.up hb).ws (hm2.up hb).es (hm2.up hb).ws (by unfold maxLen; omega) (by unfold maxLen; omega)
  unfold Sto.same
  cases hq : sameB s s2 c c2 f f2 x x2 with
  | false => exact (rzsame_no1 A B n m s c f x b k A2 B2 n2 m2 s2 c2 f2 x2 b2 k2 w hq hR).mono fun _ _ h => by rw [hq] at h; exact h
  | true =>
    cases hs : b.same b2 with
    | false => exact (rzsame_no2 A B n m s c f x b k A2 B2 n2 m2 s2 c2 f2 x2 b2 k2 w hq hs hR).mono fun _ _ h => by rw [hq, hs] at h; exact h
    | true => exact (rzsame_yes A B n m s c f x b k A2 B2 n2 m2 s2 c2 f2 x2 b2 k2 w hq hs hR).mono fun _ _ h => by rw [hq, hs] at h; exact h

theorem attE_parts {s : List ByteArray} {c : List Wr} {x : Bool} (h : attE s c x = 0) : (loadD s c x (s.getD 0 e0)).2 = 0 ∧ (loadB s c x).2 = 0 ∧ (allA s c x).2 = 0 := by
  unfold attE at h
  by_cases h1 : (loadD s c x (s.getD 0 e0)).2 = 0
  · rw [if_pos h1] at h
    by_cases h2 : (loadB s c x).2 = 0
    · rw [if_pos h2] at h
      exact ⟨h1, h2, h⟩
    · rw [if_neg h2] at h
      exact absurd h h2
  · rw [if_neg h1] at h
    exact absurd h h1

/-- Attached whole, it lies where its disk lay. -/
theorem rzattach_whole (A B : Option Addr) (n m : Nat) {N : Nat} {t : Sto} (hW : Whole N t) (w : World) (hm : Mem w A n B m t.s t.c) (hF : Fit t.s t.c t.f) : Calls Tryz.prog 11 #[.agg #[.slice A t.s.length n, .slice B t.c.length m, .int .i64 t.f, .bool false]] w fun e w' => e = .returned (.tuple #[stV t.s.length t.c.length t.f false t.b t.m A n B m, .int .i64 0]) ∧ Below w.heap.size w w' := by
  have hR1 := fun (v : World) (hb : Below w.heap.size w v) => rload_any A B n m t.s t.c t.f false (t.s.getD 0 e0) v (hm.up hb) hF.first hF.l64 (by have := hF.c9; omega) (hF.hold 0 0)
  have hR2 := fun (v : World) (hb : Below w.heap.size w v) => rbload_any A B n m t.s t.c t.f false v (hm.up hb) hF.l64 (by have := hF.c9; omega) (hF.hold 1 1)
  have hR3 := fun (v : World) (hb : Below w.heap.size w v) => raall_any A B n m t.s t.c t.f false v (hm.up hb) hF.l64 (by have := hF.c9; omega)
  obtain ⟨h1, h2, h3⟩ := attE_parts (whole_attE hW)
  have g := rzattach_yes A B n m t.s t.c t.f false _ _ _ _ _ _ w hR1 hR2 hR3 h1 h2 h3
  rw [whole_loadD hW, whole_loadB hW] at g
  exact g

theorem right_fine {N : Nat} {s : List ByteArray} {c : List Wr} {f : Int} (h : Fine N s c) (hf : 0 ≤ f) : rightB s c f = true := by
  have h1 := h.len
  have h2 := h.n32
  have h3 := h.long
  have h4 := h.misfit
  unfold rightB
  rw [h3, h4]
  simp
  omega

theorem rzwhole_any (A B : Option Addr) (n m : Nat) {N : Nat} {t : Sto} (hW : Whole N t) (w : World) (hm : Mem w A n B m t.s t.c) (hF : Fit t.s t.c t.f) : Calls Tryz.prog 19 #[toV t A n B m] w fun e w' => e = .returned (.bool true) ∧ Below w.heap.size w w' := by
  have hR1 := fun (v : World) (hb : Below w.heap.size w v) => rright_any A B n m t.s t.c t.f false v (hm.up hb).es (hm.up hb).ws (by have := hF.c9; unfold maxLen; omega)
  have hR2 := fun (v : World) (hb : Below w.heap.size w v) => rzattach_whole A B n m hW v (hm.up hb) hF
  rw [right_fine hW.fine hW.f0] at hR1
  have g := rzwhole_at A B n m t.s t.c t.f t.b t.m w hR1 hR2
  have hx := hW.live
  obtain ⟨s, c, f, x, b, k⟩ := t
  dsimp only at hx
  subst hx
  exact g

theorem rznew_any {N : Nat} (h1 : 1 ≤ N) (h2 : N ≤ 32) (w : World) : Calls Tryz.prog 15 #[.int .i64 (N : Int)] w fun e w' => ∃ A1 n1 B1 m1, e = .returned (toV (newS N) A1 n1 B1 m1) ∧ Mem w' A1 n1 B1 m1 (newS N).s [] ∧ Below w.heap.size w w' := by
  have hW := whole_new h1 h2
  have hF := hW.fine.fit (f := (newS N).f) (by simp [newS]) (by show (0 : Int) < 9223372036854775808; decide)
  have hR1 := fun v => rfmt_any (N : Int) 7 v (by decide) (by decide)
  rw [fmt_new h1 h2] at hR1
  exact rznew_at (N : Int) w (newS N).s [] 0 false 0 (newS N).b (newS N).m 0 hR1 (fun A1 B1 n1 m1 v hm => rzattach_whole A1 B1 n1 m1 hW v hm hF)

end Go.Proofs.YtjkgellkkjjnbaaGreatDoor
