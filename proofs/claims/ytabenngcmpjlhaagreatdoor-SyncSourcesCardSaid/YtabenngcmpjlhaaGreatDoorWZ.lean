/- A target that gets what it wants, one block behind the other, wherever its disk's fuse ends it: half copied, or it has them all. No program in it. -/
import Derived.Test.YtabenngcmpjlhaaGreatDoorWJ
import Derived.Test.YtabenngcmpjlhaaGreatDoorXQ
namespace Go.Proofs.YtabenngcmpjlhaaGreatDoor
open Go.RowKit
theorem count_without (p : Nat → Bool) (w : Nat) : ∀ n, (List.range n).countP p = (List.range n).countP (fun j => p j && decide (j ≠ w)) + (if w < n ∧ p w = true then 1 else 0)
  | 0 => by simp
  | n + 1 => by
    rw [List.range_succ, List.countP_append, List.countP_append, count_without p w n, List.countP_singleton, List.countP_singleton]
    by_cases e : n = w
    · subst e
      rw [if_neg (by omega)]
      cases hp : p n <;> simp
    · have e1 : decide (n ≠ w) = true := decide_eq_true e
      rw [e1, Bool.and_true]
      by_cases h : w < n ∧ p w = true
      · have h' : w < n + 1 ∧ p w = true := ⟨by omega, h.2⟩
        rw [if_pos h, if_pos h']
        omega
      · have h' : ¬ (w < n + 1 ∧ p w = true) := fun h2 => h ⟨by omega, h2.2⟩
        rw [if_neg h, if_neg h']
        omega
def cntM (m : Nat) : Nat := (List.range 32).countP m.testBit
def cntB (m w : Nat) : Nat := (List.range 32).countP fun j => m.testBit j && decide (j ≠ w)
theorem cnt_without {m w : Nat} (hw : w < 32) (hb : m.testBit w = true) : cntM m = cntB m w + 1 := by
  unfold cntM cntB
  rw [count_without m.testBit w 32, if_pos ⟨hw, hb⟩]
theorem cnt_le (m w : Nat) : cntM m ≤ cntB m w + 1 := by
  unfold cntM cntB
  rw [count_without m.testBit w 32]
  split <;> omega
theorem cntB_le (m w : Nat) : cntB m w ≤ 32 := by
  have := List.countP_le_length (p := fun j => m.testBit j && decide (j ≠ w)) (l := List.range 32)
  rw [List.length_range] at this
  exact this
theorem clr_at {m : Nat} (hm : m < 4294967296) (w j : Nat) : (clrB m [(w : Int)]).testBit j = (m.testBit j && decide (j ≠ w)) := by
  rw [clrB_bit m _ j hm]
  congr 1
  by_cases e : j = w
  · subst e; simp
  · rw [decide_eq_true e]
    simp
    omega
theorem cnt_clr {m w : Nat} (hm : m < 4294967296) : cntM (clrB m [(w : Int)]) = cntB m w := by
  unfold cntM cntB
  exact List.countP_congr fun j _ => by rw [clr_at hm w j]
theorem cnt_bl (m : Nat) : (bl 32 m).length = cntM m := by
  unfold bl cntM
  rw [List.length_map, List.countP_eq_length_filter]
theorem zero_of {m : Nat} (hm : m < 4294967296) (h : nx m 0 = none) : m = 0 := by
  refine Nat.eq_of_testBit_eq fun j => ?_
  rw [Nat.zero_testBit]
  by_cases hj : j < 32
  · exact nx_none.1 h j hj (by omega)
  · exact bit_high hm (by omega)
def Half (N : Nat) (s : List ByteArray) (c : List Wr) (m0 : Nat) (d : ByteArray) : Prop :=
  ∀ l t', Whole N t' → t'.s = layL s (keptL c l c.length) → t'.c = [] → t'.b.i = true ∨ ∀ j : Nat, j < N → m0.testBit j = true → (t'.read j).1 = d
section
variable {N q : Nat} {n m : Nod} {t : Sto} {m0 : Nat} {d : ByteArray} {s : List ByteArray} {c : List Wr}
theorem half_inc (hf : Fine N s c) (ho : Off c 0) {b : Sup} (hw : b.wide) (hr : b.right = true) (hi : b.i = true) (h0 : s.getD 0 e0 = b.bytes) : Half N s c m0 d := by
  intro l t' hw' e hc
  have hv := val_crash hf l (j := 0) (by omega)
  rw [← e] at hv
  have h1 := hv.off ho
  have h2 := hw'.h0
  rw [hc] at h2
  have h3 : t'.b.bytes = b.bytes := h2.symm.trans (h1.trans h0)
  have h4 := dec_bytes t'.b hw'.bw hw'.br
  rw [h3, dec_bytes b hw hr] at h4
  injection h4 with h4
  exact .inl (by rw [← h4]; exact hi)
theorem half_all (hf : Fine N s c) (h : ∀ j : Nat, j < N → m0.testBit j = true → Off c (j + 2) ∧ s.getD (j + 2) e0 = d) : Half N s c m0 d := by
  intro l t' hw' e hc
  refine .inr fun j hj hb => ?_
  obtain ⟨h1, h2⟩ := h j hj hb
  have hv := val_crash hf l (j := j + 2) (by omega)
  rw [← e] at hv
  rw [read_off hw' (i := (j : Int)) (by omega) (by omega) (by rw [hc]; exact fun w hw => by cases hw), Int.toNat_natCast]
  exact (hv.off h1).trans h2
structure Gets (N m0 c0 : Nat) (d : ByteArray) (k : Nat) (n : Nod) : Prop where
  ok : NOk N (300 + 3 * k) n
  up : n.up = true
  st : n.st = 4
  inc : n.t.b.i = true
  tidy : Tidy n.t
  sane : Sane n.id n
  data : ∀ j : Nat, j < N → m0.testBit j = true → n.t.m.testBit j = true ∨ n.t.s.getD (j + 2) e0 = d
  cnt : k + cntB n.t.m (n.want - 1).toNat = c0
structure Got (c0 k : Nat) (n : Nod) : Prop where
  up : n.up = true
  inc : n.t.b.i = false
  m : n.t.m = 0
  want : n.want = 0
  k : k = c0 + 1
structure Fell (N m0 : Nat) (d : ByteArray) (n : Nod) : Prop where
  up : n.up = false
  inc : n.t.b.i = false
  fine : Fine N n.t.s n.t.c
  len : n.t.c.length ≤ 900
  half : Half N n.t.s n.t.c m0 d
theorem Sane.idd {k k' : Int} (h : Sane k n) (e : k = k') : Sane k' n := by
  subst e
  exact h
theorem Gets.want {k c0 : Nat} (h : Gets N m0 c0 d k n) : 1 ≤ n.want ∧ n.want ≤ (N : Int) := by
  have := h.sane.w1 h.st h.inc
  rcases h.sane.w0 with e | ⟨_, _, h1, h2⟩
  · exact absurd e this
  · rw [(h.ok.live h.up).bn] at h2
    exact ⟨h1, h2⟩
theorem keep_fell {r : Sto × Int} (hk : (n.keep r).2 = false) : (n.keep r).1 = Nod.down { n with t := r.1 } ∧ r.2 ≠ 0 := by
  unfold Nod.keep at hk ⊢
  split at hk
  · cases hk
  · next h => rw [if_neg h]; exact ⟨rfl, h⟩
theorem fell_of {r : Sto × Int} (hk : (n.keep r).2 = false) (hf : Fine N r.1.s r.1.c) (hl : r.1.c.length ≤ 900) (hh : Half N r.1.s r.1.c m0 d) : Fell N m0 d (n.keep r).1 := by
  rw [(keep_fell hk).1]
  exact ⟨rfl, rfl, hf, hl, hh⟩
theorem gets_step {k c0 : Nat} (hk40 : k ≤ 100) (h : Gets N m0 c0 d k n) : Gets N m0 c0 d (k + 1) (n.got (n.want - 1) d).1 ∨ Got c0 (k + 1) (n.got (n.want - 1) d).1 ∨ Fell N m0 d (n.got (n.want - 1) d).1 := by
  obtain ⟨w1, w2⟩ := h.want
  obtain ⟨w, hw⟩ : ∃ w : Nat, n.want = (w : Int) + 1 := ⟨(n.want - 1).toNat, by omega⟩
  have hwN : w < N := by omega
  have hw0 := h.ok.live h.up
  have hN32 := hw0.fine.n32
  have hcnt := h.cnt
  rw [hw, show ((w : Int) + 1 - 1).toNat = w by omega] at hcnt
  have e1 : n.want - 1 = (w : Int) := by omega
  rw [e1]
  have hin := (h.ok.got h.up (w : Int) d)
  have hsn := h.sane.got h.ok h.up h.st (w : Int) d
  have hpn := P1.got (fun _ => h.tidy) h.up h.ok (w : Int) d
  have off0 : Off n.t.c 0 := fun x hx => by rw [(h.tidy.c1 x hx).1]; decide
  have sup0 : n.t.s.getD 0 e0 = n.t.b.bytes := (holds_off (c := n.t.c) (j := 0) (d := n.t.s.getD 0 e0) off0).symm.trans hw0.h0
  have hgp := goes_put hw0 (w : Int) d
  have hdp := did_put hw0 (w : Int) d
  have hlen := h.ok.len
  unfold Nod.got at hin hsn hpn ⊢
  rw [if_pos hw] at hin hsn hpn ⊢
  dsimp only at hin hsn hpn ⊢
  cases k1 : (n.keep (n.t.put (w : Int) d)).2 with
  | false =>
    rw [if_neg (by decide)]
    refine .inr (.inr (fell_of k1 hgp.fine (by have := hgp.len; omega) ?_))
    obtain ⟨q1, q2⟩ := did_off (j := 0) hdp hw0.fine (by show (0 : Int) ≤ w + 2; omega) (by show ((w : Int) + 2) ≠ ((0 : Nat) : Int); omega) (by omega) off0
    exact half_inc hgp.fine q1 hw0.bw hw0.br h.inc (q2.trans sup0)
  | true =>
    rw [k1, if_pos rfl] at hin hsn hpn
    rw [if_pos rfl]
    obtain ⟨p0, p1⟩ := keep_t k1
    obtain ⟨_, _, ps, pc⟩ := put_done p0
    have u1 := (keep_to k1).trans h.up
    have n1 := h.ok.keep hgp
    have hm1 : (n.keep (n.t.put (w : Int) d)).1.t.m = n.t.m := by rw [p1, put_m]
    have hb1 : (n.keep (n.t.put (w : Int) d)).1.t.b = n.t.b := by rw [p1, put_b]
    have hs1 : ∀ j : Nat, j < N + 2 → (n.keep (n.t.put (w : Int) d)).1.t.s.getD j e0 = if ((w : Int) + 2) = (j : Int) then d else holdsL n.t.c (j : Int) (n.t.s.getD j e0) := fun j hj => by
      rw [p1, ps, lay_more hw0.fine (by show (0 : Int) ≤ w + 2; omega) hj]
    have hc1 : (n.keep (n.t.put (w : Int) d)).1.t.c = [] := by rw [p1, pc]
    have kst := keep_same (n := n) k1
    generalize (n.keep (n.t.put (w : Int) d)).1 = m at *
    have hw1 := n1.live u1
    have sup1 : m.t.s.getD 0 e0 = m.t.b.bytes := by
      have := hw1.h0
      rw [hc1] at this
      exact this
    have hgw := goes_wipe hw1 (w : Int)
    have hdw : (m.t.wipe (w : Int)).1.s = m.t.s ∧ ((m.t.wipe (w : Int)).1.c = m.t.c ∨ (m.t.wipe (w : Int)).1.c = m.t.c ++ [(1, bytesM (clrB m.t.m [(w : Int)]))]) := by
      unfold Sto.wipe
      split
      · exact ⟨rfl, .inl rfl⟩
      · exact did_note _ _ hw1.live
    have offw : ∀ j : Nat, j ≠ 1 → Off (m.t.wipe (w : Int)).1.c j := fun j hj x hx => by
      rcases hdw.2 with q | q
      · rw [q, hc1] at hx; cases hx
      · rw [q, hc1, List.nil_append, List.mem_singleton] at hx
        rw [hx]
        show (1 : Int) ≠ j
        omega
    cases k2 : (m.wipe (w : Int)).2 with
    | false =>
      rw [if_neg (by decide)]
      refine .inr (.inr (fell_of k2 hgw.fine (by have := hgw.len; rw [hc1] at this; simp at this; omega) ?_))
      exact half_inc hgw.fine (offw 0 (by decide)) hw1.bw hw1.br (by rw [hb1]; exact h.inc) (by rw [hdw.1]; exact sup1)
    | true =>
      rw [k2, if_pos rfl] at hin hsn hpn
      rw [if_pos rfl]
      have r0 := keep_t (n := m) (r := m.t.wipe (w : Int)) k2
      have u2 : (m.wipe (w : Int)).1.up = true := (keep_to (n := m) (r := m.t.wipe (w : Int)) k2).trans u1
      have n2 : NOk N (300 + 3 * k + 1 + 1) (m.wipe (w : Int)).1 := n1.wipe u1 (w : Int)
      have kst2 : (m.wipe (w : Int)).1.id = m.id ∧ (m.wipe (w : Int)).1.pri = m.pri ∧ (m.wipe (w : Int)).1.ask = m.ask ∧ (m.wipe (w : Int)).1.st = m.st ∧ (m.wipe (w : Int)).1.want = m.want ∧ (m.wipe (w : Int)).1.up = m.up := keep_same (n := m) (r := m.t.wipe (w : Int)) k2
      have hout : ¬ m.t.out (w : Int) = true := by
        unfold Sto.out
        rw [hw1.bn]
        simp
        omega
      have hm2 : (m.wipe (w : Int)).1.t.m = clrB n.t.m [(w : Int)] := by
        show (m.keep (m.t.wipe (w : Int))).1.t.m = _
        rw [r0.2]
        have := r0.1
        unfold Sto.wipe at this ⊢
        rw [if_neg hout] at this ⊢
        rw [(note_done this).1, hm1]
      have hb2 : (m.wipe (w : Int)).1.t.b = n.t.b := by
        show (m.keep (m.t.wipe (w : Int))).1.t.b = _
        rw [r0.2, wipe_b, hb1]
      have hs2 : (m.wipe (w : Int)).1.t.s = m.t.s := by
        show (m.keep (m.t.wipe (w : Int))).1.t.s = _
        rw [r0.2, hdw.1]
      have hc2 : ∀ j : Nat, j ≠ 1 → Off (m.wipe (w : Int)).1.t.c j := fun j hj => by
        show Off (m.keep (m.t.wipe (w : Int))).1.t.c j
        rw [r0.2]
        exact offw j hj
      have hst2 : (m.wipe (w : Int)).1.st = 4 := kst2.2.2.2.1.trans (kst.2.2.2.1.trans h.st)
      have hid2 : (m.wipe (w : Int)).1.id = n.id := kst2.1.trans kst.1
      have hm32 : n.t.m < 4294967296 := mask_small hw0.mr
      have hdata : ∀ j : Nat, j < N → m0.testBit j = true → (m.wipe (w : Int)).1.t.m.testBit j = true ∨ (m.wipe (w : Int)).1.t.s.getD (j + 2) e0 = d := fun j hj hb => by
        rw [hm2, hs2, clr_at hm32, hs1 (j + 2) (by omega)]
        by_cases e : j = w
        · subst e
          right
          rw [if_pos (by omega)]
        · rw [if_neg (by omega), holds_off (h.tidy.off (by omega)), decide_eq_true e, Bool.and_true]
          exact h.data j hj hb
      generalize (m.wipe (w : Int)).1 = p at *
      have hinc : p.t.b.i = true := by rw [hb2]; exact h.inc
      unfold Nod.seek at hin hsn hpn ⊢
      have hcond : ¬ (({ p with want := 0 } : Nod).t.b.i = false ∨ ({ p with want := 0 } : Nod).want ≠ 0) := by
        rintro (e | e)
        · rw [show ({ p with want := 0 } : Nod).t.b.i = p.t.b.i from rfl, hinc] at e; cases e
        · exact e rfl
      rw [if_neg hcond] at hin hsn hpn ⊢
      have hp32 : p.t.m < 4294967296 := mask_small (n2.live u2).mr
      cases hx : nx p.t.m 0 with
      | some j =>
        have hx2 : nx ({ p with want := 0 } : Nod).t.m 0 = some j := hx
        rw [hx2] at hin hsn hpn
        dsimp only at hin hsn hpn ⊢
        obtain ⟨⟨_, hbj⟩, hj32, _⟩ := nx_some.1 hx
        refine .inl ⟨hin.mono (by omega), u2, hst2, hinc, hpn u2, hsn.idd hid2.symm, hdata, ?_⟩
        show k + 1 + cntB p.t.m (((j : Int) + 1) - 1).toNat = c0
        rw [show (((j : Int) + 1) - 1).toNat = j by omega]
        have h1 := cnt_without hj32 hbj
        have h2 : cntM p.t.m = cntB n.t.m w := by rw [hm2]; exact cnt_clr hm32
        omega
      | none =>
        have hx2 : nx ({ p with want := 0 } : Nod).t.m 0 = none := hx
        rw [hx2] at hin hsn hpn
        dsimp only at hin hsn hpn ⊢
        have hz := zero_of hp32 hx
        generalize hbs : Sup.retired ⟨p.t.b.n, p.peer.c, p.peer.b, p.peer.o, p.peer.p, false, false, false⟩ = bs at *
        have hbi : bs.i = false := by rw [← hbs]; rfl
        have hbw : bs.wide := by rw [← hbs]; exact peer_wide n2.peer _
        have hw2 := n2.live u2
        have hgc := goes_commit hw2 hbw
        have hdc := did_commit hw2 bs
        have hall : ∀ j : Nat, j < N → m0.testBit j = true → Off (p.t.commit bs).1.c (j + 2) ∧ (p.t.commit bs).1.s.getD (j + 2) e0 = d := fun j hj hb => by
          obtain ⟨q1, q2⟩ := did_off (j := j + 2) hdc hw2.fine (Int.le_refl 0) (by show (0 : Int) ≠ ((j + 2 : Nat) : Int); omega) (by omega) (hc2 (j + 2) (by omega))
          refine ⟨q1, q2.trans ?_⟩
          rcases hdata j hj hb with e | e
          · rw [hz, Nat.zero_testBit] at e; cases e
          · exact e
        cases k3 : (Nod.commit { p with want := 0 } bs).2 with
        | true =>
          refine .inr (.inl ?_)
          have e3 := commit_tb k3
          have s3 := keep_same (n := { p with want := 0 }) (r := p.t.commit bs) k3
          refine ⟨?_, by rw [e3]; exact hbi, ?_, ?_, ?_⟩
          · exact s3.2.2.2.2.2.trans u2
          · show (Nod.keep { p with want := 0 } (p.t.commit bs)).1.t.m = 0
            rw [(keep_t (n := { p with want := 0 }) (r := p.t.commit bs) k3).2, commit_m]
            exact hz
          · exact s3.2.2.2.2.1
          · have h2 : cntM p.t.m = cntB n.t.m w := by rw [hm2]; exact cnt_clr hm32
            rw [hz] at h2
            have h3 : cntM 0 = 0 := by decide
            omega
        | false =>
          exact .inr (.inr (fell_of (n := { p with want := 0 }) k3 hgc.fine (by have := hgc.len; have := n2.len; show (p.t.commit bs).1.c.length ≤ 900; omega) (half_all hgc.fine hall)))
end
end Go.Proofs.YtabenngcmpjlhaaGreatDoor
