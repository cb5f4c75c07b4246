/- The laws of layer 17 carried out. -/
import Derived.Test.YtabenngcmpjlhaaGreatWJ
import Derived.Test.YtabenngcmpjlhaaGreatXQ
import Derived.Test.YtabenngcmpjlhaaGreatPE
import Derived.Test.YtabenngcmpjlhaaGreatWX
import Derived.Test.YtabenngcmpjlhaaGreatXS17
namespace Go.Proofs.YtabenngcmpjlhaaGreat
open Go.RowKit
section
variable {n : Nod} {id i : Int} {d : ByteArray}
theorem keep_mi (n : Nod) (r : Sto × Int) : (n.keep r).1.mi = n.mi := by
  unfold Nod.keep
  split <;> rfl
theorem lay_mi (n : Nod) (i : Int) (d : ByteArray) : (n.lay i d).1.mi = n.mi := by
  unfold Nod.lay
  dsimp only
  split
  · rw [keep_mi, keep_mi]
  · exact keep_mi _ _
theorem laid_mi (n : Nod) (id i : Int) (d : ByteArray) : (n.laid id i d).1.mi = n.mi := by
  unfold Nod.laid
  dsimp only
  split
  · split
    · exact lay_mi _ _ _
    · exact lay_mi _ _ _
  · exact lay_mi _ _ _
theorem write_mi (h : n.mint = true) : (n.write id i d).1.mi = n.mi := by
  unfold Nod.write
  split
  · rw [if_neg (by simp [h])]
    exact laid_mi _ _ _ _
  · rfl
theorem nlay_is (hk : (n.lay i d).2 = true) : ∃ t, (n.lay i d).1 = { n with t := t } ∧ t.b = n.t.b := by
  unfold Nod.lay at hk ⊢
  dsimp only at hk ⊢
  split at hk
  · next h1 =>
    rw [if_pos h1]
    rw [keep_up h1] at hk ⊢
    rw [keep_up hk]
    exact ⟨_, rfl, by rw [put_b, mark_b]⟩
  · cases hk
theorem laid_is (h : saysOK (n.laid id i d).2) : n.st = 0 ∧ ∃ t, (n.laid id i d).1 = { n with t := t } ∧ t.b = n.t.b := by
  unfold Nod.laid at h ⊢
  dsimp only at h ⊢
  split at h
  · next hk =>
    rw [if_pos hk]
    obtain ⟨t, e, hb⟩ := nlay_is hk
    split at h
    · next h0 =>
      rw [if_pos h0]
      refine ⟨?_, t, e, hb⟩
      rw [e] at h0
      exact h0
    · obtain ⟨o, e1, e2, _⟩ := h
      injection e1 with e1
      subst e1
      cases e2
  · obtain ⟨o, e1, _⟩ := h
    cases e1
theorem mints_is (h : n.mints.2 = 0) : ∃ g r t, n.dr = g :: r ∧ n.mints.1 = { n with dr := r, mi := n.mi ++ [⟨g, n.t.b.c, n.id⟩], t := t, mint := true } ∧ t.b = n.t.b.minted g := by
  unfold Nod.mints at h ⊢
  split at h
  · cases h
  · next g r e =>
    dsimp only at h ⊢
    split at h
    · cases h
    · next hg =>
      split at h
      · next hk =>
        rw [if_neg hg, if_pos hk]
        refine ⟨g, r, _, e, ?_, commit_tb hk⟩
        have e2 := keep_up (n := { n with dr := r, mi := n.mi ++ [⟨g, n.t.b.c, n.id⟩] }) hk
        show ({ (Nod.keep _ _).1 with mint := true } : Nod) = _
        unfold Nod.commit
        rw [e2]
      · cases h
theorem write_mints (h : saysOK (n.write id i d).2) : (n.write id i d).1.mint = true ∧ (n.mint = true → (n.write id i d).1.mi = n.mi ∧ (n.write id i d).1.t.b = n.t.b) ∧ (n.mint = false → ∃ g r, n.dr = g :: r ∧ (n.write id i d).1.mi = n.mi ++ [⟨g, n.t.b.c, n.id⟩] ∧ (n.write id i d).1.t.b.c = g) := by
  unfold Nod.write at h ⊢
  split at h
  · next hb =>
    rw [if_pos hb]
    split at h
    · next hm =>
      rw [if_pos hm]
      split at h
      · obtain ⟨o, e1, _⟩ := h; cases e1
      · next h6 =>
        rw [if_neg h6]
        split at h
        · next h0 =>
          rw [if_pos h0]
          obtain ⟨_, t, e, hb2⟩ := laid_is h
          obtain ⟨g, r, t2, e1, e2, e3⟩ := mints_is h0
          rw [e]
          refine ⟨by rw [e2], (fun hx => by rw [hm.2] at hx; cases hx), fun _ => ⟨g, r, e1, by rw [e2], ?_⟩⟩
          show t.b.c = g
          rw [hb2, e2]
          show t2.b.c = g
          rw [e3]
          rfl
        · next h0 =>
          obtain ⟨o, e1, _, e2⟩ := h
          injection e1 with e1
          subst e1
          exact absurd e2 h0
    · next hm =>
      rw [if_neg hm]
      obtain ⟨hs, t, e, hb2⟩ := laid_is h
      have hmt : n.mint = true := by
        cases e : n.mint with
        | true => rfl
        | false => exact absurd ⟨hs, e⟩ hm
      rw [e]
      exact ⟨hmt, fun _ => ⟨rfl, hb2⟩, fun hx => by rw [hmt] at hx; cases hx⟩
  · next hb =>
    obtain ⟨o, e1, _, e2⟩ := h
    unfold Nod.refuse at e1
    injection e1 with e1
    subst e1
    exact absurd e2 hb
end
end Go.Proofs.YtabenngcmpjlhaaGreat
namespace Go.Proofs.YtabenngcmpjlhaaGreat
open Go.RowKit PX
set_option maxRecDepth 100000
section
variable {w : World}
def abc : ByteArray := ⟨#[97, 98, 99, 100, 101, 102, 103, 104]⟩
def ev (k n : Int) : Evt := ⟨k, n, 0, 0, e1, 0, []⟩
def L1 : List Evt := [ev 1 0, ⟨13, 0, 0, 0, e1, 9, []⟩]
def L2 : List Evt := [ev 1 0, ⟨13, 0, 0, 0, e1, 9, []⟩, ev 6 0, ev 6 1, ev 9 0, ev 9 1]
theorem l1_ok : ∀ v ∈ L1, (v.wide ∧ (v.d.size : Int) ≤ 3000) ∧ v.keeps = [] := by
  intro v hv
  simp only [L1, List.mem_cons, List.not_mem_nil, or_false] at hv
  rcases hv with rfl | rfl <;> exact ⟨⟨⟨by decide, by decide⟩, by decide⟩, rfl⟩
theorem l2_ok : ∀ v ∈ L2, (v.wide ∧ (v.d.size : Int) ≤ 3000) ∧ v.keeps = [] := by
  intro v hv
  simp only [L2, List.mem_cons, List.not_mem_nil, or_false] at hv
  rcases hv with rfl | rfl | rfl | rfl | rfl | rfl <;> exact ⟨⟨⟨by decide, by decide⟩, by decide⟩, rfl⟩
def cA : Clu := reachC (blks 1) L1
def cB : Clu := reachC (blks 1) L2
def nA : Nod := (cA.a.write 3 1 abc).1
def nB : Nod := (cB.a.write 6 0 abc).1
def oB : Ou := (cB.a.write 6 0 abc).2.headD ⟨0, 0, 0, 0, e1⟩
def nC : Nod := nB.loseC.1
def nD : Nod := (nB.acked 0).1
def oD : Ou := ((nB.acked 0).2.getD 1 ⟨0, 0, 0, 0, e1⟩)
def nE : Nod := (cB.b.apply 0 abc).1
def oE : Ou := (cB.b.apply 0 abc).2.headD ⟨0, 0, 0, 0, e1⟩
theorem q0 : cA.a.write 3 1 abc = (nA, [⟨2, 0, 3, 0, e1⟩]) := by
  refine Prod.ext rfl ?_
  kernel_rfl
theorem q1 : nA.write 4 2 abc = (nA, [⟨2, 0, 4, 4, e1⟩]) := by kernel_rfl
theorem q2 : cA.b.write 5 0 abc = (cA.b, [⟨2, 1, 5, 8, e1⟩]) := by kernel_rfl
theorem q3 : cB.a.write 6 0 abc = (nB, [oB]) := by
  refine Prod.ext rfl ?_
  kernel_rfl
theorem q4 : nB.loseC = (nC, [⟨2, 0, 6, 0, e1⟩]) := by
  refine Prod.ext rfl ?_
  kernel_rfl
theorem q5 : nB.acked 0 = (nD, [⟨2, 0, 6, 0, e1⟩, oD]) := by
  refine Prod.ext rfl ?_
  kernel_rfl
theorem q6 : cB.b.apply 0 abc = (nE, [oE]) := by
  refine Prod.ext rfl ?_
  kernel_rfl
theorem kA : COk 2 300 cA := (COk.play L1 (new_ok (by decide) (by decide)) fun v hv => (l1_ok v hv).1.1).mono (by decide)
theorem kB : COk 2 300 cB := (COk.play L2 (new_ok (by decide) (by decide)) fun v hv => (l2_ok v hv).1.1).mono (by decide)
theorem kN : NOk 2 303 nA := kA.a.write 3 1 abc
theorem kM : NOk 2 303 nB := kB.a.write 6 0 abc
theorem uM : nB.up = true := by kernel_rfl
theorem uB : cB.b.up = true := by kernel_rfl
theorem alive17_any : Calls Tryz.prog 5 #[] w fun e w' => e = .returned (.bool true) ∧ Below w.heap.size w w' := by
  refine run_vE ?_
  refine t_reachE L1 1 2 _ rfl rfl (by decide) (by decide) (by decide) l1_ok (fun r x => ?_)
  have ck0 : (0 : Int) ≤ 0 ∧ (0 : Int) < ((2 : Nat) : Int) := by decide
  have ck1 : (0 : Int) ≤ 1 ∧ (1 : Int) < ((2 : Nat) : Int) := by decide
  refine t_ck ck0 ?_
  refine t_1E (args := #[nodV cA.a x.a, .int .i64 3, .int .i64 1, .string abc]) q0 (fun u hu => wwrite kA.a (by omega) 3 1 abc hu.2.a) fun a0 A0 k0 => ?_
  refine t_1E (args := #[nodV nA a0, .int .i64 4, .int .i64 2, .string abc]) q1 (fun u hu => wwrite kN (by omega) 4 2 abc hu.2.1) fun a1 A1 k1 => ?_
  refine t_ck ck1 ?_
  refine t_1E (args := #[nodV cA.b x.b, .int .i64 5, .int .i64 0, .string abc]) q2 (fun u hu => wwrite kA.b (by omega) 5 0 abc hu.1.1.2.b) fun a2 A2 k2 => ?_
  have ck2 : (0 : Int) ≤ 0 ∧ (0 : Int) < ((1 : Nat) : Int) := by decide
  refine t_lit 19 (t_ck ck2 (t_lit 9 (t_load (ty := 64) (p := A0) (v := ouV ⟨2, 0, 3, 0, e1⟩) (fun u hu _ => o_reads hu.1.1.2.2) ?_)))
  refine t_lit 9 (t_sem (do Go.eqGuard .neq 64 (.tmp 59) (.tmp 60) (ouV ⟨2, 0, 3, 0, e1⟩) (ouV ⟨2, 0, 3, 0, e1⟩); Go.binOp .neq 64 (ouV ⟨2, 0, 3, 0, e1⟩) (ouV ⟨2, 0, 3, 0, e1⟩)) (v := .bool false) (fun u _ _ => by rw [neq_ouS, eqO_iff.2 rfl]; rfl) ?_)
  refine t_lit 9 (t_ck ck2 (t_lit 9 (t_load (ty := 50) (p := ⟨A1.block, A1.off + 3, none⟩) (v := .int .i64 4) (fun u hu _ => reads1 (by kernel_rfl) (o_field hu.1.2.2 rfl).2.2.2.1) ?_)))
  refine t_lit 9 (t_ck ck2 (t_lit 9 (t_load (ty := 50) (p := ⟨A2.block, A2.off + 3, none⟩) (v := .int .i64 8) (fun u hu _ => reads1 (by kernel_rfl) (o_field hu.2.2 rfl).2.2.2.1) ?_)))
  refine t_lit 99 (t_reachE L2 1 6 _ rfl rfl (by decide) (by decide) (by decide) l2_ok (fun r2 y => ?_))
  refine t_ck ck0 ?_
  refine t_1E (args := #[nodV cB.a y.a, .int .i64 6, .int .i64 0, .string abc]) q3 (fun u hu => wwrite kB.a (by omega) 6 0 abc hu.2.a) fun a3 A3 k3 => ?_
  refine t_1E (args := #[nodV nB a3]) q4 (fun u hu => wlose kM (by omega) uM hu.2.1) fun a4 A4 k4 => ?_
  refine t_2E (args := #[nodV nB a3, .int .i64 0]) q5 (fun u hu => wacked kM (by omega) uM 0 hu.1.2.1) fun a5 A5 k5 => ?_
  refine t_ck ck1 ?_
  refine t_1E (args := #[nodV cB.b y.b, .int .i64 0, .string abc]) q6 (fun u hu => wapply kB.b (by omega) uB 0 abc hu.1.1.1.2.b) fun a6 A6 k6 => ?_
  refine t_lit 20 (t_vE (args := #[]) (v := .int .u64 7) (fun u _ _ => xfirst u) ?_)
  refine t_lit 40 (t_ck ck2 (t_lit 40 (t_load (ty := 3) (p := A3) (v := .int .i64 1) (fun u hu _ => reads1 (by kernel_rfl) (o_field hu.1.1.1.2.2 rfl).1) ?_)))
  refine t_lit 40 (t_ck ck2 (t_lit 40 (t_load (ty := 64) (p := A4) (v := ouV ⟨2, 0, 6, 0, e1⟩) (fun u hu _ => o_reads hu.1.1.2.2) ?_)))
  refine t_lit 40 (t_sem (do Go.eqGuard .eql 64 (.tmp 1) (.tmp 1) (ouV ⟨2, 0, 6, 0, e1⟩) (ouV ⟨2, 0, 6, 0, e1⟩); Go.binOp .eql 64 (ouV ⟨2, 0, 6, 0, e1⟩) (ouV ⟨2, 0, 6, 0, e1⟩)) (v := .bool true) (fun u _ _ => by rw [eql_ouS, eqO_iff.2 rfl]) ?_)
  refine t_lit 40 (t_ck (p := (0 : Int) ≤ 0 ∧ (0 : Int) < ((2 : Nat) : Int)) (by decide) (t_lit 40 (t_load (ty := 3) (p := ⟨A5.block, A5.off + 2, none⟩) (v := .int .i64 6) (fun u hu _ => reads1 (by kernel_rfl) (o_field hu.1.2.2 rfl).2.2.1) ?_)))
  exact t_lit 60 (e_r2E (.bool true) rfl)
def zz : ByteArray := ⟨#[122, 122, 122, 122, 122, 122, 122, 122]⟩
def Nod.armed (n : Nod) (f : Int) : Nod := { n with t := { n.t with f := f } }
structure Rd where
  k : Int
  j : Nat
  hj : j ≤ 2
  hk : k = j
def mkL (was : ByteArray) (e : Int) (O : Option Addr) (out : List Ou) (k1 : Nat) (y : Rd) : List (Nat × AV) := [(4, .lp 1 0), (8, .v (.string was)), (9, .v (.int .i64 e)), (10, .lp 44 0), (11, .v (.slice O out.length k1)), (12, .v (.int .i64 y.k))]
def mkB (id i : Int) (m : Nod) (a1 : Adr) (_ : Rd) : List (Nat × Blk) := [(1, (25, [.int .i64 id, .int .i64 i])), (44, (48, nodC m a1))]
set_option maxHeartbeats 4000000 in
theorem marked_law (b : Int) (A : Option Addr) (kl : Nat) (l : List Evt) (s : Bool) (id i fz : Int) (w : World) (hc : Cas w b A l) (hf0 : 0 ≤ fz) : Calls Tryz.prog 3 #[.agg #[.int .u8 b, .slice A l.length kl, .bool s], .agg #[.int .i64 id, .int .i64 i], .int .u8 fz] w fun e w' => e = .returned (.bool true) ∧ Below w.heap.size w w' := by
  refine run_ok (ap := tyL) (U := 0) (rows := []) (K := fun _ => True) rfl (st_p True) trivial ?_
  refine t_vb (args := #[]) (fun u _ hb => alive17_any) (t_lit 9 ?_)
  refine t_vb (args := #[.slice A l.length kl, .int .i64 60]) (v := .bool (greatEv l)) (fun u _ hb => xgreat A kl 60 (hc.he.up hb) (by decide)) ?_
  cases hgr : greatEv l with
  | true => exact t_lit 9 (e_r2 (.bool true) rfl)
  | false =>
  have hk := case_ok hc hgr s
  have hp := (case_ps hc s).1
  have hx := xcase17 kl s hc hgr
  generalize caseN b l s = n at *
  refine t_lit 9 (t_call (args := #[.agg #[.int .u8 b, .slice A l.length kl, .bool s]]) (fun u _ hb => hx u (base_below hb)) ?_)
  rintro u e u' _ _ ⟨a, rfl, hn, hb⟩
  refine ⟨_, fun u => NM u n a, rfl, hb, st_nm _ _, hn, ?_⟩
  by_cases hu : n.up = true
  rotate_left
  · exact t_Y (b := !n.up) 9 (by simpa using hu) (e_r2 (.bool true) rfl)
  refine t_N (b := !n.up) 9 (by simpa using hu) ?_
  refine t_ck (p := (0 : Int) ≤ 1 ∧ (1 : Int) < ((2 : Nat) : Int)) (by decide) ?_
  refine t_v (v := .tuple #[.string (n.t.read i).1, .int .i64 (n.t.read i).2]) (fun u hu => rzread_any a.A a.B a.k a.m n.t.s n.t.c n.t.f n.t.x n.t.b n.t.m i u hu.2.t (hk.fit (by omega))) ?_
  obtain ⟨g, hg, g0, g8⟩ : ∃ g, IntKind.i64.wrap (fz.tmod 9) = g ∧ 0 ≤ g ∧ g ≤ 8 := by
    have e : fz.tmod 9 = fz % 9 := Int.tmod_eq_emod_of_nonneg hf0
    exact ⟨fz % 9, by rw [e, wrap_i64 (by omega) (by omega)], by omega, by omega⟩
  refine t_v (args := #[.agg #[.slice a.A n.t.s.length a.k, .slice a.B n.t.c.length a.m, .int .i64 n.t.f, .bool n.t.x], .int .i64 (IntKind.i64.wrap (fz.tmod 9))]) (v := .agg #[.slice a.A n.t.s.length a.k, .slice a.B n.t.c.length a.m, .int .i64 g, .bool n.t.x]) (fun u _ => (rarm_any a.A a.B n.t.s.length a.k n.t.c.length a.m n.t.f (IntKind.i64.wrap (fz.tmod 9)) n.t.x u).mono (by rintro e w' ⟨h1, h2⟩; exact ⟨h1.trans (by rw [hg, if_neg (by omega)]), h2⟩)) ?_
  have hka : NOk (blks b) 300 (n.armed g) := ⟨hk.fine, hk.len, g0, (by show g ≤ 1000; omega), fun hu => whole_arm (hk.live hu) g0, hk.ses, hk.peer, hk.dr, hk.mi, hk.dl, hk.ml⟩
  have hta : Tidy (n.armed g).t := ⟨(hp hu).c1, (hp hu).s1⟩
  have hM := write_marked hka hu hta id i zz
  have hkm := hka.write id i zz
  have hol := out_write (n := n.armed g) id i zz
  refine t_ck (p := (0 : Int) ≤ 0 ∧ (0 : Int) < ((2 : Nat) : Int)) (by decide) (t_ck (p := (0 : Int) ≤ 1 ∧ (1 : Int) < ((2 : Nat) : Int)) (by decide) ?_)
  refine t_nO (args := #[nodV (n.armed g) a, .int .i64 id, .int .i64 i, .string zz]) (fun u hu => wwrite hka (by omega) id i zz ⟨hu.2.t, hu.2.d, hu.2.dn, hu.2.dt, hu.2.mi, hu.2.mn, hu.2.mt⟩) fun a1 O k1 hO _ => ?_
  have er : ((n.armed g).t.read i) = n.t.read i := rfl
  generalize (n.armed g).write id i zz = r at *
  obtain ⟨m, out⟩ := r
  try dsimp only at hkm hM hol
  refine t_loop rfl (⟨0, 0, Nat.zero_le _, rfl⟩ : Rd) (mkL (n.t.read i).1 (n.t.read i).2 O out k1) (mkB id i m a1) 100 (fun _ u => NM u m a1 ∧ OM u O k1 out) (fun y => 2 - y.j) (fun _ => (st_nm _ _).and (st_om _ _ _)) (fun u hu _ => ⟨hu.2.1, hu.2.2⟩) ?_
  rintro ⟨k2, j, hj, rfl⟩ fx
  by_cases hj2 : j < 2
  rotate_left
  · exact t_N (b := decide ((j : Int) < 2)) 30 (by simp; omega) (e_r2 (.bool true) rfl)
  refine t_Y (b := decide ((j : Int) < 2)) 0 (by simp; omega) ?_
  obtain ⟨x, hxb⟩ : ∃ x, x = ((j : Int) == 1) := ⟨_, rfl⟩
  refine t_v (args := #[.agg #[.slice a1.A m.t.s.length a1.k, .slice a1.B m.t.c.length a1.m, .int .i64 m.t.f, .bool m.t.x]]) (fun u _ => rcrash_any a1.A a1.B m.t.s.length a1.k m.t.c.length a1.m m.t.f m.t.x u) ?_
  refine t_fresh 4 ([x, x, x, x, x, x].map Value.bool) (fun r2 hr2 => ?_) (by kernel_rfl) (by subst hxb; kernel_rfl)
  have hfit := hkm.fit (by omega)
  refine t_call (args := #[.agg #[.slice a1.A m.t.s.length a1.k, .slice a1.B m.t.c.length a1.m, .int .i64 0, .bool true], .slice (some ⟨r2, 0, none⟩) 6 6]) (fun u hu _ => rrevive_any a1.A a1.B (some ⟨r2, 0, none⟩) a1.k a1.m 6 m.t.s m.t.c [x, x, x, x, x, x] 0 true u hu.1.1.t (es_box (enc := Value.bool) _ hu.2) hfit.l64 (by have := hfit.c9; omega) (by simp [maxLen]) hfit.mis) ?_
  rintro u e u' hu _ ⟨A2, B2, n2, m2, rfl, h2, hb2⟩
  refine ⟨_, _, rfl, hb2, st_mem _ _ _ _ _ _, h2, ?_⟩
  obtain ⟨t', hw, hs', hc', hf', he', ha'⟩ := kept_again hkm.fine [x, x, x, x, x, x]
  have hMt := hM [x, x, x, x, x, x] t' hw hs' hc'
  try dsimp only at hs'
  rw [← hs'] at h2 ⊢
  have hfit2 : Fit t'.s [] 0 := by
    have := hw.fine.fit (f := 0) (by rw [hc']; exact Nat.zero_le _) (by decide)
    rw [hc'] at this
    exact this
  refine t_s (fun u hu => by have := rzattach_any (A := A2) (B := B2) (n := n2) (m := m2) (s := t'.s) (c := []) (f := 0) (x := false) u hu.2 hfit2; rw [he', ha'] at this; exact this) fun A3 k3 B3 m3 => ?_
  have hwf : Fit t'.s t'.c t'.f := by rw [hc', hf']; exact hfit2
  refine t_lit 9 (t_ck (p := (0 : Int) ≤ 1 ∧ (1 : Int) < ((2 : Nat) : Int)) (by decide) ?_)
  refine t_v (v := .tuple #[.string (t'.read i).1, .int .i64 (t'.read i).2]) (fun u hu => rzread_any A3 B3 k3 m3 t'.s t'.c t'.f t'.x t'.b t'.m i u hu.2 hwf) ?_
  rw [er] at hMt
  obtain ⟨h1, h3, h4⟩ := hMt
  have hmm : t'.m < 4294967296 := mask_small hw.mr
  rw [h1]
  generalize (n.t.read i).1 = was at *
  generalize (n.t.read i).2 = eg at *
  generalize (t'.read i).1 = now at *
  generalize hhs : hasB t'.m i = hs at *
  have hw1 : IntKind.i64.wrap ((j : Int) + 1) = ((j + 1 : Nat) : Int) := by rw [wrap_i64 (by omega) (by omega)]; push_cast; rfl
  have hmu : 2 - (j + 1) < 2 - j := by omega
  refine t_Y (b := !(eg != eg)) 3 (by simp) ?_
  by_cases hnw : now = was
  · refine t_N (b := !(now.toList == was.toList)) 5 (by rw [text_eq, decide_eq_true hnw]; rfl) ?_
    by_cases ho : out.length = 1
    rotate_left
    · exact t_N (b := decide ((out.length : Int) = 1)) 12 (by simp; omega) (t_end (mkL was eg O out k1) (mkB id i m a1) (fun _ u => NM u m a1 ∧ OM u O k1 out) (fun y => 2 - y.j) (⟨j, j, hj, rfl⟩ : Rd) (⟨IntKind.i64.wrap ((j : Int) + 1), j + 1, hj2, hw1⟩ : Rd) hmu fun u hu _ => hu.1.1.1)
    obtain ⟨o, rfl⟩ : ∃ o, out = [o] := List.length_eq_one_iff.1 ho
    obtain ⟨ad, rfl⟩ : ∃ ad, O = some ad := hO.resolve_left (by simp)
    refine t_Y (b := decide ((([o] : List Ou).length : Int) = 1)) 9 (by simp) (t_ck (p := (0 : Int) ≤ 0 ∧ (0 : Int) < ((([o] : List Ou).length : Nat) : Int)) (by simp) ?_)
    refine t_lit 9 (t_load (ty := 3) (p := ad) (v := .int .i64 o.k) (fun u hu _ => reads1 (by kernel_rfl) (o_field hu.1.1.1.2 rfl).1) ?_)
    by_cases hk2 : o.k = 2
    rotate_left
    · exact t_lit 1 (t_N (b := decide (o.k = 2)) 30 (by simpa using hk2) (t_end (mkL was eg (some ad) [o] k1) (mkB id i m a1) (fun _ u => NM u m a1 ∧ OM u (some ad) k1 [o]) (fun y => 2 - y.j) (⟨j, j, hj, rfl⟩ : Rd) (⟨IntKind.i64.wrap ((j : Int) + 1), j + 1, hj2, hw1⟩ : Rd) hmu fun u hu _ => hu.1.1.1))
    refine t_lit 1 <| t_Y (b := decide (o.k = 2)) 9 (by simpa using hk2) (t_ck (p := (0 : Int) ≤ 0 ∧ (0 : Int) < ((([o] : List Ou).length : Nat) : Int)) (by simp) ?_)
    refine t_lit 9 (t_load (ty := 50) (p := ⟨ad.block, ad.off + 3, none⟩) (v := .int .i64 o.e) (fun u hu _ => reads1 (by kernel_rfl) (o_field hu.1.1.1.2 rfl).2.2.2.1) ?_)
    by_cases he2 : o.e = 0
    rotate_left
    · exact t_lit 1 (t_N (b := decide (o.e = 0)) 30 (by simpa using he2) (t_end (mkL was eg (some ad) [o] k1) (mkB id i m a1) (fun _ u => NM u m a1 ∧ OM u (some ad) k1 [o]) (fun y => 2 - y.j) (⟨j, j, hj, rfl⟩ : Rd) (⟨IntKind.i64.wrap ((j : Int) + 1), j + 1, hj2, hw1⟩ : Rd) hmu fun u hu _ => hu.1.1.1))
    have hnz := h4 ⟨o, rfl, hk2, he2⟩
    refine t_lit 1 <| t_Y (b := decide (o.e = 0)) 1 (by simpa using he2) ?_
    exact t_N (b := !(now.toList == zz.toList)) 30 (by rw [text_eq, decide_eq_true hnz]; rfl) (t_end (mkL was eg (some ad) [o] k1) (mkB id i m a1) (fun _ u => NM u m a1 ∧ OM u (some ad) k1 [o]) (fun y => 2 - y.j) (⟨j, j, hj, rfl⟩ : Rd) (⟨IntKind.i64.wrap ((j : Int) + 1), j + 1, hj2, hw1⟩ : Rd) hmu fun u hu _ => hu.1.1.1)
  · refine t_Y (b := !(now.toList == was.toList)) 2 (by rw [text_eq, decide_eq_false hnw]; rfl) ?_
    obtain ⟨hz, hh⟩ := h3.resolve_left hnw
    refine t_Y (b := !(!(now.toList == zz.toList))) 9 (by rw [text_eq, decide_eq_true hz]; rfl) (t_ck (p := (0 : Int) ≤ 1 ∧ (1 : Int) < ((2 : Nat) : Int)) (by decide) ?_)
    refine t_lit 9 (t_v (v := .bool hs) (fun u _ => (rhas_any t'.m i u).mono (by rintro e w' ⟨q1, rfl⟩; exact ⟨q1.trans (by rw [hhs]), Below.refl _ _⟩)) ?_)
    have hht : hs = true := hh
    refine t_lit 3 (t_N (b := !hs) 0 (by rw [hht]; rfl) ?_)
    by_cases ho : out.length = 1
    rotate_left
    · exact t_N (b := decide ((out.length : Int) = 1)) 12 (by simp; omega) (t_end (mkL was eg O out k1) (mkB id i m a1) (fun _ u => NM u m a1 ∧ OM u O k1 out) (fun y => 2 - y.j) (⟨j, j, hj, rfl⟩ : Rd) (⟨IntKind.i64.wrap ((j : Int) + 1), j + 1, hj2, hw1⟩ : Rd) hmu fun u hu _ => hu.1.1.1)
    obtain ⟨o, rfl⟩ : ∃ o, out = [o] := List.length_eq_one_iff.1 ho
    obtain ⟨ad, rfl⟩ : ∃ ad, O = some ad := hO.resolve_left (by simp)
    refine t_Y (b := decide ((([o] : List Ou).length : Int) = 1)) 9 (by simp) (t_ck (p := (0 : Int) ≤ 0 ∧ (0 : Int) < ((([o] : List Ou).length : Nat) : Int)) (by simp) ?_)
    refine t_lit 9 (t_load (ty := 3) (p := ad) (v := .int .i64 o.k) (fun u hu _ => reads1 (by kernel_rfl) (o_field hu.1.1.1.2 rfl).1) ?_)
    by_cases hk2 : o.k = 2
    rotate_left
    · exact t_lit 1 (t_N (b := decide (o.k = 2)) 30 (by simpa using hk2) (t_end (mkL was eg (some ad) [o] k1) (mkB id i m a1) (fun _ u => NM u m a1 ∧ OM u (some ad) k1 [o]) (fun y => 2 - y.j) (⟨j, j, hj, rfl⟩ : Rd) (⟨IntKind.i64.wrap ((j : Int) + 1), j + 1, hj2, hw1⟩ : Rd) hmu fun u hu _ => hu.1.1.1))
    refine t_lit 1 <| t_Y (b := decide (o.k = 2)) 9 (by simpa using hk2) (t_ck (p := (0 : Int) ≤ 0 ∧ (0 : Int) < ((([o] : List Ou).length : Nat) : Int)) (by simp) ?_)
    refine t_lit 9 (t_load (ty := 50) (p := ⟨ad.block, ad.off + 3, none⟩) (v := .int .i64 o.e) (fun u hu _ => reads1 (by kernel_rfl) (o_field hu.1.1.1.2 rfl).2.2.2.1) ?_)
    by_cases he2 : o.e = 0
    rotate_left
    · exact t_lit 1 (t_N (b := decide (o.e = 0)) 30 (by simpa using he2) (t_end (mkL was eg (some ad) [o] k1) (mkB id i m a1) (fun _ u => NM u m a1 ∧ OM u (some ad) k1 [o]) (fun y => 2 - y.j) (⟨j, j, hj, rfl⟩ : Rd) (⟨IntKind.i64.wrap ((j : Int) + 1), j + 1, hj2, hw1⟩ : Rd) hmu fun u hu _ => hu.1.1.1))
    have hnz := h4 ⟨o, rfl, hk2, he2⟩
    refine t_lit 1 <| t_Y (b := decide (o.e = 0)) 1 (by simpa using he2) ?_
    exact t_N (b := !(now.toList == zz.toList)) 30 (by rw [text_eq, decide_eq_true hnz]; rfl) (t_end (mkL was eg (some ad) [o] k1) (mkB id i m a1) (fun _ u => NM u m a1 ∧ OM u (some ad) k1 [o]) (fun y => 2 - y.j) (⟨j, j, hj, rfl⟩ : Rd) (⟨IntKind.i64.wrap ((j : Int) + 1), j + 1, hj2, hw1⟩ : Rd) hmu fun u hu _ => hu.1.1.1)
set_option maxHeartbeats 4000000 in
theorem mints_law (b : Int) (A : Option Addr) (kl : Nat) (l : List Evt) (s : Bool) (id i : Int) (d : ByteArray) (w : World) (hc : Cas w b A l) : Calls Tryz.prog 4 #[.agg #[.int .u8 b, .slice A l.length kl, .bool s], .agg #[.int .i64 id, .int .i64 i], .string d] w fun e w' => e = .returned (.bool true) ∧ Below w.heap.size w w' := by
  refine run_v ?_
  refine t_vb (args := #[]) (fun u _ hb => alive17_any) (t_lit 9 ?_)
  refine t_vb (args := #[.slice A l.length kl, .int .i64 60]) (v := .bool (greatEv l)) (fun u _ hb => xgreat A kl 60 (hc.he.up hb) (by decide)) ?_
  cases hgr : greatEv l with
  | true => exact t_lit 9 (e_r2 (.bool true) rfl)
  | false =>
  have hk := case_ok hc hgr s
  have hx := xcase17 kl s hc hgr
  generalize caseN b l s = n at *
  by_cases h100 : 100 < (d.size : Int)
  · exact t_lit 3 (t_Y (b := decide (100 < (d.size : Int))) 9 (decide_eq_true h100) (e_r2 (.bool true) rfl))
  refine t_lit 3 (t_N (b := decide (100 < (d.size : Int))) 0 (decide_eq_false h100) ?_)
  refine t_call (args := #[.agg #[.int .u8 b, .slice A l.length kl, .bool s]]) (fun u _ hb => hx u (base_below hb)) ?_
  rintro u e u' _ _ ⟨a, rfl, hn, hb⟩
  have ha := aok hn
  refine ⟨_, fun u => NM u n a, rfl, hb, st_nm _ _, hn, ?_⟩
  have hkm := hk.write id i d
  have hol := out_write (n := n) id i d
  have hwm := write_mints (n := n) (id := id) (i := i) (d := d)
  refine t_ck (p := (0 : Int) ≤ 0 ∧ (0 : Int) < ((2 : Nat) : Int)) (by decide) (t_ck (p := (0 : Int) ≤ 1 ∧ (1 : Int) < ((2 : Nat) : Int)) (by decide) ?_)
  refine t_nO (args := #[nodV n a, .int .i64 id, .int .i64 i, .string d]) (fun u hu => wwrite hk (by omega) id i d hu.2) fun a1 O k1 hO ha1 => ?_
  generalize n.write id i d = r at *
  obtain ⟨m, out⟩ := r
  dsimp only at hkm hol hO ha1
  by_cases ho : out.length = 1
  rotate_left
  · exact t_N (b := !((out.length : Int) != 1)) 30 (by simp; omega) (e_r2 (.bool true) rfl)
  obtain ⟨o, rfl⟩ : ∃ o, out = [o] := List.length_eq_one_iff.1 ho
  obtain ⟨ad, rfl⟩ : ∃ ad, O = some ad := hO.resolve_left (by simp)
  have ck3 : (0 : Int) ≤ 0 ∧ (0 : Int) < ((([o] : List Ou).length : Nat) : Int) := by simp
  refine t_Y (b := !((([o] : List Ou).length : Int) != 1)) 9 (by simp) (t_ck ck3 ?_)
  refine t_lit 9 (t_load (ty := 3) (p := ad) (v := .int .i64 o.k) (fun u hu _ => reads1 (by kernel_rfl) (o_field hu.2.2 rfl).1) ?_)
  by_cases hk2 : o.k = 2
  rotate_left
  · exact t_lit 1 (t_N (b := !(o.k != 2)) 30 (by simpa using hk2) (e_r2 (.bool true) rfl))
  refine t_lit 1 (t_Y (b := !(o.k != 2)) 9 (by simpa using hk2) (t_ck ck3 ?_))
  refine t_lit 9 (t_load (ty := 50) (p := ⟨ad.block, ad.off + 3, none⟩) (v := .int .i64 o.e) (fun u hu _ => reads1 (by kernel_rfl) (o_field hu.2.2 rfl).2.2.2.1) ?_)
  by_cases he2 : o.e = 0
  rotate_left
  · exact t_lit 1 (t_Y (b := o.e != 0) 30 (by simpa using he2) (e_r2 (.bool true) rfl))
  refine t_lit 1 (t_N (b := o.e != 0) 9 (by simpa using he2) ?_)
  obtain ⟨hw1, hw2, hw3⟩ := hwm ⟨o, rfl, hk2, he2⟩
  dsimp only at hw1 hw2 hw3
  refine t_ck (p := (0 : Int) ≤ 0 ∧ (0 : Int) < ((2 : Nat) : Int)) (by decide) (t_ck (p := (0 : Int) ≤ 1 ∧ (1 : Int) < ((2 : Nat) : Int)) (by decide) ?_)
  have hmi := write_mi (n := m) (id := id) (i := i) (d := d) hw1
  refine t_nO (args := #[nodV m a1, .int .i64 id, .int .i64 i, .string d]) (fun u hu => wwrite hkm (by omega) id i d hu.2.1) fun a2 O2 k2 _ _ => ?_
  generalize m.write id i d = r2 at *
  obtain ⟨x, out2⟩ := r2
  dsimp only at hmi
  refine t_Y (b := !((x.mi.length : Int) != (m.mi.length : Int))) 2 (by rw [hmi]; simp) ?_
  refine t_N (b := !m.mint) 0 (by rw [hw1]; rfl) ?_
  cases hnm : n.mint with
  | true =>
    obtain ⟨h1, h2⟩ := hw2 hnm
    refine t_yes (b := n.mint) hnm (t_Y (b := decide ((m.mi.length : Int) = (n.mi.length : Int))) 6 (by rw [h1]; simp) ?_)
    refine t_sem (do Go.eqGuard .eql 37 (.tmp 1) (.tmp 1) (supV m.t.b) (supV n.t.b); Go.binOp .eql 37 (supV m.t.b) (supV n.t.b)) (v := .bool true) (fun u _ _ => by rw [sup_sem, h2, Sup.same_self]) ?_
    exact t_lit 30 (e_r2 (.bool true) rfl)
  | false =>
    obtain ⟨g, r, e1, e2, e3⟩ := hw3 hnm
    have hml := hk.ml
    have hlen : n.mi.length < m.mi.length := by rw [e2]; simp
    obtain ⟨dd, hdd⟩ := some_at ha.1 (j := 0) (by rw [e1]; simp)
    obtain ⟨mm, hmm⟩ := some_at ha1.2 hlen
    obtain ⟨aA, ak, aB, am, aD, ap, aM, aq⟩ := a
    obtain ⟨bA, bk, bB, bm, bD, bp, bM, bq⟩ := a1
    dsimp only at hdd hmm
    subst hdd; subst hmm
    have hwr : IntKind.i64.wrap ((n.mi.length : Int) + 1) = ((n.mi.length + 1 : Nat) : Int) := by rw [wrap_i64 (by omega) (by omega)]; push_cast; rfl
    refine t_no (b := n.mint) hnm (t_Y (b := decide ((m.mi.length : Int) = IntKind.i64.wrap ((n.mi.length : Int) + 1))) 3 (by rw [hwr, e2]; simp) ?_)
    refine t_Y (b := decide (0 < (n.dr.length : Int))) 3 (by rw [e1]; simp) ?_
    have hx1 : m.mi[n.mi.length]? = some (⟨g, n.t.b.c, n.id⟩ : Mnt) := by rw [e2]; simp
    have ckd : (0 : Int) ≤ 0 ∧ (0 : Int) < ((n.dr.length : Nat) : Int) := by rw [e1]; simp
    refine t_ck (p := (0 : Int) ≤ (n.mi.length : Int) ∧ (n.mi.length : Int) < (m.mi.length : Int)) ⟨by omega, by omega⟩ ?_
    refine t_lit 9 (t_load (ty := 67) (p := mm.add (n.mi.length * 3)) (v := mnV ⟨g, n.t.b.c, n.id⟩) (fun u hu _ => m_reads hu.1.2.1 rfl hx1) ?_)
    have hd0 : n.dr[0]? = some g := by rw [e1]; rfl
    refine t_lit 9 (t_ck ckd (t_lit 9 (t_load (ty := 32) (p := dd) (v := .int .u64 g) (fun u hu _ => by have := d_reads hu.1.1.2 rfl hd0; simpa [Addr.add] using this) ?_)))
    refine t_lit 9 (t_sem (do Go.eqGuard .eql 67 (.tmp 1) (.tmp 1) (mnV ⟨g, n.t.b.c, n.id⟩) (mnV ⟨g, n.t.b.c, n.id⟩); Go.binOp .eql 67 (mnV ⟨g, n.t.b.c, n.id⟩) (mnV ⟨g, n.t.b.c, n.id⟩)) (v := .bool true) (fun u _ _ => by simp [go_sem, eql_mn, eqM_iff]) ?_)
    refine t_lit 9 (t_ck ckd (t_lit 9 (t_load (ty := 32) (p := dd) (v := .int .u64 g) (fun u hu _ => by have := d_reads hu.1.1.2 rfl hd0; simpa [Addr.add] using this) ?_)))
    exact t_lit 9 (e_r2 (.bool (decide (m.t.b.c = g))) (by rw [e3]; simp))
end
end Go.Proofs.YtabenngcmpjlhaaGreat
