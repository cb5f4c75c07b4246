/- The law: two that meet decide alike. -/
import Derived.Test.YtabenngcmpjlhaaGreatDoorGP
namespace Go.Proofs.YtabenngcmpjlhaaGreatDoor
open Go.RowKit PX
set_option maxRecDepth 100000
section
variable {w : World}
theorem ver_a {n : Nod} {h : Hel} (hi : n.id = 0) : n.verK h = decK n.own h ∧ n.verS h = decS n.own h ∧ n.verB h = bitsB (decK n.own h) n.own h := by
  have e1 : n.first h = n.own := by unfold Nod.first; rw [if_neg (by rw [hi]; decide)]
  have e2 : n.second h = h := by unfold Nod.second; rw [if_neg (by rw [hi]; decide)]
  unfold Nod.verB Nod.verK Nod.verS
  rw [e1, e2]
  exact ⟨rfl, rfl, rfl⟩
theorem ver_b {n : Nod} {h : Hel} (hi : n.id = 1) : n.verK h = decK h n.own ∧ n.verS h = decS h n.own ∧ n.verB h = bitsB (decK h n.own) h n.own := by
  have e1 : n.first h = h := by unfold Nod.first; rw [if_pos hi]
  have e2 : n.second h = n.own := by unfold Nod.second; rw [if_pos hi]
  unfold Nod.verB Nod.verK Nod.verS
  rw [e1, e2]
  exact ⟨rfl, rfl, rfl⟩
theorem two_meet {N q : Nat} {x y : Nod} (hx : NOk N q x) (hy : NOk N q y) (ux : x.up = true) (uy : y.up = true) (ix : x.id = 0) (iy : y.id = 1) (fx : x.t.f = 0) (fy : y.t.f = 0) :
    (decK x.own y.own = 4 ∧ x.met y.own = (x, [⟨3, 0, 0, 0, e1⟩]) ∧ y.met x.own = (y, [⟨3, 1, 0, 0, e1⟩])) ∨
    (decK x.own y.own = 1 ∧ ∃ p r, x.met y.own = (p, []) ∧ y.met x.own = (r, []) ∧ p.st = 2 ∧ r.st = 2 ∧ p.t.b.c = r.t.b.c ∧ p.t.m = 0 ∧ r.t.m = 0) ∨
    (decK x.own y.own ≠ 4 ∧ decK x.own y.own ≠ 1 ∧ (x.met y.own).1.t.m = (y.met x.own).1.t.m ∧
      ((decS x.own y.own = 0 ∧ (x.met y.own).1.st = 3 ∧ (y.met x.own).1.st = 4 ∧ (x.met y.own).1.t.b = x.t.b) ∨
       (decS x.own y.own = 1 ∧ (x.met y.own).1.st = 4 ∧ (y.met x.own).1.st = 3 ∧ (y.met x.own).1.t.b = y.t.b))) := by
  have mx := own_meets hx ux
  have my := own_meets hy uy
  have wx := own_wide hx ux
  have wy := own_wide hy uy
  obtain ⟨ka, sa, ba⟩ := ver_a (h := y.own) ix
  obtain ⟨kb, sb, bb⟩ := ver_b (h := x.own) iy
  by_cases h4 : decK x.own y.own = 4
  · refine .inl ⟨h4, ?_, ?_⟩
    · rw [met_is, if_pos (ka.trans h4)]
      unfold Nod.close
      rw [ix]
    · rw [met_is, if_pos (kb.trans h4)]
      unfold Nod.close
      rw [iy]
  by_cases h1 : decK x.own y.own = 1
  · obtain ⟨p, e1, p2, p3, p4⟩ := none_role (h := y.own) hx ux fx (ka.trans h1)
    obtain ⟨r, e2, r2, r3, r4⟩ := none_role (h := x.own) hy uy fy (kb.trans h1)
    obtain ⟨c, m0, m1, _⟩ := dec_1 x.own y.own mx.c my.c h1
    exact .inr (.inl ⟨h1, p, r, e1, e2, p2, r2, by rw [p4, r4]; exact c, p3.trans m0, r3.trans m1⟩)
  have hlx := hx.live ux
  have hly := hy.live uy
  have nx : x.t.b.n = (N : Int) := hlx.bn
  have hN : (1 : Int) ≤ (N : Int) ∧ (N : Int) ≤ 32 := ⟨by have := hlx.fine.n1; omega, by have := hlx.fine.n32; omega⟩
  have hB : mrightB (bitsB (decK x.own y.own) x.own y.own) (N : Int) = true ∧ x.t.m ||| bitsB (decK x.own y.own) x.own y.own = y.t.m ||| bitsB (decK x.own y.own) x.own y.own := by
    rcases dec_safe x.own y.own with ⟨_, e | e⟩ | ⟨e | e, _, _⟩
    · exact absurd e h1
    · exact absurd e h4
    · rw [e]
      have : bitsB 2 x.own y.own = x.t.m ||| y.t.m := rfl
      rw [this]
      refine ⟨right_uni hlx.mr hly.mr, ?_⟩
      rw [← Nat.or_assoc, Nat.or_self, Nat.or_comm x.t.m y.t.m, ← Nat.or_assoc, Nat.or_self]
    · rw [e]
      have : bitsB 3 x.own y.own = allB x.t.b.n := rfl
      rw [this, nx]
      exact ⟨right_allB hN, by rw [or_allB hlx.mr, or_allB hly.mr]⟩
  refine .inr (.inr ⟨h4, h1, ?_⟩)
  have kx4 : x.verK y.own ≠ 4 := by rw [ka]; exact h4
  have kx1 : x.verK y.own ≠ 1 := by rw [ka]; exact h1
  have ky4 : y.verK x.own ≠ 4 := by rw [kb]; exact h4
  have ky1 : y.verK x.own ≠ 1 := by rw [kb]; exact h1
  have bx : mrightB (x.verB y.own) (N : Int) = true := by rw [ba]; exact hB.1
  have by' : mrightB (y.verB x.own) (N : Int) = true := by rw [bb]; exact hB.1
  rcases dec_safe x.own y.own with ⟨_, e | e⟩ | ⟨_, _, ⟨e, _⟩ | ⟨e, _⟩⟩
  · exact absurd e h1
  · exact absurd e h4
  · have g := give_role (h := y.own) hx ux fx bx kx4 kx1 (by rw [sa, e, ix])
    have t := take_role (h := x.own) hy uy fy wx mx by' ky4 ky1 (by rw [sb, e, iy]; decide)
    refine ⟨?_, .inl ⟨e, g.1, t.1, g.2.2⟩⟩
    rw [g.2.1, t.2, ba, bb]; exact hB.2
  · have g := give_role (h := x.own) hy uy fy by' ky4 ky1 (by rw [sb, e, iy])
    have t := take_role (h := y.own) hx ux fx wy my bx kx4 kx1 (by rw [sa, e, ix]; decide)
    refine ⟨?_, .inr ⟨e, t.1, g.1, g.2.2⟩⟩
    rw [g.2.1, t.2, ba, bb]; exact hB.2
end
end Go.Proofs.YtabenngcmpjlhaaGreatDoor
namespace Go.Proofs.YtabenngcmpjlhaaGreatDoor
open Go.RowKit PX
set_option maxRecDepth 100000
section
variable {w : World}
theorem t_0L {F : Value → S → World → Prop} {K : World → Prop} {t : Tree} {f : FuncId} {args : Array Value} {m : Nod} {r : Nod × List Ou} (e : r = (m, [])) (hc : ∀ u, K u → Below w.heap.size w u → Calls Tryz.prog f args u (GivesN r u)) (h : ∀ a O k, OK ⟨Tryz.prog, tyL, w, [], []⟩ F (t.nv (.tuple #[nodV m a, .slice O 0 k])) fun u => K u ∧ NM u m a) (hd : t.hd = .call (.fn f) args.toList := by kernel_rfl) : OK ⟨Tryz.prog, tyL, w, [], []⟩ F t K :=
  t_call (fun u hu hb => hc u hu (base_below hb)) (fun u e' u' hu hb hr => by
    subst e
    obtain ⟨a, O, k, he, h1, h2, h3, h4⟩ := hr
    exact ⟨_, _, he, h3, st_nm _ _, h1, h a O k⟩) hd
set_option maxHeartbeats 4000000 in
theorem alike_law (b : Int) (A : Option Addr) (kl : Nat) (l : List Evt) (s : Bool) (g : Int) (w : World) (hc : Cas w b A l) (hT : Tab w) (hg : 0 ≤ g ∧ g < 18446744073709551616) : Calls Tryz.prog 8 #[.agg #[.int .u8 b, .slice A l.length kl, .bool s], .int .u64 g] w fun e w' => e = .returned (.bool true) ∧ Below w.heap.size w w' := by
  refine run_v ?_
  have hTu : ∀ u, Below w.heap.size w u → Tab u := fun u hb => hT.below hb hT.size
  refine t_vb (args := #[]) (fun u _ hb => alive19_any (hTu u hb)) (t_lit 9 ?_)
  refine t_vb (args := #[.slice A l.length kl, .int .i64 60]) (v := .bool (greatEv l)) (fun u _ hb => xgreat A kl 60 (hc.he.up hb) (by decide)) ?_
  cases hgr : greatEv l with
  | true => exact t_lit 9 (e_r2 (.bool true) rfl)
  | false =>
  have hkx : NOk (blks b) 300 (reachC (blks b) l).a := case_ok hc hgr false
  have hky : NOk (blks b) 300 (reachC (blks b) l).b := case_ok hc hgr true
  have hix : (reachC (blks b) l).a.id = 0 := (case_ps hc false).2.id
  have hiy : (reachC (blks b) l).b.id = 1 := (case_ps hc true).2.id
  refine t_lit 9 (t_call (args := #[.int .u8 b, .slice A l.length kl]) (fun u _ hb => xreach hc.h0 hc.h1 A l kl (small hgr).1 (fun v hv => ⟨hc.hw v hv, (small hgr).2 v hv⟩) (hc.he.up (base_below hb))) ?_)
  rintro u e u' _ _ ⟨ca, rfl, hcm, hb⟩
  refine ⟨_, fun u => CM u (reachC (blks b) l) ca, rfl, hb, st_cm _ _, hcm, ?_⟩
  generalize (reachC (blks b) l) = c at *
  obtain ⟨x, y, lk, wa, wb⟩ := c
  dsimp only at hkx hky hix hiy
  refine t_ck (p := (0 : Int) ≤ 0 ∧ (0 : Int) < ((2 : Nat) : Int)) (by decide) (t_ck (p := (0 : Int) ≤ 1 ∧ (1 : Int) < ((2 : Nat) : Int)) (by decide) ?_)
  by_cases ux : x.up = true
  rotate_left
  · exact t_N (b := !(!x.up)) 30 (by simpa using ux) (e_r2 (.bool true) rfl)
  refine t_Y (b := !(!x.up)) 2 (by simpa using ux) ?_
  by_cases uy : y.up = true
  rotate_left
  · exact t_N (b := !(!y.up)) 30 (by simpa using uy) (e_r2 (.bool true) rfl)
  refine t_Y (b := !(!y.up)) 2 (by simpa using uy) ?_
  by_cases sx : x.st = 0
  rotate_left
  · exact t_N (b := !(x.st != 0)) 30 (by simpa using sx) (e_r2 (.bool true) rfl)
  refine t_Y (b := !(x.st != 0)) 2 (by simpa using sx) ?_
  by_cases sy : y.st = 0
  rotate_left
  · exact t_N (b := !(y.st != 0)) 30 (by simpa using sy) (e_r2 (.bool true) rfl)
  refine t_Y (b := !(y.st != 0)) 4 (by simpa using sy) ?_
  by_cases fx : 0 < x.t.f
  · exact t_N (b := !(decide (x.t.f > 0))) 30 (by simpa using fx) (e_r2 (.bool true) rfl)
  refine t_Y (b := !(decide (x.t.f > 0))) 4 (by simpa using fx) ?_
  by_cases fy : 0 < y.t.f
  · exact t_Y (b := decide (0 < y.t.f)) 30 (by simpa using fy) (e_r2 (.bool true) rfl)
  refine t_N (b := decide (0 < y.t.f)) 0 (by simpa using fy) ?_
  have kx := hkx.begins hg
  have ky := hky.begins hg
  have h2 := two_meet kx ky ux uy hix hiy (by have := hkx.f0; show x.t.f = 0; omega) (by have := hky.f0; show y.t.f = 0; omega)
  have mx := own_meets kx ux
  have my := own_meets ky uy
  have wx := own_wide kx ux
  have wy := own_wide ky uy
  refine t_nC (args := #[nodV x ca.a, .int .u64 g]) (r := x.begins g) (fun u hu' hb => xBegin19 hkx ux hg hu'.2.a) fun a1 O1 c1 => ?_
  refine t_nC (args := #[nodV y ca.b, .int .u64 g]) (r := y.begins g) (fun u hu' hb => xBegin19 hky uy hg hu'.1.2.b) fun a2 O2 c2 => ?_
  have ix1 : (x.begins g).1.id = 0 := hix
  have iy1 : (y.begins g).1.id = 1 := hiy
  have ux1 : (x.begins g).1.up = true := ux
  have uy1 : (y.begins g).1.up = true := uy
  generalize x.begins g = rx at *
  generalize y.begins g = ry at *
  obtain ⟨x1, ox⟩ := rx
  obtain ⟨y1, oy⟩ := ry
  dsimp only at kx ky h2 mx my wx wy ix1 iy1 ux1 uy1
  refine t_v (args := #[nodV y1 a2]) (fun u _ => yown19 y1 a2 u) ?_
  have G1 := fun u (hu : NM u x1 a1) hb => gmet (w := u) kx (by omega) ux1 (.inl ix1) wy my (hTu u hb) hu
  have G2 := fun u (hu : NM u y1 a2) hb => gmet (w := u) ky (by omega) uy1 (.inr iy1) wx mx (hTu u hb) hu
  rcases h2 with ⟨h4, E1, E2⟩ | ⟨h1, p, r, E1, E2, p1, p2, p3, p4, p5⟩ | ⟨h4, h1, em, hR⟩
  · refine t_1L (args := #[nodV x1 a1, helV y1.own]) E1 (fun u hu hb => G1 u hu.1.2.1 hb) fun a3 A3 c3 => ?_
    refine t_v (args := #[nodV x1 a1]) (fun u _ => yown19 x1 a1 u) ?_
    refine t_1L (args := #[nodV y1 a2, helV x1.own]) E2 (fun u hu hb => G2 u hu.1.2.1 hb) fun a4 A4 c4 => ?_
    refine t_v (args := #[nodV x1 a1]) (fun u _ => yown19 x1 a1 u) ?_
    refine t_v (args := #[nodV y1 a2]) (fun u _ => yown19 y1 a2 u) ?_
    refine t_v (args := #[helV x1.own, helV y1.own]) (fun u _ => xdecide mx my u) ?_
    rw [h4]
    have ck2 : (0 : Int) ≤ 0 ∧ (0 : Int) < ((1 : Nat) : Int) := by decide
    refine t_lit 9 (t_ck ck2 (t_lit 9 (t_load (ty := 91) (p := A3) (v := ouV ⟨3, 0, 0, 0, e1⟩) (fun u hu _ => o_reads hu.1.2.2) ?_)))
    refine t_lit 9 (t_sem (do Go.eqGuard .eql 91 (.tmp 1) (.tmp 1) (ouV ⟨3, 0, 0, 0, e1⟩) (ouV ⟨3, 0, 0, 0, e1⟩); Go.binOp .eql 91 (ouV ⟨3, 0, 0, 0, e1⟩) (ouV ⟨3, 0, 0, 0, e1⟩)) (v := .bool true) (fun u _ _ => by rw [eql_ouS, eqO_iff.2 rfl]) ?_)
    refine t_lit 9 (t_ck ck2 (t_lit 9 (t_load (ty := 91) (p := A4) (v := ouV ⟨3, 1, 0, 0, e1⟩) (fun u hu _ => o_reads hu.2.2) ?_)))
    refine t_lit 9 (t_sem (do Go.eqGuard .eql 91 (.tmp 1) (.tmp 1) (ouV ⟨3, 1, 0, 0, e1⟩) (ouV ⟨3, 1, 0, 0, e1⟩); Go.binOp .eql 91 (ouV ⟨3, 1, 0, 0, e1⟩) (ouV ⟨3, 1, 0, 0, e1⟩)) (v := .bool true) (fun u _ _ => by rw [eql_ouS, eqO_iff.2 rfl]) ?_)
    refine t_lit 30 (t_v (args := #[nodV x1 a3, nodV x1 a1]) (fun u hu => kx.xs kx hu.1.2.1 hu.1.1.1.2.1 true (by simp)) ?_)
    refine t_lit 30 (t_v (args := #[nodV y1 a4, nodV y1 a2]) (fun u hu => ky.xs ky hu.2.1 hu.1.1.2.1 true (by simp)) ?_)
    exact t_lit 30 (e_r2 (.bool true) rfl)
  · refine t_0L (args := #[nodV x1 a1, helV y1.own]) E1 (fun u hu hb => G1 u hu.1.2.1 hb) fun a3 A3 c3 => ?_
    refine t_v (args := #[nodV x1 a1]) (fun u _ => yown19 x1 a1 u) ?_
    refine t_0L (args := #[nodV y1 a2, helV x1.own]) E2 (fun u hu hb => G2 u hu.1.2.1 hb) fun a4 A4 c4 => ?_
    refine t_v (args := #[nodV x1 a1]) (fun u _ => yown19 x1 a1 u) ?_
    refine t_v (args := #[nodV y1 a2]) (fun u _ => yown19 y1 a2 u) ?_
    refine t_v (args := #[helV x1.own, helV y1.own]) (fun u _ => xdecide mx my u) ?_
    rw [h1]
    exact t_lit 2 (t_Y (b := decide (p.st = 2)) 2 (by simpa using p1) (t_Y (b := decide (r.st = 2)) 16 (by simpa using p2) (t_Y (b := decide (p.t.b.c = r.t.b.c)) 30 (by simpa using p3) (e_r2 (.bool (decide (IntKind.u32.wrap ((p.t.m : Int) + (r.t.m : Int)) = 0))) (by rw [p4, p5]; rfl)))))
  · obtain ⟨p, hp⟩ : ∃ p, p = x1.met y1.own := ⟨_, rfl⟩
    obtain ⟨r, hr⟩ : ∃ r, r = y1.met x1.own := ⟨_, rfl⟩
    rw [← hp, ← hr] at em hR
    refine t_nC (args := #[nodV x1 a1, helV y1.own]) (r := p) (fun u hu hb => by rw [hp]; exact G1 u hu.1.2.1 hb) fun a3 A3 c3 => ?_
    refine t_v (args := #[nodV x1 a1]) (fun u _ => yown19 x1 a1 u) ?_
    refine t_nC (args := #[nodV y1 a2, helV x1.own]) (r := r) (fun u hu hb => by rw [hr]; exact G2 u hu.1.2.1 hb) fun a4 A4 c4 => ?_
    refine t_v (args := #[nodV x1 a1]) (fun u _ => yown19 x1 a1 u) ?_
    refine t_v (args := #[nodV y1 a2]) (fun u _ => yown19 y1 a2 u) ?_
    refine t_v (args := #[helV x1.own, helV y1.own]) (fun u _ => xdecide mx my u) ?_
    obtain ⟨p, po⟩ := p
    obtain ⟨r, ro⟩ := r
    generalize decK x1.own y1.own = K at *
    generalize decS x1.own y1.own = S at *
    refine t_N (b := decide (K = 4)) 0 (by simpa using h4) ?_
    refine t_N (b := decide (K = 1)) 0 (by simpa using h1) ?_
    dsimp only at em hR
    rcases hR with ⟨hS, q1, q2, q3⟩ | ⟨hS, q1, q2, q3⟩
    · refine t_Y (b := decide (S = 0)) 0 (by simpa using hS) ?_
      refine t_Y (b := decide (p.st = 3)) 2 (by simpa using q1) ?_
      refine t_Y (b := decide (r.st = 4)) 6 (by simpa using q2) ?_
      refine t_Y (b := decide ((p.t.m : Int) = (r.t.m : Int))) 9 (by rw [em]; simp) ?_
      refine t_sem (do Go.eqGuard .eql 36 (.tmp 1) (.tmp 1) (supV p.t.b) (supV x1.t.b); Go.binOp .eql 36 (supV p.t.b) (supV x1.t.b)) (v := .bool true) (fun u _ _ => by rw [sup_sem, q3, Sup.same_iff.2 rfl]) ?_
      exact t_lit 30 (e_r2 (.bool true) rfl)
    refine t_N (b := decide (S = 0)) 0 (by rw [hS]; rfl) ?_
    refine t_Y (b := decide (p.st = 4)) 2 (by simpa using q1) ?_
    refine t_Y (b := decide (r.st = 3)) 6 (by simpa using q2) ?_
    refine t_Y (b := decide ((p.t.m : Int) = (r.t.m : Int))) 9 (by rw [em]; simp) ?_
    refine t_sem (do Go.eqGuard .eql 36 (.tmp 1) (.tmp 1) (supV r.t.b) (supV y1.t.b); Go.binOp .eql 36 (supV r.t.b) (supV y1.t.b)) (v := .bool true) (fun u _ _ => by rw [sup_sem, q3, Sup.same_iff.2 rfl]) ?_
    exact t_lit 30 (e_r2 (.bool true) rfl)
end
end Go.Proofs.YtabenngcmpjlhaaGreatDoor
