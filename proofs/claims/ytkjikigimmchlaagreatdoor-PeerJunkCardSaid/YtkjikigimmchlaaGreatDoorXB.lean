/- Clusters: a new one. -/
import Derived.Test.YtkjikigimmchlaaGreatDoorX8
import Derived.Test.YtkjikigimmchlaaGreatDoorPS
namespace Go.Proofs.YtkjikigimmchlaaGreatDoor
open Go.RowKit PX
set_option maxRecDepth 100000
set_option linter.unusedSimpArgs false
section
variable {N q : Nat} {w : World} {c : Clu} {x : CAd}
theorem ran1 (c : Clu) (v : Evt) (hn : v.n = 1) : c.doEv v = c.ev1 v c.b := by simp [Clu.doEv, Clu.nd, hn]
theorem e_aft1 {K : World → Prop} {t : Tree} (n : Nod) (a : Adr) (l : List Ou) (O : Option Addr) (k : Nat) (hK : ∀ u, K u → CM u c x ∧ NM u n a ∧ OM u O k l) (hl : l.length ≤ 3) (hs : LLen 9000 c.l) (hA : Loses n) (hZ : Loses c.a) (hd : t.hd = .call (.fn 100) [cluV c x, .int .i64 1, nodV n a, .slice O l.length k] := by kernel_rfl)
    (hd2 : ∀ x' A k, (t.nv (.tuple #[cluV (c.after 1 n l).1 x', .slice A (c.after 1 n l).2.length k])).hd = .ret (.tuple #[cluV (c.after 1 n l).1 x', .slice A (c.after 1 n l).2.length k]) := by intro x' A k; kernel_rfl) : OK ⟨Tryz.prog, tyL, w, [], []⟩ (fun y _ u => GivesC (c.after 1 n l) w (.returned y) u) t K :=
  t_C (args := #[cluV c x, .int .i64 1, nodV n a, .slice O l.length k]) (fun u hu => xafter1 (w := u) c x n a l O k (hK u hu).1 (hK u hu).2.1 (hK u hu).2.2 (Nat.le_trans hl (by decide)) (Nat.le_trans hs.1 (by decide)) (Nat.le_trans hs.2 (by decide)) hZ hA) (fun x' A k => e_C x' _ (fun u hu => ⟨hu.2.1, hu.2.2.1⟩) (hd2 x' A k)) hd
theorem xdo1 (h : COk N q c) (hq : q ≤ 870) (hs : Short c) (v : Evt) (hn : v.n = 1) (hv : v.wide) (hd : (v.d.size : Int) ≤ 3000) (K : Option Addr) (kc : Nat) (hk : Es Value.bool w w.heap.size K v.keeps) (hkl : v.keeps.length ≤ maxLen) (hc : CM w c x) : Calls Tryz.prog 53 #[cluV c x, evV v K kc] w (GivesC (c.doEv v) w) := by
  rw [ran1 c v hn]
  obtain ⟨k, nn, id, i, d, g, keeps⟩ := v
  subst hn
  have hA : Loses c.b := loses_of h.b (by omega)
  have hZ : Loses c.a := loses_of h.a (by omega)
  have cs : ∀ x : Bool, (!x) = true ∧ x = false ∨ (!x) = false ∧ x = true := by decide
  refine run (st_cm c x) hc ?_
  refine t_lit 9 (t_ix 1 ?_)
  by_cases h1 : k = 1
  · subst h1
    rw [show c.ev1 ⟨1, 1, id, i, d, g, keeps⟩ c.b = c.after 1 (c.b.promote id).1 (c.b.promote id).2 from rfl]
    exact t_Y 9 rfl (t_n (fun u hu => xpromote (w := u) h.b (by omega) id hu.b) fun a1 O1 k1 => e_aft1 (c.b.promote id).1 a1 (c.b.promote id).2 O1 k1 (fun u hu => ⟨hu.1, hu.2.1, hu.2.2.1⟩) (out_promote id) hs.l (loses_of (h.b.promote id) (by omega)) hZ)
  refine t_N 0 (ine h1) ?_
  by_cases h2 : k = 2
  · subst h2
    rw [show c.ev1 ⟨2, 1, id, i, d, g, keeps⟩ c.b = c.after 1 (c.b.demote id).1 (c.b.demote id).2 from rfl]
    exact t_Y 9 rfl (t_n (fun u hu => xdemote (w := u) h.b (by omega) id hu.b) fun a1 O1 k1 => e_aft1 (c.b.demote id).1 a1 (c.b.demote id).2 O1 k1 (fun u hu => ⟨hu.1, hu.2.1, hu.2.2.1⟩) (out_demote id) hs.l (loses_of (h.b.demote id) (by omega)) hZ)
  refine t_N 0 (ine h2) ?_
  by_cases h3 : k = 3
  · subst h3
    rw [show c.ev1 ⟨3, 1, id, i, d, g, keeps⟩ c.b = c.after 1 (c.b.discard id).1 (c.b.discard id).2 from rfl]
    exact t_Y 9 rfl (t_n (fun u hu => xdiscard (w := u) h.b (by omega) id hu.b) fun a1 O1 k1 => e_aft1 (c.b.discard id).1 a1 (c.b.discard id).2 O1 k1 (fun u hu => ⟨hu.1, hu.2.1, hu.2.2.1⟩) (out_discard id) hs.l (loses_of (h.b.discard id) (by omega)) hZ)
  refine t_N 0 (ine h3) ?_
  by_cases h4 : k = 4
  · subst h4
    rw [show c.ev1 ⟨4, 1, id, i, d, g, keeps⟩ c.b = c.after 1 (c.b.read id i).1 (c.b.read id i).2 from rfl]
    exact t_Y 9 rfl (t_n (fun u hu => xread (w := u) h.b (by omega) id i hu.b) fun a1 O1 k1 => e_aft1 (c.b.read id i).1 a1 (c.b.read id i).2 O1 k1 (fun u hu => ⟨hu.1, hu.2.1, hu.2.2.1⟩) (out_read id i) hs.l (loses_of (h.b.read id i) (by omega)) hZ)
  refine t_N 0 (ine h4) ?_
  by_cases h5 : k = 5
  · subst h5
    rw [show c.ev1 ⟨5, 1, id, i, d, g, keeps⟩ c.b = c.after 1 (c.b.write id i d).1 (c.b.write id i d).2 from rfl]
    exact t_Y 9 rfl (t_n (fun u hu => xwrite (w := u) h.b (by omega) id i d hu.b) fun a1 O1 k1 => e_aft1 (c.b.write id i d).1 a1 (c.b.write id i d).2 O1 k1 (fun u hu => ⟨hu.1, hu.2.1, hu.2.2.1⟩) (out_write id i d) hs.l (loses_of (h.b.write id i d) (by omega)) hZ)
  refine t_N 0 (ine h5) ?_
  by_cases h6 : k = 6
  · subst h6
    rw [show c.ev1 ⟨6, 1, id, i, d, g, keeps⟩ c.b = c.connect 1 from rfl]
    exact t_Y 9 rfl (t_C (fun u hu => xconnect1 (w := u) h (by omega) hu) fun x' A m => e_C x' _ fun u hu => ⟨hu.2.1, hu.2.2.1⟩)
  refine t_N 0 (ine h6) ?_
  by_cases h7 : k = 7
  · subst h7
    refine t_Y 9 rfl (t_ix 1 ?_)
    rcases cs c.l.u with ⟨g1, g2⟩ | ⟨g1, g2⟩
    · rw [show c.ev1 ⟨7, 1, id, i, d, g, keeps⟩ c.b = (⟨c.a, c.b, c.l, c.wa, false⟩, []) from by simp [Clu.ev1, Clu.ev2, Clu.ev3, Clu.ev4, Clu.setW, g2]]
      exact t_Y 9 g1 (e_C x (.slice none 0 0) fun u hu => ⟨⟨hu.a, hu.b, hu.l⟩, rw_nil _ _⟩)
    · rw [show c.ev1 ⟨7, 1, id, i, d, g, keeps⟩ c.b = Clu.ends ⟨c.a, c.b, c.l, c.wa, false⟩ [] from by simp [Clu.ev1, Clu.ev2, Clu.ev3, Clu.ev4, Clu.setW, g2]]
      exact t_N 9 g1 (t_E ⟨c.a, c.b, c.l, c.wa, false⟩ x (.slice none 0 0) [] (fun u hu => ⟨⟨hu.a, hu.b, hu.l⟩, rw_nil _ _⟩) (Nat.zero_le _) hZ hA fun x' v' => e_C x' v' fun u hu => hu)
  refine t_N 0 (ine h7) ?_
  by_cases h8 : k = 8
  · subst h8
    refine t_Y 1 rfl ?_
    rcases cs c.l.u with ⟨g1, g2⟩ | ⟨g1, g2⟩
    · rw [show c.ev1 ⟨8, 1, id, i, d, g, keeps⟩ c.b = (c, []) from by simp [Clu.ev1, Clu.ev2, Clu.ev3, Clu.ev4, g2]]
      exact t_Y 9 g1 (e_C x (.slice none 0 0) fun u hu => ⟨⟨hu.a, hu.b, hu.l⟩, rw_nil _ _⟩)
    · rw [show c.ev1 ⟨8, 1, id, i, d, g, keeps⟩ c.b = c.ends [] from by simp [Clu.ev1, Clu.ev2, Clu.ev3, Clu.ev4, g2]]
      exact t_N 9 g1 (t_E c x (.slice none 0 0) [] (fun u hu => ⟨hu, rw_nil _ _⟩) (Nat.zero_le _) hZ hA fun x' v' => e_C x' v' fun u hu => hu)
  refine t_N 0 (ine h8) ?_
  by_cases h9 : k = 9
  · subst h9
    refine t_Y 0 rfl (st_k (fun u hu => rktake_any c.l x.A x.B x.n x.m 1 u hu.l (Nat.le_trans hs.l.1 (by decide)) (Nat.le_trans hs.l.2 (by decide))) fun A2 n2 B2 m2 => ?_)
    rcases cs (c.l.takes 1) with ⟨g1, g2⟩ | ⟨g1, g2⟩
    · rw [show c.ev1 ⟨9, 1, id, i, d, g, keeps⟩ c.b = (c, []) from by simp [Clu.ev1, Clu.ev2, Clu.ev3, Clu.ev4, g2]]
      exact t_Y 9 g1 (e_C x (.slice none 0 0) fun u hu => ⟨hu.1, rw_nil _ _⟩)
    · rw [show c.ev1 ⟨9, 1, id, i, d, g, keeps⟩ c.b = Clu.after ⟨c.a, c.b, c.l.taken 1, c.wa, c.wb⟩ 1 (c.b.receive (c.l.first 1)).1 (c.b.receive (c.l.first 1)).2 from by simp [Clu.ev1, Clu.ev2, Clu.ev3, Clu.ev4, g2]]
      exact t_N 9 g1 (t_n (fun u hu => xreceive (w := u) h.b (by omega) (c.l.first 1) (hs.f 1) hu.1.b) fun a1 O1 k1 => e_aft1 (c := ⟨c.a, c.b, c.l.taken 1, c.wa, c.wb⟩) (x := ⟨x.a, x.b, A2, n2, B2, m2⟩) (c.b.receive (c.l.first 1)).1 a1 (c.b.receive (c.l.first 1)).2 O1 k1 (fun u hu => ⟨⟨hu.1.1.a, hu.1.1.b, hu.1.2⟩, hu.2.1, hu.2.2.1⟩) (out_receive _) (llen_taken hs.l 1) (loses_of (h.b.receive _ (read_wide _ _)) (by omega)) hZ)
  refine t_N 0 (ine h9) ?_
  by_cases h10 : k = 10
  · subst h10
    refine t_Y 0 rfl ?_
    rcases cs c.b.up with ⟨g1, g2⟩ | ⟨g1, g2⟩
    · rw [show c.ev1 ⟨10, 1, id, i, d, g, keeps⟩ c.b = (c, []) from by simp [Clu.ev1, Clu.ev2, Clu.ev3, Clu.ev4, g2]]
      exact t_Y 9 g1 (e_C x (.slice none 0 0) fun u hu => ⟨⟨hu.a, hu.b, hu.l⟩, rw_nil _ _⟩)
    · rw [show c.ev1 ⟨10, 1, id, i, d, g, keeps⟩ c.b = c.after 1 c.b.down [] from by simp [Clu.ev1, Clu.ev2, Clu.ev3, Clu.ev4, g2]]
      exact t_N 9 g1 (t_a (fun u hu => ydown c.b x.b u hu.b) fun a1 => e_aft1 c.b.down a1 [] none 0 (fun u hu => ⟨hu.1, hu.2, om_nil u⟩) (Nat.zero_le _) hs.l (loses_of h.b.down (by omega)) hZ)
  refine t_N 0 (ine h10) ?_
  by_cases h11 : k = 11
  · subst h11
    have hat := h.b.attach keeps
    refine t_Y 0 rfl (t_call (fun u hu hb => xattach (w := u) h.b (by omega) K keeps kc (hk.up (base_below hb)) hkl hu.b) ?_)
    rintro u e' u' hu hb ⟨a1, he, h1, h2⟩
    refine ⟨_, _, he, h2, st_nm (c.b.attach keeps).1 a1, h1, ?_⟩
    refine t_ix 1 (t_v (fun u _ => yreply (c.b.attach keeps).1 a1 id (c.b.attach keeps).2 e1 u) (t_o ((c.b.attach keeps).1.reply id (c.b.attach keeps).2 e1) fun r hr => ?_))
    rw [show c.ev1 ⟨11, 1, id, i, d, g, keeps⟩ c.b = (⟨c.a, (c.b.attach keeps).1, c.l, c.wa, c.wb⟩, [(c.b.attach keeps).1.reply id (c.b.attach keeps).2 e1]) from by simp [Clu.ev1, Clu.ev2, Clu.ev3, Clu.setN]]
    exact e_C ⟨x.a, a1, x.A, x.n, x.B, x.m⟩ (.slice (some ⟨r, 0, none⟩) 1 1) fun u hu => ⟨⟨hu.1.1.a, hu.1.2, hu.1.1.l⟩, rw_box hr hu.2⟩
  refine t_N 0 (ine h11) ?_
  by_cases h12 : k = 12
  · subst h12
    refine t_Y 0 rfl ?_
    rcases cs c.b.up with ⟨g1, g2⟩ | ⟨g1, g2⟩
    · rw [show c.ev1 ⟨12, 1, id, i, d, g, keeps⟩ c.b = c.after 1 c.b [] from by simp [Clu.ev1, Clu.ev2, Clu.ev3, Clu.ev4, g2]]
      exact t_N 9 g2 (e_aft1 c.b x.b [] none 0 (fun u hu => ⟨hu, hu.b, om_nil u⟩) (Nat.zero_le _) hs.l hA hZ)
    · have hg := hv.1
      have hw : IntKind.i64.wrap (if (1000 : Int) < g then 1000 else g) = min g 1000 := by dsimp only at hg; rw [wrap_i64 (by split <;> omega) (by split <;> omega)]; split <;> omega
      have hm0 : ¬ (min g 1000 : Int) < 0 := by dsimp only at hg; omega
      rw [show c.ev1 ⟨12, 1, id, i, d, g, keeps⟩ c.b = c.after 1 { c.b with t := { c.b.t with f := min g 1000 } } [] from by simp [Clu.ev1, Clu.ev2, Clu.ev3, Clu.ev4, g2]]
      refine t_Y 0 g2 (t_v (v := .agg #[.slice x.b.A c.b.t.s.length x.b.k, .slice x.b.B c.b.t.c.length x.b.m, .int .i64 (min g 1000), .bool c.b.t.x]) (args := #[.agg #[.slice x.b.A c.b.t.s.length x.b.k, .slice x.b.B c.b.t.c.length x.b.m, .int .i64 c.b.t.f, .bool c.b.t.x], .int .i64 (IntKind.i64.wrap (if (1000 : Int) < g then 1000 else g))]) (fun u _ => by
        have := rarm_any x.b.A x.b.B c.b.t.s.length x.b.k c.b.t.c.length x.b.m c.b.t.f (IntKind.i64.wrap (if (1000 : Int) < g then 1000 else g)) c.b.t.x u
        rw [hw, if_neg hm0] at this
        rw [hw]
        exact this) ?_)
      exact e_aft1 { c.b with t := { c.b.t with f := min g 1000 } } x.b [] none 0 (fun u hu => ⟨hu, ⟨hu.b.t, hu.b.d, hu.b.dn, hu.b.dt, hu.b.mi, hu.b.mn, hu.b.mt⟩, om_nil u⟩) (Nat.zero_le _) hs.l (loses_of (q := q) ⟨h.b.fine, h.b.len, by show 0 ≤ min g 1000; dsimp only at hg; omega, by show min g 1000 ≤ 1000; omega, fun _ => whole_arm (h.b.live g2) (by dsimp only at hg; omega), h.b.ses, h.b.peer, h.b.dr, h.b.mi, h.b.dl, h.b.ml⟩ (by omega)) hZ
  refine t_N 0 (ine h12) ?_
  by_cases h13 : k = 13
  · subst h13
    refine t_Y 0 rfl ?_
    by_cases hdl : c.b.dr.length < 1000
    · refine t_Y (b := decide ((c.b.dr.length : Int) < 1000)) 0 (decide_eq_true (by omega)) (t_fresh 31 [] fun r1 hr1 => ?_)
      rw [show c.ev1 ⟨13, 1, id, i, d, g, keeps⟩ c.b = (⟨c.a, { c.b with dr := c.b.dr ++ [g] }, c.l, c.wa, c.wb⟩, []) from by simp [Clu.ev1, Clu.ev2, Clu.ev3, Clu.ev4, Clu.setN, hdl]]
      refine t_az 44 44 31 1 8 (.int .u64 0) Tryz.underlying44 info23 rfl (by decide) rfl (by decide) r1 x.b.D x.b.p c.b.dr.length (c.b.dr.map (.int .u64)) (fun u hu => hu.2) hr1 (by simp) (fun e => ?_) (fun u hu ad e j y hy => ?_) (fun y hy => ?_) (by omega) fun A1 c1 => ?_
      · refine ⟨hc.b.dn.1 e, ?_⟩
        cases hdr : c.b.dr with
        | nil => rfl
        | cons y l => obtain ⟨_, e2, _⟩ := hc.b.d 0 y (by rw [hdr]; rfl); rw [e] at e2; cases e2
      · have hE := hu.1.b.d
        rw [e] at hE
        exact us_cells hE j y hy
      · obtain ⟨z, _, rfl⟩ := List.mem_map.1 hy
        rfl
      refine t_fresh 31 [.int .u64 g] fun r2 hr2 => ?_
      refine t_ap 44 44 31 1 8 (.int .u64 0) Tryz.underlying44 info23 rfl (by decide) rfl (by decide) (fun u => CM u c x) (st_cm c x) A1 c.b.dr.length c1 (c.b.dr.map (.int .u64)) ⟨r2, 0, none⟩ 1 1 [.int .u64 g] (fun u hu => ⟨hu.1.2, ?_⟩) (c.b.dr ++ [g]).length (by simp) rfl (fun y hy => by rw [List.mem_singleton.1 hy]; rfl) (by omega) (fun u u' hu hb hq => hc.up hb) fun A3 c3 => ?_
      · intro j y hy
        rw [Addr.add_mid, BoxO.cell hu.2, Nat.zero_add]
        exact hy
      refine t_ix 1 (e_C ⟨x.a, ⟨x.b.A, x.b.k, x.b.B, x.b.m, A3, c3, x.b.M, x.b.q⟩, x.A, x.n, x.B, x.m⟩ (.slice none 0 0) fun u hu => ⟨⟨hu.1.a, ?_, hu.1.l⟩, rw_nil _ _⟩)
      have h2 := hu.2
      rw [show c.b.dr.map (Value.int .u64) ++ [Value.int .u64 g] = (c.b.dr ++ [g]).map (.int .u64) from by simp] at h2
      exact NM.withD (n := c.b) (a := x.b) hu.1.b h2
    · rw [show c.ev1 ⟨13, 1, id, i, d, g, keeps⟩ c.b = (c, []) from by simp [Clu.ev1, Clu.ev2, Clu.ev3, Clu.ev4, Clu.setN, hdl]]
      exact t_N (b := decide ((c.b.dr.length : Int) < 1000)) 9 (decide_eq_false (by omega)) (t_ix 1 (e_C x (.slice none 0 0) fun u hu => ⟨⟨hu.a, hu.b, hu.l⟩, rw_nil _ _⟩))
  refine t_N 0 (ine h13) ?_
  by_cases h14 : k = 14
  · subst h14
    refine t_Y 0 rfl (t_v (fun u _ => rpread_any d c.l.s u hd) ?_)
    by_cases h0 : (readP d c.l.s).2 = 0
    · rw [show c.ev1 ⟨14, 1, id, i, d, g, keeps⟩ c.b = (c, []) from by simp [Clu.ev1, Clu.ev2, Clu.ev3, Clu.ev4, h0]]
      exact t_Y 9 (ieq h0) (e_C x (.slice none 0 0) fun u hu => ⟨⟨hu.a, hu.b, hu.l⟩, rw_nil _ _⟩)
    · rw [show c.ev1 ⟨14, 1, id, i, d, g, keeps⟩ c.b = c.after 1 (c.b.receive d).1 (c.b.receive d).2 from by simp [Clu.ev1, Clu.ev2, Clu.ev3, Clu.ev4, h0]]
      exact t_N 9 (ine h0) (t_n (fun u hu => xreceive (w := u) h.b (by omega) d hd hu.b) fun a1 O1 k1 => e_aft1 (c.b.receive d).1 a1 (c.b.receive d).2 O1 k1 (fun u hu => ⟨hu.1, hu.2.1, hu.2.2.1⟩) (out_receive _) hs.l (loses_of (h.b.receive _ (read_wide _ _)) (by omega)) hZ)
  rw [show c.ev1 ⟨k, 1, id, i, d, g, keeps⟩ c.b = (c, []) from by simp [Clu.ev1, Clu.ev2, Clu.ev3, Clu.ev4, h1, h2, h3, h4, h5, h6, h7, h8, h9, h10, h11, h12, h13, h14]]
  exact t_N 9 (ine h14) (e_C x (.slice none 0 0) fun u hu => ⟨⟨hu.a, hu.b, hu.l⟩, rw_nil _ _⟩)
theorem xdo (h : COk N q c) (hq : q ≤ 870) (hs : Short c) (v : Evt) (hv : v.wide) (hd : (v.d.size : Int) ≤ 3000) (K : Option Addr) (kc : Nat) (hk : Es Value.bool w w.heap.size K v.keeps) (hkl : v.keeps.length ≤ maxLen) (hc : CM w c x) : Calls Tryz.prog 53 #[cluV c x, evV v K kc] w (GivesC (c.doEv v) w) := by
  by_cases h0 : v.n = 0
  · exact xdo0 h hq hs v h0 hv hd K kc hk hkl hc
  by_cases h1 : v.n = 1
  · exact xdo1 h hq hs v h1 hv hd K kc hk hkl hc
  refine run (st_cm c x) hc ?_
  rw [show c.doEv v = (c, []) from by simp [Clu.doEv, h0, h1]]
  refine t_Y (b := v.n != 0) 1 (by simpa using h0) ?_
  exact (t_Y (b := v.n != 1) 9 (by simpa using h1) (e_C x (.slice none 0 0) fun u hu => ⟨⟨hu.a, hu.b, hu.l⟩, rw_nil _ _⟩))
end
end Go.Proofs.YtkjikigimmchlaaGreatDoor
namespace Go.Proofs.YtkjikigimmchlaaGreatDoor
open Go.RowKit PX
set_option maxRecDepth 100000
def evC (v : Evt) (K : Option Addr) (kc : Nat) : List Value := [.int .i64 v.k, .int .i64 v.n, .int .i64 v.id, .int .i64 v.i, .string v.d, .int .u64 v.g, .slice K v.keeps.length kc]
def Evs (w : World) (A : Option Addr) (l : List Evt) : Prop := ∀ j v, l[j]? = some v → ∃ a K kc, A = some a ∧ a.block < w.heap.size ∧ Es Value.bool w w.heap.size K v.keeps ∧ v.keeps.length ≤ maxLen ∧ ∀ i y, (evC v K kc)[i]? = some y → w.cell? ((a.add (j * 7)).add i) = some y
theorem play_snoc (e : Evt) : ∀ (l : List Evt) (c : Clu), c.play (l ++ [e]) = (((c.play l).1.doEv e).1, (c.play l).2 ++ ((c.play l).1.doEv e).2)
  | [], c => by simp [Clu.play]
  | v :: r, c => by simp only [List.cons_append, Clu.play, play_snoc e r, List.append_assoc]
structure Pl (c0 : Clu) (l : List Evt) where
  k : Int
  v : Value
  x : CAd
  c : Clu
  j : Nat
  hj : j ≤ l.length
  hk : k = j
  hc : c = (c0.play (l.take j)).1
section
variable {N q : Nat} {w : World} {c : Clu} {x : CAd} {l : List Evt}
def plL (A : Option Addr) (kl : Nat) (y : Pl c l) : List (Nat × AV) := [(1, .v (.slice A l.length kl)), (2, .lp 0 0), (4, .lp 1 0), (6, .v y.v), (7, .v (.int .i64 y.k))]
def plB (y : Pl c l) : List (Nat × Blk) := [(0, (67, cluC y.c y.x)), (1, (67, cluC Clu.zero CAd.zero))]
def plK (w : World) (y : Pl c l) (u : World) : Prop := CM u y.c y.x ∧ Rw w y.v (c.play (l.take y.j)).2 u
structure Way (N : Nat) (c : Clu) (l : List Evt) : Prop where
  ok : ∀ j, j ≤ l.length → COk N 870 (c.play (l.take j)).1
  sh : ∀ j, j ≤ l.length → Short (c.play (l.take j)).1
  len : ∀ j, j ≤ l.length → (c.play (l.take j)).2.length ≤ 500000
  wd : ∀ v ∈ l, v.wide ∧ (v.d.size : Int) ≤ 3000
theorem t_Cb {F : Value → S → World → Prop} {K : World → Prop} {t : Tree} {f : FuncId} {args : Array Value} {r : Clu × List Ou} (hc : ∀ u, K u → Below w.heap.size w u → Calls Tryz.prog f args u (GivesC r u)) (h : ∀ x' A k, OK ⟨Tryz.prog, tyL, w, [], []⟩ F (t.nv (.tuple #[cluV r.1 x', .slice A r.2.length k])) fun u => K u ∧ CM u r.1 x' ∧ Rw w (.slice A r.2.length k) r.2 u ∧ OM u A k r.2) (hd : t.hd = .call (.fn f) args.toList := by kernel_rfl) : OK ⟨Tryz.prog, tyL, w, [], []⟩ F t K :=
  t_call (fun u hu hb => hc u hu (base_below hb)) (fun u e u' hu hb hr => by
    obtain ⟨x', v, he, h1, h2, h3⟩ := hr
    obtain ⟨A, k, rfl, ho, _⟩ := h2.om
    exact ⟨_, _, he, h3, (st_cm _ _).and ((st_rw _ _ _).and (st_om _ _ _)), ⟨h1, h2.less (base_size hb), ho⟩, h x' A k⟩) hd
theorem xplay (A : Option Addr) (kl : Nat) (hw : Way N c l) (hll : l.length ≤ 100000) (he : Evs w A l) (hc : CM w c x) : Calls Tryz.prog 24 #[cluV c x, .slice A l.length kl] w (GivesC (c.play l) w) := by
  refine run (st_cm c x) hc ?_
  refine t_loop rfl (⟨0, .slice none 0 0, x, c, 0, Nat.zero_le _, rfl, rfl⟩ : Pl c l) (plL A kl) plB 100 (plK w) (fun y => l.length - y.j) (fun _ => (st_cm _ _).and (st_rw _ _ _)) (fun u hu _ => ⟨hu, rw_nil w u⟩) ?_
  rintro ⟨k1, v1, x1, c1, j, hj, rfl, hcj⟩ f
  by_cases hjl : j < l.length
  · obtain ⟨e, he1⟩ : ∃ e, l[j]? = some e := ⟨l[j], List.getElem?_eq_getElem hjl⟩
    obtain ⟨ad, K, kc, rfl, hlt, hk, hkl, hcell⟩ := he j e he1
    have ht : l.take (j + 1) = l.take j ++ [e] := by rw [List.take_add_one, he1]; rfl
    have hw1 : IntKind.i64.wrap ((j : Int) + 1) = ((j + 1 : Nat) : Int) := by rw [wrap_i64 (by omega) (by omega)]; push_cast; rfl
    have ck : 0 ≤ (j : Int) ∧ (j : Int) < (l.length : Nat) := ⟨by omega, by omega⟩
    have hwe := hw.wd e (List.mem_of_getElem? he1)
    have hps : c.play (l.take (j + 1)) = ((c1.doEv e).1, (c.play (l.take j)).2 ++ (c1.doEv e).2) := by rw [ht, play_snoc, ← hcj]
    have hlen := hw.len (j + 1) hjl
    rw [hps, List.length_append] at hlen
    have hok := hw.ok j hj
    have hsh := hw.sh j hj
    rw [← hcj] at hok hsh
    refine t_Y (b := decide ((j : Int) < (l.length : Int))) 0 (by simpa using hjl) ?_
    refine t_ck ck (t_load (ty := 71) (p := ad.add (j * 7)) (v := evV e K kc) (fun u _ hb => readsC (evC e K kc) (fun i y hy => by
      rw [← hcell i y hy]
      exact cell_of (by rw [addr_block, addr_block]) ((base_below hb).block _ hlt)) Tryz.underlying71 rfl (by kernel_rfl)) ?_)
    refine t_Cb (fun u hu hb => xdo (w := u) hok (by omega) hsh e hwe.1 hwe.2 K kc (hk.up hb) hkl hu.1) fun x2 A2 k2 => ?_
    refine t_ao (v := v1) (l0 := (c.play (l.take j)).2) (l := (c1.doEv e).2) (fun u => CM u (c1.doEv e).1 x2) (st_cm _ _) (fun u hu => ⟨hu.1.2, hu.2.2.2⟩) (fun u u' hu hr hg => hr.cm hg hu.2.1) (by omega) fun v2 => ?_
    exact t_end (plL (some ad) kl) plB (plK w) (fun y => l.length - y.j) (⟨j, v1, x1, c1, j, hj, rfl, hcj⟩ : Pl c l) (⟨IntKind.i64.wrap ((j : Int) + 1), v2, x2, (c1.doEv e).1, j + 1, hjl, hw1, by rw [hps]⟩ : Pl c l) (by show l.length - (j + 1) < l.length - j; omega) fun u hu _ => ⟨hu.1, by show Rw w v2 (c.play (l.take (j + 1))).2 u; rw [hps]; exact hu.2⟩
  · have hj2 : j = l.length := by omega
    subst hj2
    have hcl := hcj
    rw [List.take_length] at hcl
    rw [show c.play l = (c1, (c.play (l.take l.length)).2) from by rw [List.take_length, hcl]]
    exact t_N (b := decide (((l.length : Nat) : Int) < (l.length : Int))) 9 (decide_eq_false (by omega)) (e_C x1 v1 fun u hu => hu)
end
end Go.Proofs.YtkjikigimmchlaaGreatDoor
namespace Go.Proofs.YtkjikigimmchlaaGreatDoor
open Go.RowKit PX
set_option maxRecDepth 100000
section
variable {w : World}
def rawN (N : Nat) (i : Int) : Nod := Nod.fresh i false ⟨(newS N).s, [], 0, false, Sup.zero, 0⟩ [] []
theorem raw_attach {N : Nat} (h1 : 1 ≤ N) (h2 : N ≤ 32) (i : Int) : (rawN N i).attach [] = (newN N i, 0) := by
  obtain ⟨_, ha, hb⟩ := sure_again (t' := newS N) (whole_new h1 h2) rfl rfl rfl
  have hr : (rawN N i).revive [] = (newS N).s := rfl
  unfold Nod.attach
  rw [if_neg (show ¬ ((rawN N i).up = true) from fun e => by cases e), hr, if_pos ha, hb]
  rfl
theorem raw_ok {N : Nat} (h1 : 1 ≤ N) (h2 : N ≤ 32) (i : Int) : NOk N 0 (rawN N i) := by
  have hw := whole_new h1 h2
  exact ⟨hw.fine, Nat.le_refl 0, (by show (0 : Int) ≤ 0; decide), (by show (0 : Int) ≤ 1000; decide), (fun (e : (false : Bool) = true) => (by cases e)), b64_zero, Hel.zero_wide, (fun g hg => (by simp [rawN, Nod.fresh] at hg)), (fun x hx => (by simp [rawN, Nod.fresh] at hx)), Nat.zero_le _, Nat.zero_le _⟩
theorem raw_nm {N : Nat} (i : Int) {A : Option Addr} {k : Nat} {B : Option Addr} {m : Nat} {u : World} (h : Mem u A k B m (newS N).s []) : NM u (rawN N i) ⟨A, k, B, m, none, 0, none, 0⟩ := ⟨h, es_nil _ _ _ _, ⟨fun _ => rfl, Nat.le_refl _⟩, ty_none _ _, fun j x e => by simp [rawN, Nod.fresh] at e, fun _ => rfl, ty_none _ _⟩
theorem xnew {N : Nat} (h1 : 1 ≤ N) (h2 : N ≤ 32) : Calls Tryz.prog 22 #[.int .i64 (N : Int), .int .u64 7] w fun e w' => ∃ x, e = .returned (.tuple #[cluV (newC N) x, .int .i64 0]) ∧ CM w' (newC N) x ∧ Below w.heap.size w w' := by
  have hf := fmt_new h1 h2
  have hfc : ∀ u, Calls Tryz.prog 51 #[.int .i64 (N : Int), .int .u64 7] u (GivesD (newS N).s [] 0 false 0 u) := fun u => by
    have := rfmt_any (N : Int) 7 u (by decide) (by decide)
    rw [hf] at this
    exact this
  have hat := fun (i : Int) u (a : Adr) (hn : NM u (rawN N i) a) => by
    have := xattach (w := u) (raw_ok h1 h2 i) (by omega) none [] 0 (es_nil _ _ _ _) (Nat.zero_le _) hn
    rw [raw_attach h1 h2 i] at this
    exact this
  refine run_ok (ap := tyL) (U := 4) (rows := []) (K := fun _ => True) rfl (st_p True) trivial ?_
  refine t_lit 1 (t_d (fun u _ => hfc u) fun A B n m => t_lit 9 (t_e (fun u hu => hat 0 u ⟨A, n, B, m, none, 0, none, 0⟩ (raw_nm 0 hu.2)) fun a1 => t_ix 0 (t_lit 9 ?_)))
  refine t_d (fun u _ => hfc u) fun A2 B2 n2 m2 => t_lit 9 (t_e (fun u hu => hat (IntKind.i64.wrap (0 + 1)) u ⟨A2, n2, B2, m2, none, 0, none, 0⟩ (raw_nm _ hu.2)) fun a2 => t_ix (IntKind.i64.wrap (0 + 1)) (t_lit 9 ?_))
  exact t_ret (.tuple #[cluV (newC N) ⟨a1, a2, none, 0, none, 0⟩, .int .i64 0]) fun u hu hb _ => ⟨_, rfl, ⟨hu.1.1.2, hu.2, lk_nil _ _ _⟩, base_below hb⟩
end
end Go.Proofs.YtkjikigimmchlaaGreatDoor
