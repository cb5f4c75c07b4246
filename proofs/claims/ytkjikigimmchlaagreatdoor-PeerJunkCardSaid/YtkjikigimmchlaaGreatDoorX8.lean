/- Clusters: events. -/
import Derived.Test.YtkjikigimmchlaaGreatDoorX6
namespace Go.Proofs.YtkjikigimmchlaaGreatDoor
open Go.RowKit PX
set_option maxRecDepth 100000
section
variable {N q : Nat} {w : World} {c : Clu} {x : CAd}
theorem loses_of {n : Nod} (h : NOk N q n) (hq : q ≤ 890) : Loses n := fun hu => ⟨Nat.le_trans out_lose (by decide), fun _ _ hn => xlose h hq hu hn⟩
theorem Rw.less {w0 w1 u : World} {v : Value} {l : List Ou} (h : Rw w1 v l u) (hs : w0.heap.size ≤ w1.heap.size) : Rw w0 v l u := ⟨by
  obtain ⟨h0, h2 | ⟨g, cap, cur, rfl, hbg, r⟩⟩ := h.own
  · exact ⟨h0, .inl h2⟩
  · exact ⟨h0, .inr ⟨g, cap, cur, rfl, by omega, r⟩⟩⟩
theorem t_C {F : Value → S → World → Prop} {K : World → Prop} {t : Tree} {f : FuncId} {args : Array Value} {r : Clu × List Ou} (hc : ∀ u, K u → Calls Tryz.prog f args u (GivesC r u)) (h : ∀ x' A k, OK ⟨Tryz.prog, tyL, w, [], []⟩ F (t.nv (.tuple #[cluV r.1 x', .slice A r.2.length k])) fun u => K u ∧ CM u r.1 x' ∧ Rw w (.slice A r.2.length k) r.2 u ∧ OM u A k r.2) (hd : t.hd = .call (.fn f) args.toList := by kernel_rfl) : OK ⟨Tryz.prog, tyL, w, [], []⟩ F t K :=
  t_call (fun u hu _ => hc u hu) (fun u e u' hu hb hr => by
    obtain ⟨x', v, he, h1, h2, h3⟩ := hr
    obtain ⟨A, k, rfl, ho, _⟩ := h2.om
    exact ⟨_, _, he, h3, (st_cm _ _).and ((st_rw _ _ _).and (st_om _ _ _)), ⟨h1, h2.less (base_size hb), ho⟩, h x' A k⟩) hd
theorem loses_len2 (c : Clu) (i : Int) (o : List Ou) : (c.loses i o).2.length ≤ o.length + 3 := by
  unfold Clu.loses
  split
  · exact Nat.le_add_right _ _
  · dsimp only
    rw [List.length_append]
    have := out_lose (n := c.nd i)
    omega
theorem ends_len (c : Clu) (o : List Ou) : (c.ends o).2.length ≤ o.length + 6 := by
  have h1 := loses_len2 { c with l := c.l.closed } 0 o
  exact Nat.le_trans (loses_len2 _ 1 _) (by omega)
theorem after_len (c : Clu) (i : Int) (n : Nod) (l : List Ou) : (c.after i n l).2.length ≤ l.length + 6 := by
  have hs : (saysL l).length ≤ l.length := List.length_filter_le _ _
  have key : ∀ (c2 c3 : Clu) (P : Prop) [Decidable P], (if P then (c2, saysL l) else c3.ends (saysL l)).2.length ≤ l.length + 6 := fun c2 c3 P _ => by
    split
    · exact Nat.le_trans hs (Nat.le_add_right _ _)
    · exact Nat.le_trans (ends_len _ _) (by omega)
  exact key _ _ _
theorem xconnect0 (h : COk N q c) (hq : q ≤ 870) (hc : CM w c x) : Calls Tryz.prog 93 #[cluV c x, .int .i64 0] w (GivesC (c.connect 0) w) := by
  refine run (st_cm c x) hc (t_ix 0 ?_)
  by_cases hu : c.a.up = true
  · refine t_N (b := !c.a.up) 0 (by simp [hu]) (t_ix 0 ?_)
    have cs : ∀ x : Bool, (!x) = true ∧ x = false ∨ (!x) = false ∧ x = true := by decide
    refine t_ix (IntKind.i64.wrap (1 - 0)) ?_
    rcases cs c.wb with ⟨g1, g2⟩ | ⟨g1, g2⟩
    · rw [show c.connect 0 = (⟨c.a, c.b, c.l, true, c.wb⟩, []) from by simp [Clu.connect, Clu.nd, Clu.setW, Clu.wants, hu, g2]]
      exact t_N (b := !(!c.wb)) 30 (by simp [g2]) (e_C x (.slice none 0 0) fun u hu => ⟨⟨hu.a, hu.b, hu.l⟩, rw_nil _ _⟩)
    refine t_Y (b := !(!c.wb)) 3 (by simp [g2]) (t_ix (IntKind.i64.wrap (1 - 0)) (t_lit 3 ?_))
    rcases cs c.b.up with ⟨g3, g4⟩ | ⟨g3, g4⟩
    · rw [show c.connect 0 = (⟨c.a, c.b, c.l, true, c.wb⟩, []) from by simp [Clu.connect, Clu.nd, Clu.setW, Clu.wants, hu, g2, g4]]
      exact t_N (b := !(!c.b.up)) 30 (by simp [g4]) (e_C x (.slice none 0 0) fun u hu => ⟨⟨hu.a, hu.b, hu.l⟩, rw_nil _ _⟩)
    refine t_Y (b := !(!c.b.up)) 2 (by simp [g4]) ?_
    rcases cs c.l.u with ⟨g5, g6⟩ | ⟨g5, g6⟩
    · have hs : B64 (nextS c.l.s) := next_b64 _
      have hna := h.a.begins hs
      refine t_N 9 g6 (t_v (fun u _ => rkopen_any c.l.u c.l.s c.l.a c.l.b x.A x.B x.n x.m u) (t_ix 0 ?_))
      refine t_n (fun u hu' => xbegins (w := u) h.a hu hs hu'.a) fun a1 O1 m1 => ?_
      have e3 : Clu.after ⟨c.a, c.b, c.l.opened, true, c.wb⟩ 0 (c.a.begins (nextS c.l.s)).1 (c.a.begins (nextS c.l.s)).2 = (⟨(c.a.begins (nextS c.l.s)).1, c.b, sendsL c.l.opened 1 (c.a.begins (nextS c.l.s)).2, true, c.wb⟩, []) := by
        have hup : (c.a.begins (nextS c.l.s)).1.up = true := hu
        have hcl : closesL (c.a.begins (nextS c.l.s)).2 = false := rfl
        have hsy : saysL (c.a.begins (nextS c.l.s)).2 = [] := rfl
        simp [Clu.after, Clu.setN, hup, hcl, hsy]
      have eC : c.connect 0 = ((Clu.after ⟨(c.a.begins (nextS c.l.s)).1, c.b, sendsL c.l.opened 1 (c.a.begins (nextS c.l.s)).2, true, c.wb⟩ 1 (c.b.begins (nextS c.l.s)).1 (c.b.begins (nextS c.l.s)).2).1, [] ++ (Clu.after ⟨(c.a.begins (nextS c.l.s)).1, c.b, sendsL c.l.opened 1 (c.a.begins (nextS c.l.s)).2, true, c.wb⟩ 1 (c.b.begins (nextS c.l.s)).1 (c.b.begins (nextS c.l.s)).2).2) := by
        have hq1 : (sendsL c.l.opened 1 (c.a.begins (nextS c.l.s)).2).s = nextS c.l.s := by rw [sends_s]; rfl
        have e4 := e3
        rw [g2] at e4
        simp [Clu.connect, Clu.nd, Clu.setW, Clu.wants, hu, g2, g4, g6, show c.l.opened.s = nextS c.l.s from rfl, e4, hq1]
      have l3 : LLen 1 (sendsL c.l.opened 1 (c.a.begins (nextS c.l.s)).2) := llen_sends (p := 0) (c.a.begins (nextS c.l.s)).2 (llen_zero 0 _ _) 1
      have hA3 : Loses (c.a.begins (nextS c.l.s)).1 := loses_of hna (by omega)
      have hB3 : Loses c.b := loses_of h.b (by omega)
      have hB4 : Loses (c.b.begins (nextS c.l.s)).1 := loses_of (h.b.begins hs) (by omega)
      generalize hr1 : c.a.begins (nextS c.l.s) = r1 at *
      refine t_C (r := (⟨r1.1, c.b, sendsL c.l.opened 1 r1.2, true, c.wb⟩, [])) (fun u hu' => by
        have := xafter0 (w := u) ⟨c.a, c.b, c.l.opened, true, c.wb⟩ ⟨x.a, x.b, none, 0, none, 0⟩ r1.1 a1 r1.2 O1 m1 ⟨hu'.1.a, hu'.1.b, lk_nil _ _ _⟩ hu'.2.1 hu'.2.2.1 (by rw [← hr1]; exact (by decide : 1 ≤ 1000)) (Nat.zero_le _) (Nat.zero_le _) hA3 hB3
        rw [e3] at this
        exact this) fun x3 A3 k3 => t_ix 1 (t_n (fun u hu' => xbegins (w := u) h.b g4 hs hu'.2.1.b) fun a4 O4 m4 => ?_)
      rw [eC]
      have hlen := after_len ⟨r1.1, c.b, sendsL c.l.opened 1 r1.2, true, c.wb⟩ 1 (c.b.begins (nextS c.l.s)).1 (c.b.begins (nextS c.l.s)).2
      refine t_C (fun u hu' => xafter1 (w := u) ⟨r1.1, c.b, sendsL c.l.opened 1 r1.2, true, c.wb⟩ x3 (c.b.begins (nextS c.l.s)).1 a4 (c.b.begins (nextS c.l.s)).2 O4 m4 hu'.1.2.1 hu'.2.1 hu'.2.2.1 (by decide : 1 ≤ 1000) (Nat.le_trans l3.1 (by decide)) (Nat.le_trans l3.2 (by decide)) hA3 hB4) fun x5 A5 k5 => ?_
      have hl1 : (c.b.begins (nextS c.l.s)).2.length = 1 := rfl
      generalize Clu.after ⟨r1.1, c.b, sendsL c.l.opened 1 r1.2, true, c.wb⟩ 1 (c.b.begins (nextS c.l.s)).1 (c.b.begins (nextS c.l.s)).2 = c4 at *
      exact t_ao (v := .slice A3 0 k3) (l0 := []) (l := c4.2) (fun u => CM u c4.1 x5) (st_cm _ _) (fun u hu => ⟨hu.1.1.2.2.1, hu.2.2.2⟩) (fun u u' hu hr hg => hr.cm hg hu.2.1) (by simp only [List.length_nil]; omega) fun v' => e_C x5 v' fun u hu => hu
    · rw [show c.connect 0 = (⟨c.a, c.b, c.l, true, c.wb⟩, []) from by simp [Clu.connect, Clu.nd, Clu.setW, Clu.wants, hu, g2, g4, g6]]
      exact t_Y 30 g6 (e_C x (.slice none 0 0) fun u hu => ⟨⟨hu.a, hu.b, hu.l⟩, rw_nil _ _⟩)
  · rw [show c.connect 0 = (c, []) from by simp [Clu.connect, Clu.nd, hu]]
    exact t_Y (b := !c.a.up) 9 (by simp [hu]) (e_C x (.slice none 0 0) fun u hu => ⟨hu, rw_nil _ _⟩)
theorem xconnect1 (h : COk N q c) (hq : q ≤ 870) (hc : CM w c x) : Calls Tryz.prog 93 #[cluV c x, .int .i64 1] w (GivesC (c.connect 1) w) := by
  refine run (st_cm c x) hc (t_ix 1 ?_)
  by_cases hu : c.b.up = true
  · refine t_N (b := !c.b.up) 0 (by simp [hu]) (t_ix 1 ?_)
    have cs : ∀ x : Bool, (!x) = true ∧ x = false ∨ (!x) = false ∧ x = true := by decide
    refine t_ix (IntKind.i64.wrap (1 - 1)) ?_
    rcases cs c.wa with ⟨g1, g2⟩ | ⟨g1, g2⟩
    · rw [show c.connect 1 = (⟨c.a, c.b, c.l, c.wa, true⟩, []) from by simp [Clu.connect, Clu.nd, Clu.setW, Clu.wants, hu, g2]]
      exact t_N (b := !(!c.wa)) 30 (by simp [g2]) (e_C x (.slice none 0 0) fun u hu => ⟨⟨hu.a, hu.b, hu.l⟩, rw_nil _ _⟩)
    refine t_Y (b := !(!c.wa)) 3 (by simp [g2]) (t_ix (IntKind.i64.wrap (1 - 1)) (t_lit 3 ?_))
    rcases cs c.a.up with ⟨g3, g4⟩ | ⟨g3, g4⟩
    · rw [show c.connect 1 = (⟨c.a, c.b, c.l, c.wa, true⟩, []) from by simp [Clu.connect, Clu.nd, Clu.setW, Clu.wants, hu, g2, g4]]
      exact t_N (b := !(!c.a.up)) 30 (by simp [g4]) (e_C x (.slice none 0 0) fun u hu => ⟨⟨hu.a, hu.b, hu.l⟩, rw_nil _ _⟩)
    refine t_Y (b := !(!c.a.up)) 2 (by simp [g4]) ?_
    rcases cs c.l.u with ⟨g5, g6⟩ | ⟨g5, g6⟩
    · have hs : B64 (nextS c.l.s) := next_b64 _
      have hna := h.a.begins hs
      refine t_N 9 g6 (t_v (fun u _ => rkopen_any c.l.u c.l.s c.l.a c.l.b x.A x.B x.n x.m u) (t_ix 0 ?_))
      refine t_n (fun u hu' => xbegins (w := u) h.a g4 hs hu'.a) fun a1 O1 m1 => ?_
      have e3 : Clu.after ⟨c.a, c.b, c.l.opened, c.wa, true⟩ 0 (c.a.begins (nextS c.l.s)).1 (c.a.begins (nextS c.l.s)).2 = (⟨(c.a.begins (nextS c.l.s)).1, c.b, sendsL c.l.opened 1 (c.a.begins (nextS c.l.s)).2, c.wa, true⟩, []) := by
        have hup : (c.a.begins (nextS c.l.s)).1.up = true := g4
        have hcl : closesL (c.a.begins (nextS c.l.s)).2 = false := rfl
        have hsy : saysL (c.a.begins (nextS c.l.s)).2 = [] := rfl
        simp [Clu.after, Clu.setN, hup, hcl, hsy]
      have eC : c.connect 1 = ((Clu.after ⟨(c.a.begins (nextS c.l.s)).1, c.b, sendsL c.l.opened 1 (c.a.begins (nextS c.l.s)).2, c.wa, true⟩ 1 (c.b.begins (nextS c.l.s)).1 (c.b.begins (nextS c.l.s)).2).1, [] ++ (Clu.after ⟨(c.a.begins (nextS c.l.s)).1, c.b, sendsL c.l.opened 1 (c.a.begins (nextS c.l.s)).2, c.wa, true⟩ 1 (c.b.begins (nextS c.l.s)).1 (c.b.begins (nextS c.l.s)).2).2) := by
        have hq1 : (sendsL c.l.opened 1 (c.a.begins (nextS c.l.s)).2).s = nextS c.l.s := by rw [sends_s]; rfl
        have e4 := e3
        rw [g2] at e4
        simp [Clu.connect, Clu.nd, Clu.setW, Clu.wants, hu, g2, g4, g6, show c.l.opened.s = nextS c.l.s from rfl, e4, hq1]
      have l3 : LLen 1 (sendsL c.l.opened 1 (c.a.begins (nextS c.l.s)).2) := llen_sends (p := 0) (c.a.begins (nextS c.l.s)).2 (llen_zero 0 _ _) 1
      have hA3 : Loses (c.a.begins (nextS c.l.s)).1 := loses_of hna (by omega)
      have hB3 : Loses c.b := loses_of h.b (by omega)
      have hB4 : Loses (c.b.begins (nextS c.l.s)).1 := loses_of (h.b.begins hs) (by omega)
      generalize hr1 : c.a.begins (nextS c.l.s) = r1 at *
      refine t_C (r := (⟨r1.1, c.b, sendsL c.l.opened 1 r1.2, c.wa, true⟩, [])) (fun u hu' => by
        have := xafter0 (w := u) ⟨c.a, c.b, c.l.opened, c.wa, true⟩ ⟨x.a, x.b, none, 0, none, 0⟩ r1.1 a1 r1.2 O1 m1 ⟨hu'.1.a, hu'.1.b, lk_nil _ _ _⟩ hu'.2.1 hu'.2.2.1 (by rw [← hr1]; exact (by decide : 1 ≤ 1000)) (Nat.zero_le _) (Nat.zero_le _) hA3 hB3
        rw [e3] at this
        exact this) fun x3 A3 k3 => t_ix 1 (t_n (fun u hu' => xbegins (w := u) h.b hu hs hu'.2.1.b) fun a4 O4 m4 => ?_)
      rw [eC]
      have hlen := after_len ⟨r1.1, c.b, sendsL c.l.opened 1 r1.2, c.wa, true⟩ 1 (c.b.begins (nextS c.l.s)).1 (c.b.begins (nextS c.l.s)).2
      refine t_C (fun u hu' => xafter1 (w := u) ⟨r1.1, c.b, sendsL c.l.opened 1 r1.2, c.wa, true⟩ x3 (c.b.begins (nextS c.l.s)).1 a4 (c.b.begins (nextS c.l.s)).2 O4 m4 hu'.1.2.1 hu'.2.1 hu'.2.2.1 (by decide : 1 ≤ 1000) (Nat.le_trans l3.1 (by decide)) (Nat.le_trans l3.2 (by decide)) hA3 hB4) fun x5 A5 k5 => ?_
      have hl1 : (c.b.begins (nextS c.l.s)).2.length = 1 := rfl
      generalize Clu.after ⟨r1.1, c.b, sendsL c.l.opened 1 r1.2, c.wa, true⟩ 1 (c.b.begins (nextS c.l.s)).1 (c.b.begins (nextS c.l.s)).2 = c4 at *
      exact t_ao (v := .slice A3 0 k3) (l0 := []) (l := c4.2) (fun u => CM u c4.1 x5) (st_cm _ _) (fun u hu => ⟨hu.1.1.2.2.1, hu.2.2.2⟩) (fun u u' hu hr hg => hr.cm hg hu.2.1) (by simp only [List.length_nil]; omega) fun v' => e_C x5 v' fun u hu => hu
    · rw [show c.connect 1 = (⟨c.a, c.b, c.l, c.wa, true⟩, []) from by simp [Clu.connect, Clu.nd, Clu.setW, Clu.wants, hu, g2, g4, g6]]
      exact t_Y 30 g6 (e_C x (.slice none 0 0) fun u hu => ⟨⟨hu.a, hu.b, hu.l⟩, rw_nil _ _⟩)
  · rw [show c.connect 1 = (c, []) from by simp [Clu.connect, Clu.nd, hu]]
    exact t_Y (b := !c.b.up) 9 (by simp [hu]) (e_C x (.slice none 0 0) fun u hu => ⟨hu, rw_nil _ _⟩)
end
end Go.Proofs.YtkjikigimmchlaaGreatDoor
namespace Go.Proofs.YtkjikigimmchlaaGreatDoor
open Go.RowKit PX
set_option maxRecDepth 100000
set_option linter.unusedSimpArgs false
@[reducible] def evV (v : Evt) (K : Option Addr) (kc : Nat) : Value := .agg #[.int .i64 v.k, .int .i64 v.n, .int .i64 v.id, .int .i64 v.i, .string v.d, .int .u64 v.g, .slice K v.keeps.length kc]
section
variable {N q : Nat} {w : World} {c : Clu} {x : CAd}
structure Short (c : Clu) : Prop where
  l : LLen 9000 c.l
  f : ∀ g, ((c.l.first g).size : Int) ≤ 3000
theorem ran (c : Clu) (v : Evt) (hn : v.n = 0) : c.doEv v = c.ev1 v c.a := by simp [Clu.doEv, Clu.nd, hn]
theorem e_aft0 {K : World → Prop} {t : Tree} (n : Nod) (a : Adr) (l : List Ou) (O : Option Addr) (k : Nat) (hK : ∀ u, K u → CM u c x ∧ NM u n a ∧ OM u O k l) (hl : l.length ≤ 3) (hs : LLen 9000 c.l) (hA : Loses n) (hZ : Loses c.b) (hd : t.hd = .call (.fn 100) [cluV c x, .int .i64 0, nodV n a, .slice O l.length k] := by kernel_rfl)
    (hd2 : ∀ x' A k, (t.nv (.tuple #[cluV (c.after 0 n l).1 x', .slice A (c.after 0 n l).2.length k])).hd = .ret (.tuple #[cluV (c.after 0 n l).1 x', .slice A (c.after 0 n l).2.length k]) := by intro x' A k; kernel_rfl) : OK ⟨Tryz.prog, tyL, w, [], []⟩ (fun y _ u => GivesC (c.after 0 n l) w (.returned y) u) t K :=
  t_C (args := #[cluV c x, .int .i64 0, nodV n a, .slice O l.length k]) (fun u hu => xafter0 (w := u) c x n a l O k (hK u hu).1 (hK u hu).2.1 (hK u hu).2.2 (Nat.le_trans hl (by decide)) (Nat.le_trans hs.1 (by decide)) (Nat.le_trans hs.2 (by decide)) hA hZ) (fun x' A k => e_C x' _ (fun u hu => ⟨hu.2.1, hu.2.2.1⟩) (hd2 x' A k)) hd
theorem xdo0 (h : COk N q c) (hq : q ≤ 870) (hs : Short c) (v : Evt) (hn : v.n = 0) (hv : v.wide) (hd : (v.d.size : Int) ≤ 3000) (K : Option Addr) (kc : Nat) (hk : Es Value.bool w w.heap.size K v.keeps) (hkl : v.keeps.length ≤ maxLen) (hc : CM w c x) : Calls Tryz.prog 53 #[cluV c x, evV v K kc] w (GivesC (c.doEv v) w) := by
  rw [ran c v hn]
  obtain ⟨k, nn, id, i, d, g, keeps⟩ := v
  subst hn
  have hA : Loses c.a := loses_of h.a (by omega)
  have hZ : Loses c.b := loses_of h.b (by omega)
  have cs : ∀ x : Bool, (!x) = true ∧ x = false ∨ (!x) = false ∧ x = true := by decide
  refine run (st_cm c x) hc ?_
  refine t_lit 9 (t_ix 0 ?_)
  by_cases h1 : k = 1
  · subst h1
    rw [show c.ev1 ⟨1, 0, id, i, d, g, keeps⟩ c.a = c.after 0 (c.a.promote id).1 (c.a.promote id).2 from rfl]
    exact t_Y 9 rfl (t_n (fun u hu => xpromote (w := u) h.a (by omega) id hu.a) fun a1 O1 k1 => e_aft0 (c.a.promote id).1 a1 (c.a.promote id).2 O1 k1 (fun u hu => ⟨hu.1, hu.2.1, hu.2.2.1⟩) (out_promote id) hs.l (loses_of (h.a.promote id) (by omega)) hZ)
  refine t_N 0 (ine h1) ?_
  by_cases h2 : k = 2
  · subst h2
    rw [show c.ev1 ⟨2, 0, id, i, d, g, keeps⟩ c.a = c.after 0 (c.a.demote id).1 (c.a.demote id).2 from rfl]
    exact t_Y 9 rfl (t_n (fun u hu => xdemote (w := u) h.a (by omega) id hu.a) fun a1 O1 k1 => e_aft0 (c.a.demote id).1 a1 (c.a.demote id).2 O1 k1 (fun u hu => ⟨hu.1, hu.2.1, hu.2.2.1⟩) (out_demote id) hs.l (loses_of (h.a.demote id) (by omega)) hZ)
  refine t_N 0 (ine h2) ?_
  by_cases h3 : k = 3
  · subst h3
    rw [show c.ev1 ⟨3, 0, id, i, d, g, keeps⟩ c.a = c.after 0 (c.a.discard id).1 (c.a.discard id).2 from rfl]
    exact t_Y 9 rfl (t_n (fun u hu => xdiscard (w := u) h.a (by omega) id hu.a) fun a1 O1 k1 => e_aft0 (c.a.discard id).1 a1 (c.a.discard id).2 O1 k1 (fun u hu => ⟨hu.1, hu.2.1, hu.2.2.1⟩) (out_discard id) hs.l (loses_of (h.a.discard id) (by omega)) hZ)
  refine t_N 0 (ine h3) ?_
  by_cases h4 : k = 4
  · subst h4
    rw [show c.ev1 ⟨4, 0, id, i, d, g, keeps⟩ c.a = c.after 0 (c.a.read id i).1 (c.a.read id i).2 from rfl]
    exact t_Y 9 rfl (t_n (fun u hu => xread (w := u) h.a (by omega) id i hu.a) fun a1 O1 k1 => e_aft0 (c.a.read id i).1 a1 (c.a.read id i).2 O1 k1 (fun u hu => ⟨hu.1, hu.2.1, hu.2.2.1⟩) (out_read id i) hs.l (loses_of (h.a.read id i) (by omega)) hZ)
  refine t_N 0 (ine h4) ?_
  by_cases h5 : k = 5
  · subst h5
    rw [show c.ev1 ⟨5, 0, id, i, d, g, keeps⟩ c.a = c.after 0 (c.a.write id i d).1 (c.a.write id i d).2 from rfl]
    exact t_Y 9 rfl (t_n (fun u hu => xwrite (w := u) h.a (by omega) id i d hu.a) fun a1 O1 k1 => e_aft0 (c.a.write id i d).1 a1 (c.a.write id i d).2 O1 k1 (fun u hu => ⟨hu.1, hu.2.1, hu.2.2.1⟩) (out_write id i d) hs.l (loses_of (h.a.write id i d) (by omega)) hZ)
  refine t_N 0 (ine h5) ?_
  by_cases h6 : k = 6
  · subst h6
    rw [show c.ev1 ⟨6, 0, id, i, d, g, keeps⟩ c.a = c.connect 0 from rfl]
    exact t_Y 9 rfl (t_C (fun u hu => xconnect0 (w := u) h (by omega) hu) fun x' A m => e_C x' _ fun u hu => ⟨hu.2.1, hu.2.2.1⟩)
  refine t_N 0 (ine h6) ?_
  by_cases h7 : k = 7
  · subst h7
    refine t_Y 9 rfl (t_ix 0 ?_)
    rcases cs c.l.u with ⟨g1, g2⟩ | ⟨g1, g2⟩
    · rw [show c.ev1 ⟨7, 0, id, i, d, g, keeps⟩ c.a = (⟨c.a, c.b, c.l, false, c.wb⟩, []) from by simp [Clu.ev1, Clu.ev2, Clu.ev3, Clu.ev4, Clu.setW, g2]]
      exact t_Y 9 g1 (e_C x (.slice none 0 0) fun u hu => ⟨⟨hu.a, hu.b, hu.l⟩, rw_nil _ _⟩)
    · rw [show c.ev1 ⟨7, 0, id, i, d, g, keeps⟩ c.a = Clu.ends ⟨c.a, c.b, c.l, false, c.wb⟩ [] from by simp [Clu.ev1, Clu.ev2, Clu.ev3, Clu.ev4, Clu.setW, g2]]
      exact t_N 9 g1 (t_E ⟨c.a, c.b, c.l, false, c.wb⟩ x (.slice none 0 0) [] (fun u hu => ⟨⟨hu.a, hu.b, hu.l⟩, rw_nil _ _⟩) (Nat.zero_le _) hA hZ fun x' v' => e_C x' v' fun u hu => hu)
  refine t_N 0 (ine h7) ?_
  by_cases h8 : k = 8
  · subst h8
    refine t_Y 1 rfl ?_
    rcases cs c.l.u with ⟨g1, g2⟩ | ⟨g1, g2⟩
    · rw [show c.ev1 ⟨8, 0, id, i, d, g, keeps⟩ c.a = (c, []) from by simp [Clu.ev1, Clu.ev2, Clu.ev3, Clu.ev4, g2]]
      exact t_Y 9 g1 (e_C x (.slice none 0 0) fun u hu => ⟨⟨hu.a, hu.b, hu.l⟩, rw_nil _ _⟩)
    · rw [show c.ev1 ⟨8, 0, id, i, d, g, keeps⟩ c.a = c.ends [] from by simp [Clu.ev1, Clu.ev2, Clu.ev3, Clu.ev4, g2]]
      exact t_N 9 g1 (t_E c x (.slice none 0 0) [] (fun u hu => ⟨hu, rw_nil _ _⟩) (Nat.zero_le _) hA hZ fun x' v' => e_C x' v' fun u hu => hu)
  refine t_N 0 (ine h8) ?_
  by_cases h9 : k = 9
  · subst h9
    refine t_Y 0 rfl (st_k (fun u hu => rktake_any c.l x.A x.B x.n x.m 0 u hu.l (Nat.le_trans hs.l.1 (by decide)) (Nat.le_trans hs.l.2 (by decide))) fun A2 n2 B2 m2 => ?_)
    rcases cs (c.l.takes 0) with ⟨g1, g2⟩ | ⟨g1, g2⟩
    · rw [show c.ev1 ⟨9, 0, id, i, d, g, keeps⟩ c.a = (c, []) from by simp [Clu.ev1, Clu.ev2, Clu.ev3, Clu.ev4, g2]]
      exact t_Y 9 g1 (e_C x (.slice none 0 0) fun u hu => ⟨hu.1, rw_nil _ _⟩)
    · rw [show c.ev1 ⟨9, 0, id, i, d, g, keeps⟩ c.a = Clu.after ⟨c.a, c.b, c.l.taken 0, c.wa, c.wb⟩ 0 (c.a.receive (c.l.first 0)).1 (c.a.receive (c.l.first 0)).2 from by simp [Clu.ev1, Clu.ev2, Clu.ev3, Clu.ev4, g2]]
      exact t_N 9 g1 (t_n (fun u hu => xreceive (w := u) h.a (by omega) (c.l.first 0) (hs.f 0) hu.1.a) fun a1 O1 k1 => e_aft0 (c := ⟨c.a, c.b, c.l.taken 0, c.wa, c.wb⟩) (x := ⟨x.a, x.b, A2, n2, B2, m2⟩) (c.a.receive (c.l.first 0)).1 a1 (c.a.receive (c.l.first 0)).2 O1 k1 (fun u hu => ⟨⟨hu.1.1.a, hu.1.1.b, hu.1.2⟩, hu.2.1, hu.2.2.1⟩) (out_receive _) (llen_taken hs.l 0) (loses_of (h.a.receive _ (read_wide _ _)) (by omega)) hZ)
  refine t_N 0 (ine h9) ?_
  by_cases h10 : k = 10
  · subst h10
    refine t_Y 0 rfl ?_
    rcases cs c.a.up with ⟨g1, g2⟩ | ⟨g1, g2⟩
    · rw [show c.ev1 ⟨10, 0, id, i, d, g, keeps⟩ c.a = (c, []) from by simp [Clu.ev1, Clu.ev2, Clu.ev3, Clu.ev4, g2]]
      exact t_Y 9 g1 (e_C x (.slice none 0 0) fun u hu => ⟨⟨hu.a, hu.b, hu.l⟩, rw_nil _ _⟩)
    · rw [show c.ev1 ⟨10, 0, id, i, d, g, keeps⟩ c.a = c.after 0 c.a.down [] from by simp [Clu.ev1, Clu.ev2, Clu.ev3, Clu.ev4, g2]]
      exact t_N 9 g1 (t_a (fun u hu => ydown c.a x.a u hu.a) fun a1 => e_aft0 c.a.down a1 [] none 0 (fun u hu => ⟨hu.1, hu.2, om_nil u⟩) (Nat.zero_le _) hs.l (loses_of h.a.down (by omega)) hZ)
  refine t_N 0 (ine h10) ?_
  by_cases h11 : k = 11
  · subst h11
    have hat := h.a.attach keeps
    refine t_Y 0 rfl (t_call (fun u hu hb => xattach (w := u) h.a (by omega) K keeps kc (hk.up (base_below hb)) hkl hu.a) ?_)
    rintro u e' u' hu hb ⟨a1, he, h1, h2⟩
    refine ⟨_, _, he, h2, st_nm (c.a.attach keeps).1 a1, h1, ?_⟩
    refine t_ix 0 (t_v (fun u _ => yreply (c.a.attach keeps).1 a1 id (c.a.attach keeps).2 e1 u) (t_o ((c.a.attach keeps).1.reply id (c.a.attach keeps).2 e1) fun r hr => ?_))
    rw [show c.ev1 ⟨11, 0, id, i, d, g, keeps⟩ c.a = (⟨(c.a.attach keeps).1, c.b, c.l, c.wa, c.wb⟩, [(c.a.attach keeps).1.reply id (c.a.attach keeps).2 e1]) from by simp [Clu.ev1, Clu.ev2, Clu.ev3, Clu.setN]]
    exact e_C ⟨a1, x.b, x.A, x.n, x.B, x.m⟩ (.slice (some ⟨r, 0, none⟩) 1 1) fun u hu => ⟨⟨hu.1.2, hu.1.1.b, hu.1.1.l⟩, rw_box hr hu.2⟩
  refine t_N 0 (ine h11) ?_
  by_cases h12 : k = 12
  · subst h12
    refine t_Y 0 rfl ?_
    rcases cs c.a.up with ⟨g1, g2⟩ | ⟨g1, g2⟩
    · rw [show c.ev1 ⟨12, 0, id, i, d, g, keeps⟩ c.a = c.after 0 c.a [] from by simp [Clu.ev1, Clu.ev2, Clu.ev3, Clu.ev4, g2]]
      exact t_N 9 g2 (e_aft0 c.a x.a [] none 0 (fun u hu => ⟨hu, hu.a, om_nil u⟩) (Nat.zero_le _) hs.l hA hZ)
    · have hg := hv.1
      have hw : IntKind.i64.wrap (if (1000 : Int) < g then 1000 else g) = min g 1000 := by dsimp only at hg; rw [wrap_i64 (by split <;> omega) (by split <;> omega)]; split <;> omega
      have hm0 : ¬ (min g 1000 : Int) < 0 := by dsimp only at hg; omega
      rw [show c.ev1 ⟨12, 0, id, i, d, g, keeps⟩ c.a = c.after 0 { c.a with t := { c.a.t with f := min g 1000 } } [] from by simp [Clu.ev1, Clu.ev2, Clu.ev3, Clu.ev4, g2]]
      refine t_Y 0 g2 (t_v (v := .agg #[.slice x.a.A c.a.t.s.length x.a.k, .slice x.a.B c.a.t.c.length x.a.m, .int .i64 (min g 1000), .bool c.a.t.x]) (args := #[.agg #[.slice x.a.A c.a.t.s.length x.a.k, .slice x.a.B c.a.t.c.length x.a.m, .int .i64 c.a.t.f, .bool c.a.t.x], .int .i64 (IntKind.i64.wrap (if (1000 : Int) < g then 1000 else g))]) (fun u _ => by
        have := rarm_any x.a.A x.a.B c.a.t.s.length x.a.k c.a.t.c.length x.a.m c.a.t.f (IntKind.i64.wrap (if (1000 : Int) < g then 1000 else g)) c.a.t.x u
        rw [hw, if_neg hm0] at this
        rw [hw]
        exact this) ?_)
      exact e_aft0 { c.a with t := { c.a.t with f := min g 1000 } } x.a [] none 0 (fun u hu => ⟨hu, ⟨hu.a.t, hu.a.d, hu.a.dn, hu.a.dt, hu.a.mi, hu.a.mn, hu.a.mt⟩, om_nil u⟩) (Nat.zero_le _) hs.l (loses_of (q := q) ⟨h.a.fine, h.a.len, by show 0 ≤ min g 1000; dsimp only at hg; omega, by show min g 1000 ≤ 1000; omega, fun _ => whole_arm (h.a.live g2) (by dsimp only at hg; omega), h.a.ses, h.a.peer, h.a.dr, h.a.mi, h.a.dl, h.a.ml⟩ (by omega)) hZ
  refine t_N 0 (ine h12) ?_
  by_cases h13 : k = 13
  · subst h13
    refine t_Y 0 rfl ?_
    by_cases hdl : c.a.dr.length < 1000
    · refine t_Y (b := decide ((c.a.dr.length : Int) < 1000)) 0 (decide_eq_true (by omega)) (t_fresh 31 [] fun r1 hr1 => ?_)
      rw [show c.ev1 ⟨13, 0, id, i, d, g, keeps⟩ c.a = (⟨{ c.a with dr := c.a.dr ++ [g] }, c.b, c.l, c.wa, c.wb⟩, []) from by simp [Clu.ev1, Clu.ev2, Clu.ev3, Clu.ev4, Clu.setN, hdl]]
      refine t_az 44 44 31 1 8 (.int .u64 0) Tryz.underlying44 info23 rfl (by decide) rfl (by decide) r1 x.a.D x.a.p c.a.dr.length (c.a.dr.map (.int .u64)) (fun u hu => hu.2) hr1 (by simp) (fun e => ?_) (fun u hu ad e j y hy => ?_) (fun y hy => ?_) (by omega) fun A1 c1 => ?_
      · refine ⟨hc.a.dn.1 e, ?_⟩
        cases hdr : c.a.dr with
        | nil => rfl
        | cons y l => obtain ⟨_, e2, _⟩ := hc.a.d 0 y (by rw [hdr]; rfl); rw [e] at e2; cases e2
      · have hE := hu.1.a.d
        rw [e] at hE
        exact us_cells hE j y hy
      · obtain ⟨z, _, rfl⟩ := List.mem_map.1 hy
        rfl
      refine t_fresh 31 [.int .u64 g] fun r2 hr2 => ?_
      refine t_ap 44 44 31 1 8 (.int .u64 0) Tryz.underlying44 info23 rfl (by decide) rfl (by decide) (fun u => CM u c x) (st_cm c x) A1 c.a.dr.length c1 (c.a.dr.map (.int .u64)) ⟨r2, 0, none⟩ 1 1 [.int .u64 g] (fun u hu => ⟨hu.1.2, ?_⟩) (c.a.dr ++ [g]).length (by simp) rfl (fun y hy => by rw [List.mem_singleton.1 hy]; rfl) (by omega) (fun u u' hu hb hq => hc.up hb) fun A3 c3 => ?_
      · intro j y hy
        rw [Addr.add_mid, BoxO.cell hu.2, Nat.zero_add]
        exact hy
      refine t_ix 0 (e_C ⟨⟨x.a.A, x.a.k, x.a.B, x.a.m, A3, c3, x.a.M, x.a.q⟩, x.b, x.A, x.n, x.B, x.m⟩ (.slice none 0 0) fun u hu => ⟨⟨?_, hu.1.b, hu.1.l⟩, rw_nil _ _⟩)
      have h2 := hu.2
      rw [show c.a.dr.map (Value.int .u64) ++ [Value.int .u64 g] = (c.a.dr ++ [g]).map (.int .u64) from by simp] at h2
      exact NM.withD (n := c.a) (a := x.a) hu.1.a h2
    · rw [show c.ev1 ⟨13, 0, id, i, d, g, keeps⟩ c.a = (c, []) from by simp [Clu.ev1, Clu.ev2, Clu.ev3, Clu.ev4, Clu.setN, hdl]]
      exact t_N (b := decide ((c.a.dr.length : Int) < 1000)) 9 (decide_eq_false (by omega)) (t_ix 0 (e_C x (.slice none 0 0) fun u hu => ⟨⟨hu.a, hu.b, hu.l⟩, rw_nil _ _⟩))
  refine t_N 0 (ine h13) ?_
  by_cases h14 : k = 14
  · subst h14
    refine t_Y 0 rfl (t_v (fun u _ => rpread_any d c.l.s u hd) ?_)
    by_cases h0 : (readP d c.l.s).2 = 0
    · rw [show c.ev1 ⟨14, 0, id, i, d, g, keeps⟩ c.a = (c, []) from by simp [Clu.ev1, Clu.ev2, Clu.ev3, Clu.ev4, h0]]
      exact t_Y 9 (ieq h0) (e_C x (.slice none 0 0) fun u hu => ⟨⟨hu.a, hu.b, hu.l⟩, rw_nil _ _⟩)
    · rw [show c.ev1 ⟨14, 0, id, i, d, g, keeps⟩ c.a = c.after 0 (c.a.receive d).1 (c.a.receive d).2 from by simp [Clu.ev1, Clu.ev2, Clu.ev3, Clu.ev4, h0]]
      exact t_N 9 (ine h0) (t_n (fun u hu => xreceive (w := u) h.a (by omega) d hd hu.a) fun a1 O1 k1 => e_aft0 (c.a.receive d).1 a1 (c.a.receive d).2 O1 k1 (fun u hu => ⟨hu.1, hu.2.1, hu.2.2.1⟩) (out_receive _) hs.l (loses_of (h.a.receive _ (read_wide _ _)) (by omega)) hZ)
  rw [show c.ev1 ⟨k, 0, id, i, d, g, keeps⟩ c.a = (c, []) from by simp [Clu.ev1, Clu.ev2, Clu.ev3, Clu.ev4, h1, h2, h3, h4, h5, h6, h7, h8, h9, h10, h11, h12, h13, h14]]
  exact t_N 9 (ine h14) (e_C x (.slice none 0 0) fun u hu => ⟨⟨hu.a, hu.b, hu.l⟩, rw_nil _ _⟩)
end
end Go.Proofs.YtkjikigimmchlaaGreatDoor
