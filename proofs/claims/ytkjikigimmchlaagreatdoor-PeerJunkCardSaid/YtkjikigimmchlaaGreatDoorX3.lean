/- Nodes: what the document's calls of layers 16 to 21 answer, plainly; the last part. No condition but that the node may be, and lies in memory. -/
import Derived.Test.YtkjikigimmchlaaGreatDoorNQ
import Derived.Test.YtkjikigimmchlaaGreatDoorX2
namespace Go.Proofs.YtkjikigimmchlaaGreatDoor
open Go.RowKit
section
variable {n : Nod}
theorem le_app {α : Type} {l m : List α} {i j : Nat} (h : l.length ≤ i) (k : m.length ≤ j) : (l ++ m).length ≤ i + j := by rw [List.length_append]; omega
theorem out_promote (id : Int) : (n.promote id).2.length ≤ 3 := by
  unfold Nod.promote Nod.refuse
  repeat' split
  all_goals first | (simp; done) | (dsimp only; split <;> simp)
theorem out_demote (id : Int) : (n.demote id).2.length ≤ 3 := by
  unfold Nod.demote Nod.refuse
  repeat' split
  all_goals first | (simp; done) | (dsimp only; (repeat' split) <;> simp)
theorem out_discard (id : Int) : (n.discard id).2.length ≤ 3 := by
  unfold Nod.discard Nod.refuse
  repeat' split
  all_goals first | (simp; done) | (dsimp only; split <;> simp)
theorem out_read (id i : Int) : (n.read id i).2.length ≤ 3 := by
  unfold Nod.read Nod.refuse
  repeat' split
  all_goals simp
theorem out_laid (id i : Int) (d : ByteArray) : (n.laid id i d).2.length ≤ 1 := by
  unfold Nod.laid
  dsimp only
  repeat' split
  all_goals simp
theorem out_write (id i : Int) (d : ByteArray) : (n.write id i d).2.length ≤ 3 := by
  unfold Nod.write Nod.refuse
  repeat' split
  all_goals first | (simp; done) | exact Nat.le_trans (out_laid id i d) (by decide)
theorem out_acked (i : Int) : (n.acked i).2.length ≤ 3 := by
  unfold Nod.acked
  dsimp only
  repeat' split
  all_goals simp
theorem out_apply (i : Int) (d : ByteArray) : (n.apply i d).2.length ≤ 3 := by
  unfold Nod.apply
  dsimp only
  split <;> simp
theorem out_lose : n.lose.2.length ≤ 3 := by
  unfold Nod.lose
  split
  · simp
  · dsimp only
    split
    · exact Nat.le_trans (le_app (i := 1) (j := 1) (by split <;> simp) (by split <;> simp)) (by decide)
    · show (if n.ask = true then [n.reply n.askId 13 e1] else []).length ≤ 3
      split <;> simp
theorem out_seek : n.seek.2.length ≤ 1 := by
  unfold Nod.seek
  split
  · simp
  · split
    · simp
    · dsimp only
      split <;> simp
theorem out_got (i : Int) (d : ByteArray) : (n.got i d).2.length ≤ 3 := by
  unfold Nod.got
  split
  · dsimp only
    split
    · split
      · rw [List.length_cons]
        exact Nat.le_trans (Nat.succ_le_succ out_seek) (by decide)
      · simp
    · simp
  · simp
theorem out_copied (i : Int) : (n.copied i).2.length ≤ 3 := by
  unfold Nod.copied
  split <;> simp
theorem out_ended : n.ended.2.length ≤ 3 := by
  unfold Nod.ended
  dsimp only
  split <;> simp
theorem out_met (p : Hel) : (n.met p).2.length ≤ 3 := by
  unfold Nod.met
  split
  · simp
  · split
    · simp
    · dsimp only
      split
      · split
        · simp
        · split
          · exact Nat.le_trans out_seek (by decide)
          · simp
      · simp
theorem out_roles (k : Int) : (n.roles k).2.length ≤ 3 := by
  unfold Nod.roles
  repeat' split
  all_goals first | (simp; done) | (dsimp only; split <;> simp)
theorem out_takes (p : Pkt) : (n.takes p).2.length ≤ 3 := by
  unfold Nod.takes
  repeat' split
  · exact out_met _
  · exact out_apply _ _
  · exact out_acked _
  · exact Nat.zero_le _
  · exact (by decide : 1 ≤ 3)
  · exact out_got _ _
  · exact out_copied _
  · exact out_ended
  · exact Nat.zero_le _
  · exact out_roles _
theorem out_receive (b : ByteArray) : (n.receive b).2.length ≤ 3 := by
  unfold Nod.receive
  repeat' split
  · exact Nat.zero_le _
  · exact Nat.zero_le _
  · simp
  · exact out_takes _
end
def LLen (p : Nat) (l : Lnk) : Prop := l.a.length ≤ p ∧ l.b.length ≤ p
theorem LLen.mono {p q : Nat} {l : Lnk} (h : LLen p l) (hq : p ≤ q) : LLen q l := ⟨Nat.le_trans h.1 hq, Nat.le_trans h.2 hq⟩
theorem llen_send {p : Nat} {l : Lnk} (h : LLen p l) (g : Int) (x : ByteArray) : LLen (p + 1) (l.send g [x]) := by
  unfold Lnk.send
  split
  · unfold Lnk.on Lnk.side
    split
    · exact ⟨by show (l.a ++ [x]).length ≤ p + 1; rw [List.length_append]; have := h.1; show l.a.length + 1 ≤ p + 1; omega, Nat.le_trans h.2 (by omega)⟩
    · exact ⟨Nat.le_trans h.1 (by omega), by show (l.b ++ [x]).length ≤ p + 1; rw [List.length_append]; have := h.2; show l.b.length + 1 ≤ p + 1; omega⟩
  · exact h.mono (by omega)
theorem llen_sends : ∀ (o : List Ou) {p : Nat} {l : Lnk} (_ : LLen p l) (g : Int), LLen (p + o.length) (sendsL l g o)
  | [], _, _, h, _ => h
  | x :: r, p, l, h, g => by
    unfold sendsL
    split
    · have h2 : LLen (p + 1) (if l.u = true then l.send g [x.d] else l) := by
        split
        · exact llen_send h g x.d
        · exact h.mono (by omega)
      have := llen_sends r h2 g
      rw [List.length_cons]
      exact this.mono (by omega)
    · exact (llen_sends r h g).mono (by rw [List.length_cons]; omega)
theorem llen_taken {p : Nat} {l : Lnk} (h : LLen p l) (g : Int) : LLen p (l.taken g) := by
  unfold Lnk.taken
  split
  · unfold Lnk.on Lnk.side
    split
    · exact ⟨by show l.a.tail.length ≤ p; rw [List.length_tail]; have := h.1; omega, h.2⟩
    · exact ⟨h.1, by show l.b.tail.length ≤ p; rw [List.length_tail]; have := h.2; omega⟩
  · exact h
theorem llen_zero (p : Nat) (u : Bool) (s : Int) : LLen p ⟨u, s, [], []⟩ := ⟨Nat.zero_le _, Nat.zero_le _⟩
theorem loses_l (c : Clu) (i : Int) (out : List Ou) : (c.loses i out).1.l = c.l := by
  unfold Clu.loses Clu.setW Clu.setN
  dsimp only
  repeat' split
  all_goals rfl
theorem ends_l (c : Clu) (out : List Ou) : (c.ends out).1.l = c.l.closed := by
  unfold Clu.ends
  dsimp only
  rw [loses_l, loses_l]
theorem setW_l (c : Clu) (i : Int) (x : Bool) : (c.setW i x).l = c.l := by
  unfold Clu.setW
  split <;> rfl
theorem llen_after {p : Nat} {c : Clu} (h : LLen p c.l) (i : Int) (n : Nod) (l : List Ou) (hl : l.length ≤ 3) : LLen (p + 3) (c.after i n l).1.l := by
  have hs : LLen (p + 3) (sendsL c.l (1 - i) l) := (llen_sends l h (1 - i)).mono (by omega)
  have key : ∀ (c2 : Clu) (P : Prop) [Decidable P] (o : List Ou), c2.l = sendsL c.l (1 - i) l → LLen (p + 3) (if P then (c2, o) else Clu.ends (if closesL l = true then { c2 with wa := false, wb := false } else c2) o).1.l := by
    intro c2 P _ o h2
    split
    · show LLen (p + 3) c2.l
      rw [h2]
      exact hs
    · rw [ends_l]
      exact llen_zero _ _ _
  unfold Clu.after
  dsimp only
  refine key _ _ _ ?_
  split
  · rfl
  · exact setW_l _ _ _
theorem setN_l (c : Clu) (i : Int) (n : Nod) : (c.setN i n).l = c.l := by
  unfold Clu.setN
  split <;> rfl
theorem llen_connect {p : Nat} {c : Clu} (h : LLen p c.l) (i : Int) : LLen (p + 6) (c.connect i).1.l := by
  unfold Clu.connect
  split
  · exact h.mono (by omega)
  · dsimp only
    split
    · rw [setW_l]
      exact h.mono (by omega)
    · have h2 := llen_after (c := { c.setW i true with l := (c.setW i true).l.opened }) (llen_zero p _ _) 0 ((c.setW i true).a.begins (c.setW i true).l.opened.s).1 _ (show ((c.setW i true).a.begins (c.setW i true).l.opened.s).2.length ≤ 3 from (by decide : 1 ≤ 3))
      exact llen_after h2 1 _ _ (by decide : 1 ≤ 3)
section
variable {p : Nat} {c : Clu} {v : Evt} {n : Nod}
theorem llen_ev4 (h : LLen p c.l) : LLen (p + 6) (c.ev4 v n).1.l := by
  unfold Clu.ev4
  split
  · exact (llen_after h _ _ _ (by simp)).mono (by omega)
  split
  · show LLen (p + 6) (c.setN _ _).l
    rw [setN_l]
    exact h.mono (by omega)
  split
  · split
    · exact h.mono (by omega)
    · exact (llen_after h _ _ _ (out_receive _)).mono (by omega)
  · exact h.mono (by omega)
theorem llen_ev3 (h : LLen p c.l) : LLen (p + 6) (c.ev3 v n).1.l := by
  unfold Clu.ev3
  split
  · split
    · exact (llen_after (c := { c with l := c.l.taken v.n }) (llen_taken h _) _ _ _ (out_receive _)).mono (by omega)
    · exact h.mono (by omega)
  split
  · split
    · exact (llen_after h _ _ _ (by simp)).mono (by omega)
    · exact h.mono (by omega)
  split
  · show LLen (p + 6) (c.setN _ _).l
    rw [setN_l]
    exact h.mono (by omega)
  · exact llen_ev4 h
theorem llen_ev2 (h : LLen p c.l) : LLen (p + 6) (c.ev2 v n).1.l := by
  unfold Clu.ev2
  split
  · exact llen_connect h _
  split
  · split
    · rw [ends_l]
      exact llen_zero _ _ _
    · show LLen (p + 6) (c.setW _ _).l
      rw [setW_l]
      exact h.mono (by omega)
  split
  · split
    · rw [ends_l]
      exact llen_zero _ _ _
    · exact h.mono (by omega)
  · exact llen_ev3 h
theorem llen_doEv (h : LLen p c.l) (v : Evt) : LLen (p + 6) (c.doEv v).1.l := by
  unfold Clu.doEv
  split
  · exact h.mono (by omega)
  unfold Clu.ev1
  split
  · exact (llen_after h _ _ _ (out_promote _)).mono (by omega)
  split
  · exact (llen_after h _ _ _ (out_demote _)).mono (by omega)
  split
  · exact (llen_after h _ _ _ (out_discard _)).mono (by omega)
  split
  · exact (llen_after h _ _ _ (out_read _ _)).mono (by omega)
  split
  · exact (llen_after h _ _ _ (out_write _ _ _)).mono (by omega)
  · exact llen_ev2 h
theorem llen_play : ∀ (l : List Evt) {p : Nat} {c : Clu} (_ : LLen p c.l), LLen (p + 6 * l.length) (c.play l).1.l
  | [], _, _, h => h
  | v :: r, p, c, h => by
    have := llen_play r (llen_doEv h v)
    unfold Clu.play
    dsimp only
    rw [List.length_cons]
    exact this.mono (by omega)
theorem llen_reach (N : Nat) (l : List Evt) : LLen (6 * l.length) (reachC N l).l := (llen_play l (llen_zero 0 false 0) : LLen (0 + 6 * l.length) ((newC N).play l).1.l).mono (by omega)
end
end Go.Proofs.YtkjikigimmchlaaGreatDoor
namespace Go.Proofs.YtkjikigimmchlaaGreatDoor
open Go.RowKit PX
set_option maxRecDepth 100000
section
variable {N q : Nat} {n : Nod} {a : Adr} {w : World}
def Nod.alone (n : Nod) : Nod := ⟨n.id, n.up, n.t, n.pri, 0, 0, Hel.zero, false, Req.zero, false, 0, 0, false, n.dr, n.mi⟩
theorem NOk.alone (h : NOk N q n) : NOk N q n.alone := h.as rfl rfl b64_zero Hel.zero_wide rfl rfl
theorem lose_eq (n : Nod) : n.lose = if n.st = 0 then (n, []) else if n.rq.on = true then (n.alone.mints.1, (if n.ask = true then [n.reply n.askId 13 e1] else []) ++ if n.alone.mints.2 = 6 then [] else [n.alone.mints.1.reply n.rq.id n.alone.mints.2 e1]) else (n.alone, if n.ask = true then [n.reply n.askId 13 e1] else []) := rfl
theorem xlose (h : NOk N q n) (hq : q ≤ 890) (hu : n.up = true) (hn : NM w n a) : Calls Tryz.prog 143 #[nodV n a] w (GivesN n.lose w) := by
  refine run (st_nm n a) hn ?_
  have hm := fun u (hu' : NM u n a) => xmints (w := u) h.alone hq hu hu'.like
  rw [lose_eq]
  by_cases hs : n.st = 0
  · rw [if_pos hs]; exact t_Y 9 (ieq hs) (e_n0 a fun _ h => h)
  rw [if_neg hs]
  refine t_N 0 (ine hs) ?_
  dsimp only
  by_cases ha : n.ask = true
  · rw [if_pos ha]
    refine t_Y 0 ha (t_v (fun u _ => yreply n a n.askId 13 e1 u) (t_push (n.reply n.askId 13 e1) n a (fun u hu => ⟨hu, rw_nil w u⟩) fun r1 v1 => ?_))
    by_cases hr : n.rq.on = true
    · rw [if_pos hr]
      refine t_N (b := !n.rq.on) 0 (by simp [hr]) (t_e (r := n.alone.mints) (fun u hu => hm u hu.1) fun a2 => ?_)
      by_cases h6 : n.alone.mints.2 = 6
      · rw [if_pos h6, List.append_nil]
        exact t_Y 9 (ieq h6) (e_nr (r := (n.alone.mints.1, [n.reply n.askId 13 e1])) a2 v1 fun u hu => ⟨hu.2, hu.1.2⟩)
      · rw [if_neg h6]
        exact t_N 0 (ine h6) (t_v (fun u _ => yreply n.alone.mints.1 a2 n.rq.id n.alone.mints.2 e1 u) (t_push (n.alone.mints.1.reply n.rq.id n.alone.mints.2 e1) n.alone.mints.1 a2 (fun u hu => ⟨hu.2, hu.1.2⟩) fun r2 v2 => e_nr (r := (n.alone.mints.1, [n.reply n.askId 13 e1] ++ [n.alone.mints.1.reply n.rq.id n.alone.mints.2 e1])) a2 v2 fun u hu => hu))
    · rw [if_neg hr]
      exact t_Y (b := !n.rq.on) 9 (by simpa using hr) (e_nr (r := (n.alone, [n.reply n.askId 13 e1])) a v1 fun u hu => ⟨hu.1.like, hu.2⟩)
  · rw [if_neg ha]
    refine t_N 0 (bfalse ha) ?_
    by_cases hr : n.rq.on = true
    · rw [if_pos hr]
      refine t_N (b := !n.rq.on) 0 (by simp [hr]) (t_e (r := n.alone.mints) (fun u hu => hm u hu) fun a2 => ?_)
      by_cases h6 : n.alone.mints.2 = 6
      · rw [if_pos h6]
        exact t_Y 9 (ieq h6) (e_n0 a2 fun u hu => hu.2)
      · rw [if_neg h6]
        exact t_N 0 (ine h6) (t_v (fun u _ => yreply n.alone.mints.1 a2 n.rq.id n.alone.mints.2 e1 u) (t_push (n.alone.mints.1.reply n.rq.id n.alone.mints.2 e1) n.alone.mints.1 a2 (fun u hu => ⟨hu.2, rw_nil w u⟩) fun r2 v2 => e_nr (r := (n.alone.mints.1, [] ++ [n.alone.mints.1.reply n.rq.id n.alone.mints.2 e1])) a2 v2 fun u hu => hu))
    · rw [if_neg hr]
      exact t_Y (b := !n.rq.on) 9 (by simpa using hr) (e_n0 a fun u hu => hu.like)
theorem xgot (h : NOk N q n) (hq : q ≤ 880) (hu : n.up = true) (i : Int) (d : ByteArray) (hi0 : 0 ≤ i) (hi1 : i < 32) (hn : NM w n a) : Calls Tryz.prog 150 #[nodV n a, .int .i64 i, .string d] w (GivesN (n.got i d) w) := by
  have hW : IntKind.i64.wrap (i + 1) = i + 1 := wrap_i64 (by omega) (by omega)
  refine run (st_nm n a) hn ?_
  unfold Nod.got
  by_cases hw : n.want = i + 1
  · rw [if_pos hw]
    refine t_N (b := n.want != IntKind.i64.wrap (i + 1)) 0 (by rw [hW]; simpa using hw) ?_
    have hP := fun u (hu' : NM u n a) => rzput_any a.A a.B a.k a.m n.t.s n.t.c n.t.f n.t.x n.t.b n.t.m i d u hu'.t (h.fit (by omega))
    have hm : NOk N (q + 1) (n.keep (n.t.put i d)).1 := h.keep (goes_put (h.live hu) i d)
    refine t_s hP fun A k B m => ?_
    have hkp := fun x (hx : (n.keep (n.t.put i d)).2 = x) u (h1 : NM u n a) h2 => keep_as hx A k B m (w := u) h1 h2
    dsimp only
    cases hk : (n.keep (n.t.put i d)).2 with
    | false =>
      rw [if_neg (by decide)]
      exact t_y (fun u hu' => hkp _ hk u hu'.1 hu'.2) fun a2 => t_lit 9 (e_n0 a2 fun _ h => h.2)
    | true =>
      rw [if_pos rfl]
      have hup : (n.keep (n.t.put i d)).1.up = true := by rw [keep_up hk]; exact hu
      have hkp2 := hkp _ hk
      clear hkp hk
      generalize (n.keep (n.t.put i d)).1 = m1 at *
      refine t_y (r := (m1, true)) (fun u hu' => hkp2 u hu'.1 hu'.2) fun a2 => t_lit 9 ?_
      have hwp := fun x (hx : (m1.wipe i).2 = x) u (h1 : NM u m1 a2) => xwipe_as (w := u) hm (by omega) hup i hx h1
      have hm2 := hm.wipe hup i
      cases hk2 : (m1.wipe i).2 with
      | false =>
        rw [if_neg (by decide)]
        exact t_y (fun u hu' => hwp _ hk2 u hu'.2) fun a3 => t_lit 9 (e_n0 a3 fun _ h => h.2)
      | true =>
        rw [if_pos rfl]
        have hup2 : (m1.wipe i).1.up = true := by
          have : (m1.keep (m1.t.wipe i)).1.up = true := by rw [keep_up hk2]; exact hup
          exact this
        have hw2 := hwp _ hk2
        clear hwp hk2
        generalize (m1.wipe i).1 = m2 at *
        refine t_y (r := (m2, true)) (fun u hu' => hw2 u hu'.2) fun a3 => t_lit 9 ?_
        have hz : NOk N (q + 1 + 1) { m2 with want := 0 } := hm2.as rfl rfl hm2.ses hm2.peer rfl rfl
        refine t_v (fun u _ => ysend { m2 with want := 0 } a3 (pkI 7 i) u hm2.ses Hel.zero_wide) (t_o (m2.send (pkI 7 i)) fun r1 hr1 => ?_)
        refine t_n (fun u hu' => xseek (w := u) hz (by omega) hup2 hu'.1.2.like) fun a4 O k => ?_
        exact t_ao (l0 := [m2.send (pkI 7 i)]) (l := (Nod.seek { m2 with want := 0 }).2) (fun u => NM u (Nod.seek { m2 with want := 0 }).1 a4) (st_nm _ a4) (fun u hu' => ⟨rw_box hr1 hu'.1.2, hu'.2.2.1⟩) (fun u u' hu' hr hg => hr.nm hg hu'.2.1) (by have := out_seek (n := { m2 with want := 0 }); simp only [List.length_cons, List.length_nil]; omega) (fun v' => e_nr a4 v' fun u hu' => hu')
  · rw [if_neg hw]
    exact t_Y (b := n.want != IntKind.i64.wrap (i + 1)) 9 (by rw [hW]; simpa using hw) (e_n0 a fun _ h => h)
theorem xroles (h : NOk N q n) (hq : q ≤ 890) (hu : n.up = true) (k : Int) (hk : k = 10 ∨ k = 11 ∨ k = 12 ∨ k = 13) (hn : NM w n a) : Calls Tryz.prog 154 #[nodV n a, .int .i64 k] w (GivesN (n.roles k) w) := by
  refine run (st_nm n a) hn ?_
  unfold Nod.roles
  rcases hk with rfl | rfl | rfl | rfl
  · rw [if_pos rfl]
    refine t_lit 1 ?_
    by_cases hp : n.pri = true
    · rw [if_pos (.inl hp)]
      exact t_N (b := !n.pri) 9 (by simp [hp]) (t_v (fun u _ => ysend n a (pk 12) u h.ses Hel.zero_wide) (e_n1 a fun _ h => h))
    · refine t_Y (b := !n.pri) 1 (by simpa using hp) ?_
      by_cases hs : n.ask = true
      · rw [if_pos (.inr hs)]
        exact t_Y 9 hs (t_v (fun u _ => ysend n a (pk 12) u h.ses Hel.zero_wide) (e_n1 a fun _ h => h))
      · rw [if_neg (by rintro (g | g); exact hp g; exact hs g)]
        exact t_N 9 (bfalse hs) (t_v (fun u _ => ysend { n with ppri := true } a (pk 11) u h.ses Hel.zero_wide) (e_n1 a fun _ h => h.like))
  · rw [if_neg (by decide), if_neg (by decide), if_neg (by decide)]
    have hc := fun x (hx : (n.commit { n.t.b with r := true }).2 = x) u (hu' : NM u n a) => xcommit_as (w := u) h (by omega) (set_r (h.bw hu) true) hx hu'
    refine t_lit 3 ?_
    cases hk : (n.commit { n.t.b with r := true }).2 with
    | false =>
      dsimp only
      rw [if_neg (by rw [hk]; decide)]
      exact t_y (hc _ hk) fun a2 => t_lit 9 (e_n0 a2 fun _ h => h.2)
    | true =>
      dsimp only
      rw [if_pos hk]
      exact t_y (hc _ hk) fun a2 => t_lit 9 (t_v (fun u _ => yreply { (n.commit { n.t.b with r := true }).1 with pri := true, ask := false, askId := 0 } a2 n.askId 0 e1 u) (e_n1 a2 fun _ h => h.2.like))
  · rw [if_neg (by decide), if_pos rfl]
    exact t_lit 2 (t_v (fun u _ => yreply { n with ask := false, askId := 0 } a n.askId 12 e1 u) (e_n1 a fun _ h => h.like))
  · rw [if_neg (by decide), if_neg (by decide), if_pos rfl]
    exact t_lit 3 (e_n0 a fun _ h => h.like)
set_option maxHeartbeats 1000000 in
theorem xfits (hu : n.up = true) (p : Pkt) (hk : 1 ≤ p.k ∧ p.k ≤ 13) (v : World) : Calls Tryz.prog 144 #[nodV n a, pktV p] v fun e v' => e = .returned (.bool (n.fits p)) ∧ Below v.heap.size v v' := by
  refine run_v ?_
  obtain ⟨k, s, hl, b, d⟩ := p
  have h13 : k = 1 ∨ k = 2 ∨ k = 3 ∨ k = 4 ∨ k = 5 ∨ k = 6 ∨ k = 7 ∨ k = 8 ∨ k = 9 ∨ k = 10 ∨ k = 11 ∨ k = 12 ∨ k = 13 := by dsimp only at hk; omega
  have u0 : (!(!n.up)) = true := by simp [hu]
  have b2 : n.t.b.n ≤ b → decide (b ≥ n.t.b.n) = true := fun h => decide_eq_true h
  have b3 : ¬ n.t.b.n ≤ b → decide (b ≥ n.t.b.n) = false := fun h => decide_eq_false h
  have cs : ∀ x : Bool, (!x) = true ∧ x = false ∨ (!x) = false ∧ x = true := by decide
  rcases h13 with rfl | rfl | rfl | rfl | rfl | rfl | rfl | rfl | rfl | rfl | rfl | rfl | rfl
  · exact t_Y 30 u0 (e_r2 (.bool (n.st == 1)) (by simp [Nod.fits, hu]))
  · refine t_Y 16 u0 ?_
    by_cases hb : n.t.b.n ≤ b
    · exact t_Y 9 (b2 hb) (e_r2 (.bool false) (by simp [Nod.fits, hb]))
    · have f := b3 hb
      refine t_N 2 f ?_
      rcases cs n.pri with ⟨h, g⟩ | ⟨h, g⟩
      · refine t_Y 1 h ?_
        rcases cs (n.st == 2) with ⟨i, j⟩ | ⟨i, j⟩
        · exact t_Y 9 i (e_r2 (.bool (n.st == 4)) (by simp [Nod.fits, hb, hu, g, j]))
        · exact t_N 9 i (e_r2 (.bool true) (by simp [Nod.fits, hb, hu, g, j]))
      · exact t_N 9 h (e_r2 (.bool false) (by simp [Nod.fits, hb, hu, g]))
  · refine t_Y 16 u0 ?_
    by_cases hb : n.t.b.n ≤ b
    · exact t_Y 9 (b2 hb) (e_r2 (.bool false) (by simp [Nod.fits, hb]))
    · have f := b3 hb
      refine t_N 3 f ?_
      rcases cs (n.st == 2) with ⟨h, g⟩ | ⟨h, g⟩
      · exact t_Y 9 h (e_r2 (.bool (n.st == 3)) (by simp [Nod.fits, hb, hu, g]))
      · exact t_N 9 h (e_r2 (.bool true) (by simp [Nod.fits, hb, hu, g]))
  · refine t_Y 16 u0 ?_
    by_cases hb : n.t.b.n ≤ b
    · exact t_Y 9 (b2 hb) (e_r2 (.bool false) (by simp [Nod.fits, hb]))
    · have f := b3 hb
      refine t_N 4 f ?_
      rcases cs (n.st == 2) with ⟨h, g⟩ | ⟨h, g⟩
      · exact t_Y 9 h (e_r2 (.bool (n.st == 4)) (by simp [Nod.fits, hb, hu, g]))
      · exact t_N 9 h (e_r2 (.bool true) (by simp [Nod.fits, hb, hu, g]))
  · refine t_Y 16 u0 ?_
    by_cases hb : n.t.b.n ≤ b
    · exact t_Y 9 (b2 hb) (e_r2 (.bool false) (by simp [Nod.fits, hb]))
    · have f := b3 hb
      exact t_N 9 f (e_r2 (.bool (n.st == 3)) (by simp [Nod.fits, hb, hu]))
  · refine t_Y 16 u0 ?_
    by_cases hb : n.t.b.n ≤ b
    · exact t_Y 9 (b2 hb) (e_r2 (.bool false) (by simp [Nod.fits, hb]))
    · have f := b3 hb
      exact t_N 9 f (e_r2 (.bool (n.st == 4)) (by simp [Nod.fits, hb, hu]))
  · refine t_Y 16 u0 ?_
    by_cases hb : n.t.b.n ≤ b
    · exact t_Y 9 (b2 hb) (e_r2 (.bool false) (by simp [Nod.fits, hb]))
    · have f := b3 hb
      exact t_N 9 f (e_r2 (.bool (n.st == 3)) (by simp [Nod.fits, hb, hu]))
  · exact t_Y 30 u0 (e_r2 (.bool (n.st == 3)) (by simp [Nod.fits, hu]))
  · refine t_Y 26 u0 ?_
    rcases cs (n.st == 4) with ⟨h, g⟩ | ⟨h, g⟩
    · exact t_N 9 g (e_r2 (.bool false) (by simp [Nod.fits, hu, g]))
    · exact t_Y 9 g (e_r2 (.bool (!n.t.b.i)) (by simp [Nod.fits, hu, g]))
  · refine t_Y 28 u0 ?_
    rcases cs (n.st == 2) with ⟨h, g⟩ | ⟨h, g⟩
    · refine t_Y 0 h ?_
      rcases cs (n.st == 3) with ⟨i, j⟩ | ⟨i, j⟩
      · exact t_Y 9 i (e_r2 (.bool (n.st == 4)) (by simp [Nod.fits, hu, g, j]))
      · exact t_N 9 i (e_r2 (.bool true) (by simp [Nod.fits, hu, g, j]))
    · exact t_N 9 h (e_r2 (.bool true) (by simp [Nod.fits, hu, g]))
  · refine t_Y 30 u0 ?_
    rcases cs n.ask with ⟨h, g⟩ | ⟨h, g⟩
    · exact t_N 9 g (e_r2 (.bool false) (by simp [Nod.fits, hu, g]))
    · refine t_Y 1 g ?_
      rcases cs (n.st == 2) with ⟨h, k⟩ | ⟨h, k⟩
      · refine t_Y 2 h ?_
        rcases cs (n.st == 3) with ⟨i, j⟩ | ⟨i, j⟩
        · exact t_Y 9 i (e_r2 (.bool (n.st == 4)) (by simp [Nod.fits, hu, g, j, k]))
        · exact t_N 9 i (e_r2 (.bool true) (by simp [Nod.fits, hu, g, j, k]))
      · exact t_N 9 h (e_r2 (.bool true) (by simp [Nod.fits, hu, g, k]))
  · refine t_Y 30 u0 ?_
    rcases cs n.ask with ⟨h, g⟩ | ⟨h, g⟩
    · exact t_N 9 g (e_r2 (.bool false) (by simp [Nod.fits, hu, g]))
    · refine t_Y 1 g ?_
      rcases cs (n.st == 2) with ⟨h, k⟩ | ⟨h, k⟩
      · refine t_Y 2 h ?_
        rcases cs (n.st == 3) with ⟨i, j⟩ | ⟨i, j⟩
        · exact t_Y 9 i (e_r2 (.bool (n.st == 4)) (by simp [Nod.fits, hu, g, j, k]))
        · exact t_N 9 i (e_r2 (.bool true) (by simp [Nod.fits, hu, g, j, k]))
      · exact t_N 9 h (e_r2 (.bool true) (by simp [Nod.fits, hu, g, k]))
  · refine t_Y 28 u0 ?_
    rcases cs (n.st == 2) with ⟨h, g⟩ | ⟨h, g⟩
    · refine t_Y 0 h ?_
      rcases cs (n.st == 3) with ⟨i, j⟩ | ⟨i, j⟩
      · exact t_Y 9 i (e_r2 (.bool (n.st == 4)) (by simp [Nod.fits, hu, g, j]))
      · exact t_N 9 i (e_r2 (.bool true) (by simp [Nod.fits, hu, g, j]))
    · exact t_N 9 h (e_r2 (.bool true) (by simp [Nod.fits, hu, g]))
end
end Go.Proofs.YtkjikigimmchlaaGreatDoor
