/- Nodes that write, the code's calls of layer 17: what each answers is the document's. No condition but that the node may be, and lies in memory. -/
import Derived.Test.YtkjikigimmchlaaGreatDoorNQ
import Derived.Test.YtkjikigimmchlaaGreatDoorWQ
import Derived.Test.YtkjikigimmchlaaGreatDoorWC
import Derived.Test.YtkjikigimmchlaaGreatDoorX2
namespace Go.Proofs.YtkjikigimmchlaaGreatDoor
open Go.RowKit
structure Keeps (Q : Nod → Prop) : Prop where
  promote : ∀ n id, Q n → Q (n.promote id).1
  demote : ∀ n id, Q n → Q (n.demote id).1
  discard : ∀ n id, Q n → Q (n.discard id).1
  read : ∀ n id i, Q n → Q (n.read id i).1
  write : ∀ n id i d, Q n → Q (n.write id i d).1
  lose : ∀ n, Q n → n.up = true → Q n.lose.1
  begins : ∀ n s, Q n → n.up = true → Q (n.begins s).1
  receive : ∀ n b, Q n → Q (n.receive b).1
  down : ∀ n, Q n → Q n.down
  attach : ∀ n l, Q n → Q (n.attach l).1
  fuse : ∀ n f, Q n → Q { n with t := { n.t with f := f } }
  draw : ∀ n g, Q n → Q { n with dr := n.dr ++ [g] }
section
variable {Q : Nod → Prop} (K : Keeps Q) {c : Clu}
def CQ (Q : Nod → Prop) (c : Clu) : Prop := Q c.a ∧ Q c.b
theorem CQ.nd (h : CQ Q c) (i : Int) : Q (c.nd i) := by
  unfold Clu.nd
  split
  · exact h.1
  · exact h.2
theorem CQ.setN (h : CQ Q c) (i : Int) {n : Nod} (hn : Q n) : CQ Q (c.setN i n) := by
  unfold Clu.setN
  split
  · exact ⟨hn, h.2⟩
  · exact ⟨h.1, hn⟩
theorem CQ.setW (h : CQ Q c) (i : Int) (x : Bool) : CQ Q (c.setW i x) := by
  unfold Clu.setW
  split <;> exact h
include K
theorem CQ.loses (h : CQ Q c) (i : Int) (out : List Ou) : CQ Q (c.loses i out).1 := by
  unfold Clu.loses
  split
  · exact h
  · next hu =>
    have hl := K.lose _ (h.nd i) (by simpa using hu)
    dsimp only
    split
    · exact h.setN i hl
    · exact (h.setN i hl).setW i false
theorem CQ.ends (h : CQ Q c) (out : List Ou) : CQ Q (c.ends out).1 := by
  unfold Clu.ends
  exact CQ.loses K (CQ.loses K (c := { c with l := c.l.closed }) h 0 out) 1 _
theorem CQ.closes (l : List Ou) (u : Bool) (c2 : Clu) (h2 : CQ Q c2) : CQ Q (if c2.l.u = false ∨ (u = true ∧ closesL l = false) then (c2, saysL l) else Clu.ends (if closesL l = true then { c2 with wa := false, wb := false } else c2) (saysL l)).1 := by
  split
  · exact h2
  · refine CQ.ends K ?_ _
    split
    · exact ⟨h2.1, h2.2⟩
    · exact h2
theorem CQ.after (h : CQ Q c) (i : Int) {n : Nod} (hn : Q n) (l : List Ou) : CQ Q (c.after i n l).1 := by
  have h1 : CQ Q { c.setN i n with l := sendsL c.l (1 - i) l } := h.setN i hn
  have h2 : CQ Q (if n.up = true then { c.setN i n with l := sendsL c.l (1 - i) l } else Clu.setW { c.setN i n with l := sendsL c.l (1 - i) l } i false) := by
    split
    · exact h1
    · exact h1.setW i false
  exact CQ.closes K l n.up _ h2
omit K in
theorem after_begins (c : Clu) (i s : Int) {n : Nod} (hu : n.up = true) : ∃ l, (c.after i (n.begins s).1 (n.begins s).2).1 = { c.setN i (n.begins s).1 with l := l } := by
  unfold Clu.after
  dsimp only
  rw [if_pos (show (n.begins s).1.up = true from hu), if_pos (.inr ⟨hu, rfl⟩)]
  exact ⟨_, rfl⟩
theorem CQ.connect (h : CQ Q c) {i : Int} (hi : i = 0 ∨ i = 1) : CQ Q (c.connect i).1 := by
  unfold Clu.connect
  split
  · exact h
  · next hu =>
    have hu : (c.nd i).up = true := by simpa using hu
    dsimp only
    split
    · exact h.setW i true
    · next hc =>
      have h1 := h.setW i true
      have hv : ((c.setW i true).nd (1 - i)).up = true := by
        cases e : ((c.setW i true).nd (1 - i)).up with
        | true => rfl
        | false => exact absurd (.inr (.inl e)) hc
      have ab : (c.setW i true).a.up = true ∧ (c.setW i true).b.up = true := by
        rcases hi with rfl | rfl
        · exact ⟨hu, hv⟩
        · exact ⟨hv, hu⟩
      generalize c.setW i true = c1 at *
      obtain ⟨l, e⟩ := after_begins { c1 with l := c1.l.opened } 0 c1.l.opened.s (n := c1.a) ab.1
      have h3 : CQ Q (Clu.after { c1 with l := c1.l.opened } 0 (c1.a.begins c1.l.opened.s).1 (c1.a.begins c1.l.opened.s).2).1 := CQ.after K (c := { c1 with l := c1.l.opened }) h1 0 (K.begins _ _ h1.1 ab.1) _
      refine CQ.after K h3 1 (K.begins _ _ h3.2 ?_) _
      rw [e]
      exact ab.2
theorem CQ.doEv (h : CQ Q c) (v : Evt) : CQ Q (c.doEv v).1 := by
  unfold Clu.doEv
  split
  · exact h
  next hv =>
  have hi : v.n = 0 ∨ v.n = 1 := by omega
  have hn := h.nd v.n
  generalize c.nd v.n = n at *
  unfold Clu.ev1
  split
  · exact CQ.after K h _ (K.promote _ _ hn) _
  split
  · exact CQ.after K h _ (K.demote _ _ hn) _
  split
  · exact CQ.after K h _ (K.discard _ _ hn) _
  split
  · exact CQ.after K h _ (K.read _ _ _ hn) _
  split
  · exact CQ.after K h _ (K.write _ _ _ _ hn) _
  unfold Clu.ev2
  split
  · exact CQ.connect K h hi
  split
  · split
    · exact CQ.ends K (h.setW v.n false) []
    · exact h.setW v.n false
  split
  · split
    · exact CQ.ends K h []
    · exact h
  unfold Clu.ev3
  split
  · split
    · exact CQ.after K (c := { c with l := c.l.taken v.n }) h _ (K.receive _ _ hn) _
    · exact h
  split
  · split
    · exact CQ.after K h _ (K.down _ hn) _
    · exact h
  split
  · exact h.setN v.n (K.attach _ _ hn)
  unfold Clu.ev4
  split
  · refine CQ.after K h _ ?_ _
    split
    · exact K.fuse _ _ hn
    · exact hn
  split
  · refine h.setN v.n ?_
    split
    · exact K.draw _ _ hn
    · exact hn
  split
  · split
    · exact h
    · exact CQ.after K h _ (K.receive _ _ hn) _
  exact h
theorem CQ.play : ∀ (l : List Evt) {c : Clu}, CQ Q c → CQ Q (c.play l).1
  | [], _, h => h
  | v :: r, _, h => CQ.play r (CQ.doEv K h v)
end
structure SOk (n : Nod) : Prop where
  s0 : 0 ≤ n.st
  s4 : n.st ≤ 4
  dn : n.up = false → n = Nod.fresh n.id false n.t n.dr n.mi
section
variable {n : Nod}
theorem SOk.of (hu : n.up = true) (h0 : 0 ≤ n.st) (h4 : n.st ≤ 4) : SOk n := ⟨h0, h4, fun h => by rw [hu] at h; cases h⟩
theorem sok_fresh (id : Int) (u : Bool) (t : Sto) (dr : List Int) (mi : List Mnt) : SOk (Nod.fresh id u t dr mi) := ⟨Int.le_refl 0, (by show (0 : Int) ≤ 4; decide), fun h => by have h : u = false := h; subst h; rfl⟩
theorem SOk.down (n : Nod) : SOk n.down := sok_fresh _ _ _ _ _
theorem SOk.withT (h : SOk n) (t : Sto) : SOk { n with t := t } := ⟨h.s0, h.s4, fun hu => by have := h.dn hu; rw [this]; rfl⟩
theorem SOk.keep (h : SOk n) (r : Sto × Int) : SOk (n.keep r).1 := by
  unfold Nod.keep
  split
  · exact h.withT _
  · exact SOk.down _
theorem SOk.commit (h : SOk n) (b : Sup) : SOk (n.commit b).1 := h.keep _
theorem SOk.wipe (h : SOk n) (i : Int) : SOk (n.wipe i).1 := h.keep _
theorem keep_st {r : Sto × Int} (hk : (n.keep r).2 = true) : (n.keep r).1.st = n.st ∧ (n.keep r).1.up = n.up := by rw [keep_up hk]; exact ⟨rfl, rfl⟩
theorem SOk.lay (h : SOk n) (i : Int) (d : ByteArray) : SOk (n.lay i d).1 := by
  unfold Nod.lay
  dsimp only
  split
  · exact (h.keep _).keep _
  · exact h.keep _
theorem lay_st {i : Int} {d : ByteArray} (hk : (n.lay i d).2 = true) : (n.lay i d).1.st = n.st ∧ (n.lay i d).1.up = n.up := by
  unfold Nod.lay at hk ⊢
  dsimp only at hk ⊢
  split at hk
  · next h =>
    rw [if_pos h]
    exact ⟨(keep_st hk).1.trans (keep_st h).1, (keep_st hk).2.trans (keep_st h).2⟩
  · cases hk
theorem SOk.made {m m2 : Nod} (h : SOk n) (hu : n.up = true) (hs : m.st = n.st ∧ m.up = n.up) (e1 : m2.st = m.st := by rfl) (e2 : m2.up = m.up := by rfl) : SOk m2 := SOk.of (by rw [e2, hs.2]; exact hu) (by rw [e1, hs.1]; exact h.s0) (by rw [e1, hs.1]; exact h.s4)
theorem SOk.mints (h : SOk n) (hu : n.up = true) : SOk n.mints.1 := by
  unfold Nod.mints
  split
  · exact h
  · dsimp only
    split
    · exact SOk.of hu h.s0 h.s4
    · next g r e hg =>
      have h2 : SOk { n with dr := r, mi := n.mi ++ [⟨g, n.t.b.c, n.id⟩] } := SOk.of hu h.s0 h.s4
      split
      · next hk => exact h2.made hu (keep_st hk)
      · exact h2.commit _
theorem mints_ok (hk : n.mints.2 = 0) : n.mints.1.st = n.st ∧ n.mints.1.up = n.up := by
  unfold Nod.mints at hk ⊢
  split at hk
  · cases hk
  · dsimp only at hk ⊢
    split at hk
    · cases hk
    · next hg =>
      rw [if_neg hg]
      split at hk
      · next h =>
        rw [if_pos h]
        exact keep_st h
      · cases hk
theorem SOk.promote (h : SOk n) (id : Int) : SOk (n.promote id).1 := by
  unfold Nod.promote
  by_cases hu : n.up = false
  · rw [if_pos hu]; exact h
  rw [if_neg hu]
  replace hu : n.up = true := by simpa using hu
  dsimp only
  repeat' split
  all_goals first
    | exact h
    | exact SOk.of hu h.s0 h.s4
    | (next hk => exact h.made hu (keep_st hk))
    | exact h.commit _
theorem SOk.demote (h : SOk n) (id : Int) : SOk (n.demote id).1 := by
  unfold Nod.demote
  by_cases hu : n.up = false
  · rw [if_pos hu]; exact h
  rw [if_neg hu]
  replace hu : n.up = true := by simpa using hu
  dsimp only
  repeat' split
  all_goals first
    | exact h
    | (next hk => exact h.made hu (keep_st hk))
    | (next hk _ => exact h.made hu (keep_st hk))
    | exact h.commit _
theorem SOk.discard (h : SOk n) (id : Int) : SOk (n.discard id).1 := by
  unfold Nod.discard
  dsimp only
  repeat' split
  all_goals first
    | exact h
    | exact h.commit _
theorem SOk.read (h : SOk n) (id i : Int) : SOk (n.read id i).1 := by
  unfold Nod.read
  repeat' split
  all_goals exact h
theorem SOk.laid (h : SOk n) (hu : n.up = true) (id i : Int) (d : ByteArray) : SOk (n.laid id i d).1 := by
  unfold Nod.laid
  dsimp only
  split
  · next hk =>
    split
    · exact h.lay i d
    · exact h.made hu (lay_st hk)
  · exact h.lay i d
theorem SOk.write (h : SOk n) (id i : Int) (d : ByteArray) : SOk (n.write id i d).1 := by
  unfold Nod.write
  split
  · next hb =>
    have hu : n.up = true := by
      cases e : n.up with
      | true => rfl
      | false => unfold Nod.badW at hb; rw [if_pos e] at hb; cases hb
    split
    · split
      · exact h.mints hu
      split
      · next h6 h0 =>
        have hm := h.mints hu
        exact hm.laid ((mints_ok h0).2.trans hu) id i d
      · exact h.mints hu
    · exact h.laid hu id i d
  · exact h
theorem SOk.lose (h : SOk n) (hu : n.up = true) : SOk n.lose.1 := by
  unfold Nod.lose
  split
  · exact h
  · dsimp only
    have hk : SOk ⟨n.id, n.up, n.t, n.pri, 0, 0, Hel.zero, false, Req.zero, false, 0, 0, false, n.dr, n.mi⟩ := SOk.of hu (Int.le_refl 0) (by show (0 : Int) ≤ 4; decide)
    split
    · exact hk.mints hu
    · exact hk
theorem SOk.seek (h : SOk n) (hu : n.up = true) : SOk n.seek.1 := by
  unfold Nod.seek
  split
  · exact h
  · split
    · exact SOk.of hu h.s0 h.s4
    · exact h.commit _
theorem SOk.got (h : SOk n) (hu : n.up = true) (i : Int) (d : ByteArray) : SOk (n.got i d).1 := by
  unfold Nod.got
  split
  · dsimp only
    split
    · next h1 =>
      split
      · next h2 =>
        have hs := keep_st h1
        have hs2 := keep_st h2
        exact SOk.seek (h.made hu ⟨hs2.1.trans hs.1, hs2.2.trans hs.2⟩) (hs2.2.trans (hs.2.trans hu))
      · exact (h.keep _).wipe _
    · exact h.keep _
  · exact h
theorem SOk.met (h : SOk n) (hu : n.up = true) (x : Hel) : SOk (n.met x).1 := by
  unfold Nod.met
  split
  · exact h
  split
  · dsimp only
    split
    · next hk => exact SOk.of ((keep_st hk).2.trans hu) (by show (0 : Int) ≤ 2; decide) (by show (2 : Int) ≤ 4; decide)
    · exact h.commit _
  · dsimp only
    split
    · next hk =>
      have hs := keep_st hk
      split
      · exact SOk.of (hs.2.trans hu) (by show (0 : Int) ≤ 3; decide) (by show (3 : Int) ≤ 4; decide)
      · split
        · next hk2 =>
          have hu2 := (keep_st hk2).2.trans (hs.2.trans hu)
          exact SOk.seek (SOk.of hu2 (by show (0 : Int) ≤ 4; decide) (by show (4 : Int) ≤ 4; decide)) hu2
        · exact (h.keep _).commit _
    · exact h.keep _
theorem SOk.roles (h : SOk n) (hu : n.up = true) (k : Int) : SOk (n.roles k).1 := by
  unfold Nod.roles
  dsimp only
  repeat' split
  all_goals first
    | exact h
    | exact SOk.of hu h.s0 h.s4
    | (next hk => exact h.made hu (keep_st hk))
    | exact h.commit _
theorem SOk.takes (h : SOk n) (hu : n.up = true) (p : Pkt) : SOk (n.takes p).1 := by
  unfold Nod.takes
  split
  · exact h.met hu _
  split
  · exact h.lay _ _
  split
  · unfold Nod.acked
    split
    · exact SOk.wipe (n := { n with rq := Req.zero }) (SOk.of hu h.s0 h.s4) _
    · exact h
  split
  · exact h.wipe _
  split
  · exact h
  split
  · exact h.got hu _ _
  split
  · unfold Nod.copied
    split
    · exact h
    · exact h.wipe _
  split
  · unfold Nod.ended
    dsimp only
    split
    · next hk => exact SOk.of ((keep_st hk).2.trans hu) (by show (0 : Int) ≤ 2; decide) (by show (2 : Int) ≤ 4; decide)
    · exact h.commit _
  split
  · exact SOk.of hu (by show (0 : Int) ≤ 2; decide) (by show (2 : Int) ≤ 4; decide)
  · exact h.roles hu _
theorem SOk.receive (h : SOk n) (b : ByteArray) : SOk (n.receive b).1 := by
  unfold Nod.receive
  split
  · exact h
  next hc =>
  have hu : n.up = true := by
    cases e : n.up with
    | true => rfl
    | false => exact absurd (.inl e) hc
  split
  · exact h
  split
  · exact h
  · exact h.takes hu _
theorem SOk.attach (h : SOk n) (l : List Bool) : SOk (n.attach l).1 := by
  unfold Nod.attach
  split
  · exact h
  split
  · exact SOk.of rfl (Int.le_refl 0) (by show (0 : Int) ≤ 4; decide)
  · exact h.withT _
theorem sok_new (N : Nat) : CQ SOk (newC N) := ⟨SOk.of rfl (Int.le_refl 0) (by show (0 : Int) ≤ 4; decide), SOk.of rfl (Int.le_refl 0) (by show (0 : Int) ≤ 4; decide)⟩
end
end Go.Proofs.YtkjikigimmchlaaGreatDoor
namespace Go.Proofs.YtkjikigimmchlaaGreatDoor
open Go.RowKit PX
set_option maxRecDepth 100000
section
variable {b : Nat} {wB w : World} {n : Nod} {l : List Ou} {a : Adr} {v : Value} {N q : Nat}
theorem wt_w : WT 144 := by unfold WT; simp
theorem wunwait (hx : BoxO w b 144 (wkC n a v)) (hk : WK wB n a v l w) : Calls Tryz.prog 76 #[.pointer (some ⟨b, 0, none⟩)] w (GivesW 144 b wB v ({ n with rq := Req.zero }, l) (.int .i64 n.rq.id) w) :=
  runW (args := []) (by kernel_rfl) st_wk hx hk (e_w a v (fun u hu => ⟨hu.1.like, hu.2⟩) (From.refl _ _))
theorem wlay (h : NOk N q n) (hq : q ≤ 890) (hu : n.up = true) (i : Int) (d : ByteArray) {y : Bool} (hy : (n.lay i d).2 = y) (hx : BoxO w b 144 (wkC n a v)) (hk : WK wB n a v l w) : Calls Tryz.prog 74 #[.pointer (some ⟨b, 0, none⟩), .int .i64 i, .string d] w (GivesW 144 b wB v ((n.lay i d).1, l) (.bool y) w) := by
  subst hy
  have hm := h.keep (goes_mark (h.live hu) i)
  refine runW (args := [.int .i64 i, .string d]) (by kernel_rfl) st_wk hx hk ?_
  unfold Nod.lay
  dsimp only
  cases hk1 : (n.keep (n.t.mark i)).2 with
  | true =>
    rw [if_pos rfl]
    have hu2 : (n.keep (n.t.mark i)).1.up = true := by rw [keep_up hk1]; exact hu
    refine t_w 144 a n ((n.keep (n.t.mark i)).1, l) (From.refl _ _) (fun u hu => hu.2) (fun u b hu' _ hx => wmark wt_w (h.fit (by omega)) (h.m32 hu) i hk1 hx hu') fun a' A c ho => t_lit 9 ?_
    generalize (n.keep (n.t.mark i)).1 = m at *
    cases hk2 : (m.keep (m.t.put i d)).2 with
    | true =>
      exact t_w 144 a' m ((m.keep (m.t.put i d)).1, l) ho (fun u hu => hu.2) (fun u b hu' _ hx => wput wt_w (hm.fit (by omega)) i d hk2 hx hu') fun a2 A2 c2 ho2 => t_lit 9 (e_w a2 _ (fun u hu => hu) ho2)
    | false =>
      exact t_w 144 a' m ((m.keep (m.t.put i d)).1, l) ho (fun u hu => hu.2) (fun u b hu' _ hx => wput wt_w (hm.fit (by omega)) i d hk2 hx hu') fun a2 A2 c2 ho2 => t_lit 9 (e_w a2 _ (fun u hu => hu) ho2)
  | false =>
    rw [if_neg (by decide)]
    exact t_w 144 a n ((n.keep (n.t.mark i)).1, l) (From.refl _ _) (fun u hu => hu.2) (fun u b hu' _ hx => wmark wt_w (h.fit (by omega)) (h.m32 hu) i hk1 hx hu') fun a' A c ho => t_lit 9 (e_w a' _ (fun u hu => hu) ho)
theorem wapply (h : NOk N q n) (hq : q ≤ 880) (hu : n.up = true) (i : Int) (d : ByteArray) (hn : NM w n a) : Calls Tryz.prog 38 #[nodV n a, .int .i64 i, .string d] w (GivesN (n.apply i d) w) := by
  refine run (st_nm n a) hn (t_v (fun u _ => wof n a u) ?_)
  unfold Nod.apply
  dsimp only
  have hs := (h.lay hu i d).ses
  cases hy : (n.lay i d).2 with
  | true =>
    rw [if_pos rfl]
    refine t_at (l := []) 144 n a ((n.lay i d).1, []) (.bool true) (From.refl _ _) (fun u hu => ⟨hu, rw_nil w u⟩) (fun u b _ hu' hx => wlay h (by omega) hu i d hy hx hu') fun a1 A1 c1 ho1 => t_lit 9 ?_
    refine t_at (l := []) 144 (n.lay i d).1 a1 ((n.lay i d).1, [] ++ [(n.lay i d).1.send (pkI 3 i)]) (.tuple #[]) ho1 (fun u hu => hu) (fun u b hz hu' hx => wsend (l := []) wt_w hz (by simp) (pkI 3 i) hs Hel.zero_wide hx hu') fun a2 A2 c2 ho2 => ?_
    exact e_nr a2 _ fun u hu => hu
  | false =>
    rw [if_neg (by decide)]
    exact t_at (l := []) 144 n a ((n.lay i d).1, []) (.bool false) (From.refl _ _) (fun u hu => ⟨hu, rw_nil w u⟩) (fun u b _ hu' hx => wlay h (by omega) hu i d hy hx hu') fun a1 A1 c1 ho1 => t_lit 9 (e_nr (r := ((n.lay i d).1, [])) a1 _ fun u hu => hu)
theorem wacked (h : NOk N q n) (hq : q ≤ 880) (hu : n.up = true) (i : Int) (hn : NM w n a) : Calls Tryz.prog 39 #[nodV n a, .int .i64 i] w (GivesN (n.acked i) w) := by
  refine run (st_nm n a) hn (t_v (fun u _ => wof n a u) ?_)
  unfold Nod.acked
  by_cases h0 : n.rq.on = true
  rotate_left
  · rw [if_neg (fun h => h0 h.1)]
    exact t_N (b := !(!n.rq.on)) 30 (by simpa using h0) (e_n0 a fun u hu => hu)
  refine t_Y (b := !(!n.rq.on)) 6 (by simpa using h0) ?_
  by_cases h1 : n.rq.i = i
  rotate_left
  · rw [if_neg (fun h => h1 h.2)]
    exact t_Y (b := !(n.rq.i == i)) 9 (by simpa using h1) (e_n0 a fun u hu => hu)
  rw [if_pos ⟨h0, h1⟩]
  dsimp only
  refine t_N (b := !(n.rq.i == i)) 0 (by simpa using h1) ?_
  refine t_at (l := []) 144 n a ({ n with rq := Req.zero }, []) (.int .i64 n.rq.id) (From.refl _ _) (fun u hu => ⟨hu, rw_nil w u⟩) (fun u b _ hu' hx => wunwait hx hu') fun a1 A1 c1 ho1 => ?_
  refine t_at (l := []) 144 { n with rq := Req.zero } a1 ({ n with rq := Req.zero }, [] ++ [n.reply n.rq.id 0 e1]) (.tuple #[]) ho1 (fun u hu => hu) (fun u b hz hu' hx => wreply (l := []) wt_w hz (by simp) n.rq.id 0 e1 hx hu') fun a2 A2 c2 ho2 => ?_
  have h9 : NOk N q { n with rq := Req.zero } := h.as rfl rfl h.ses h.peer rfl rfl
  have hw := h9.wipe hu i
  cases hy : (Nod.wipe { n with rq := Req.zero } i).2 with
  | true =>
    rw [if_pos rfl]
    refine t_at (l := [n.reply n.rq.id 0 e1]) 144 { n with rq := Req.zero } a2 ((Nod.wipe { n with rq := Req.zero } i).1, [n.reply n.rq.id 0 e1]) (.bool true) ho2 (fun u hu => hu) (fun u b _ hu' hx => wwipe wt_w (h9.fit (by omega)) (h9.m32 hu) i hy hx hu') fun a3 A3 c3 ho3 => t_lit 9 ?_
    refine t_at (l := [n.reply n.rq.id 0 e1]) 144 (Nod.wipe { n with rq := Req.zero } i).1 a3 ((Nod.wipe { n with rq := Req.zero } i).1, [n.reply n.rq.id 0 e1] ++ [(Nod.wipe { n with rq := Req.zero } i).1.send (pkI 4 i)]) (.tuple #[]) ho3 (fun u hu => hu) (fun u b hz hu' hx => wsend (l := [n.reply n.rq.id 0 e1]) wt_w hz (by simp) (pkI 4 i) hw.ses Hel.zero_wide hx hu') fun a4 A4 c4 ho4 => ?_
    exact e_nr a4 _ fun u hu => hu
  | false =>
    rw [if_neg (by decide)]
    exact t_at (l := [n.reply n.rq.id 0 e1]) 144 { n with rq := Req.zero } a2 ((Nod.wipe { n with rq := Req.zero } i).1, [n.reply n.rq.id 0 e1]) (.bool false) ho2 (fun u hu => hu) (fun u b _ hu' hx => wwipe wt_w (h9.fit (by omega)) (h9.m32 hu) i hy hx hu') fun a3 A3 c3 ho3 => t_lit 9 (e_nr (r := ((Nod.wipe { n with rq := Req.zero } i).1, [n.reply n.rq.id 0 e1])) a3 _ fun u hu => hu)
end
end Go.Proofs.YtkjikigimmchlaaGreatDoor
