/- Clusters plainly: a property of each node that each call of the document's keeps holds behind any events; without a session both are alone. No program in it. -/
import Derived.Test.YtabenngcmpjlhaaGreatDoorX3
namespace Go.Proofs.YtabenngcmpjlhaaGreatDoor
open Go.RowKit
structure Keeps (Q : Nod → Prop) : Prop where
  promote : ∀ n id, Q n → Q (n.promote id).1
  demote : ∀ n id, Q n → Q (n.demote id).1
  discard : ∀ n id, Q n → Q (n.discard id).1
  read : ∀ n id i, Q n → Q (n.read id i).1
  write : ∀ n id i d, Q n → Q (n.write id i d).1
  lose : ∀ n, Q n → n.up = true → Q n.lose.1
  begins : ∀ n s, Q n → n.up = true → Q (n.begins s).1
  receive : ∀ n b, Q n → Q (n.receive b).1
  down : ∀ n, Q n → Q n.down
  attach : ∀ n l, Q n → Q (n.attach l).1
  fuse : ∀ n f, Q n → Q { n with t := { n.t with f := f } }
  draw : ∀ n g, Q n → Q { n with dr := n.dr ++ [g] }
section
variable {Q : Nod → Prop} (K : Keeps Q) {c : Clu}
def CQ (Q : Nod → Prop) (c : Clu) : Prop := Q c.a ∧ Q c.b
theorem CQ.nd (h : CQ Q c) (i : Int) : Q (c.nd i) := by
  unfold Clu.nd
  split
  · exact h.1
  · exact h.2
theorem CQ.setN (h : CQ Q c) (i : Int) {n : Nod} (hn : Q n) : CQ Q (c.setN i n) := by
  unfold Clu.setN
  split
  · exact ⟨hn, h.2⟩
  · exact ⟨h.1, hn⟩
theorem CQ.setW (h : CQ Q c) (i : Int) (x : Bool) : CQ Q (c.setW i x) := by
  unfold Clu.setW
  split <;> exact h
include K
theorem CQ.loses (h : CQ Q c) (i : Int) (out : List Ou) : CQ Q (c.loses i out).1 := by
  unfold Clu.loses
  split
  · exact h
  · next hu =>
    have hl := K.lose _ (h.nd i) (by simpa using hu)
    dsimp only
    split
    · exact h.setN i hl
    · exact (h.setN i hl).setW i false
theorem CQ.ends (h : CQ Q c) (out : List Ou) : CQ Q (c.ends out).1 := by
  unfold Clu.ends
  exact CQ.loses K (CQ.loses K (c := { c with l := c.l.closed }) h 0 out) 1 _
theorem CQ.closes (l : List Ou) (u : Bool) (c2 : Clu) (h2 : CQ Q c2) : CQ Q (if c2.l.u = false ∨ (u = true ∧ closesL l = false) then (c2, saysL l) else Clu.ends (if closesL l = true then { c2 with wa := false, wb := false } else c2) (saysL l)).1 := by
  split
  · exact h2
  · refine CQ.ends K ?_ _
    split
    · exact ⟨h2.1, h2.2⟩
    · exact h2
theorem CQ.after (h : CQ Q c) (i : Int) {n : Nod} (hn : Q n) (l : List Ou) : CQ Q (c.after i n l).1 := by
  have h1 : CQ Q { c.setN i n with l := sendsL c.l (1 - i) l } := h.setN i hn
  have h2 : CQ Q (if n.up = true then { c.setN i n with l := sendsL c.l (1 - i) l } else Clu.setW { c.setN i n with l := sendsL c.l (1 - i) l } i false) := by
    split
    · exact h1
    · exact h1.setW i false
  exact CQ.closes K l n.up _ h2
omit K in
theorem after_begins (c : Clu) (i s : Int) {n : Nod} (hu : n.up = true) : ∃ l, (c.after i (n.begins s).1 (n.begins s).2).1 = { c.setN i (n.begins s).1 with l := l } := by
  unfold Clu.after
  dsimp only
  rw [if_pos (show (n.begins s).1.up = true from hu), if_pos (.inr ⟨hu, rfl⟩)]
  exact ⟨_, rfl⟩
theorem CQ.connect (h : CQ Q c) {i : Int} (hi : i = 0 ∨ i = 1) : CQ Q (c.connect i).1 := by
  unfold Clu.connect
  split
  · exact h
  · next hu =>
    have hu : (c.nd i).up = true := by simpa using hu
    dsimp only
    split
    · exact h.setW i true
    · next hc =>
      have h1 := h.setW i true
      have hv : ((c.setW i true).nd (1 - i)).up = true := by
        cases e : ((c.setW i true).nd (1 - i)).up with
        | true => rfl
        | false => exact absurd (.inr (.inl e)) hc
      have ab : (c.setW i true).a.up = true ∧ (c.setW i true).b.up = true := by
        rcases hi with rfl | rfl
        · exact ⟨hu, hv⟩
        · exact ⟨hv, hu⟩
      generalize c.setW i true = c1 at *
      obtain ⟨l, e⟩ := after_begins { c1 with l := c1.l.opened } 0 c1.l.opened.s (n := c1.a) ab.1
      have h3 : CQ Q (Clu.after { c1 with l := c1.l.opened } 0 (c1.a.begins c1.l.opened.s).1 (c1.a.begins c1.l.opened.s).2).1 := CQ.after K (c := { c1 with l := c1.l.opened }) h1 0 (K.begins _ _ h1.1 ab.1) _
      refine CQ.after K h3 1 (K.begins _ _ h3.2 ?_) _
      rw [e]
      exact ab.2
theorem CQ.doEv (h : CQ Q c) (v : Evt) : CQ Q (c.doEv v).1 := by
  unfold Clu.doEv
  split
  · exact h
  next hv =>
  have hi : v.n = 0 ∨ v.n = 1 := by omega
  have hn := h.nd v.n
  generalize c.nd v.n = n at *
  unfold Clu.ev1
  split
  · exact CQ.after K h _ (K.promote _ _ hn) _
  split
  · exact CQ.after K h _ (K.demote _ _ hn) _
  split
  · exact CQ.after K h _ (K.discard _ _ hn) _
  split
  · exact CQ.after K h _ (K.read _ _ _ hn) _
  split
  · exact CQ.after K h _ (K.write _ _ _ _ hn) _
  unfold Clu.ev2
  split
  · exact CQ.connect K h hi
  split
  · split
    · exact CQ.ends K (h.setW v.n false) []
    · exact h.setW v.n false
  split
  · split
    · exact CQ.ends K h []
    · exact h
  unfold Clu.ev3
  split
  · split
    · exact CQ.after K (c := { c with l := c.l.taken v.n }) h _ (K.receive _ _ hn) _
    · exact h
  split
  · split
    · exact CQ.after K h _ (K.down _ hn) _
    · exact h
  split
  · exact h.setN v.n (K.attach _ _ hn)
  unfold Clu.ev4
  split
  · refine CQ.after K h _ ?_ _
    split
    · exact K.fuse _ _ hn
    · exact hn
  split
  · refine h.setN v.n ?_
    split
    · exact K.draw _ _ hn
    · exact hn
  split
  · split
    · exact h
    · exact CQ.after K h _ (K.receive _ _ hn) _
  exact h
theorem CQ.play : ∀ (l : List Evt) {c : Clu}, CQ Q c → CQ Q (c.play l).1
  | [], _, h => h
  | v :: r, _, h => CQ.play r (CQ.doEv K h v)
end
structure SOk (n : Nod) : Prop where
  s0 : 0 ≤ n.st
  s4 : n.st ≤ 4
  dn : n.up = false → n = Nod.fresh n.id false n.t n.dr n.mi
section
variable {n : Nod}
theorem SOk.of (hu : n.up = true) (h0 : 0 ≤ n.st) (h4 : n.st ≤ 4) : SOk n := ⟨h0, h4, fun h => by rw [hu] at h; cases h⟩
theorem sok_fresh (id : Int) (u : Bool) (t : Sto) (dr : List Int) (mi : List Mnt) : SOk (Nod.fresh id u t dr mi) := ⟨Int.le_refl 0, (by show (0 : Int) ≤ 4; decide), fun h => by have h : u = false := h; subst h; rfl⟩
theorem SOk.down (n : Nod) : SOk n.down := sok_fresh _ _ _ _ _
theorem SOk.withT (h : SOk n) (t : Sto) : SOk { n with t := t } := ⟨h.s0, h.s4, fun hu => by have := h.dn hu; rw [this]; rfl⟩
theorem SOk.keep (h : SOk n) (r : Sto × Int) : SOk (n.keep r).1 := by
  unfold Nod.keep
  split
  · exact h.withT _
  · exact SOk.down _
theorem SOk.commit (h : SOk n) (b : Sup) : SOk (n.commit b).1 := h.keep _
theorem SOk.wipe (h : SOk n) (i : Int) : SOk (n.wipe i).1 := h.keep _
theorem keep_st {r : Sto × Int} (hk : (n.keep r).2 = true) : (n.keep r).1.st = n.st ∧ (n.keep r).1.up = n.up := by rw [keep_up hk]; exact ⟨rfl, rfl⟩
theorem SOk.lay (h : SOk n) (i : Int) (d : ByteArray) : SOk (n.lay i d).1 := by
  unfold Nod.lay
  dsimp only
  split
  · exact (h.keep _).keep _
  · exact h.keep _
theorem lay_st {i : Int} {d : ByteArray} (hk : (n.lay i d).2 = true) : (n.lay i d).1.st = n.st ∧ (n.lay i d).1.up = n.up := by
  unfold Nod.lay at hk ⊢
  dsimp only at hk ⊢
  split at hk
  · next h =>
    rw [if_pos h]
    exact ⟨(keep_st hk).1.trans (keep_st h).1, (keep_st hk).2.trans (keep_st h).2⟩
  · cases hk
theorem SOk.made {m m2 : Nod} (h : SOk n) (hu : n.up = true) (hs : m.st = n.st ∧ m.up = n.up) (e1 : m2.st = m.st := by rfl) (e2 : m2.up = m.up := by rfl) : SOk m2 := SOk.of (by rw [e2, hs.2]; exact hu) (by rw [e1, hs.1]; exact h.s0) (by rw [e1, hs.1]; exact h.s4)
theorem SOk.mints (h : SOk n) (hu : n.up = true) : SOk n.mints.1 := by
  unfold Nod.mints
  split
  · exact h
  · dsimp only
    split
    · exact SOk.of hu h.s0 h.s4
    · next g r e hg =>
      have h2 : SOk { n with dr := r, mi := n.mi ++ [⟨g, n.t.b.c, n.id⟩] } := SOk.of hu h.s0 h.s4
      split
      · next hk => exact h2.made hu (keep_st hk)
      · exact h2.commit _
theorem mints_ok (hk : n.mints.2 = 0) : n.mints.1.st = n.st ∧ n.mints.1.up = n.up := by
  unfold Nod.mints at hk ⊢
  split at hk
  · cases hk
  · dsimp only at hk ⊢
    split at hk
    · cases hk
    · next hg =>
      rw [if_neg hg]
      split at hk
      · next h =>
        rw [if_pos h]
        exact keep_st h
      · cases hk
theorem SOk.promote (h : SOk n) (id : Int) : SOk (n.promote id).1 := by
  unfold Nod.promote
  by_cases hu : n.up = false
  · rw [if_pos hu]; exact h
  rw [if_neg hu]
  replace hu : n.up = true := by simpa using hu
  dsimp only
  repeat' split
  all_goals first
    | exact h
    | exact SOk.of hu h.s0 h.s4
    | (next hk => exact h.made hu (keep_st hk))
    | exact h.commit _
theorem SOk.demote (h : SOk n) (id : Int) : SOk (n.demote id).1 := by
  unfold Nod.demote
  by_cases hu : n.up = false
  · rw [if_pos hu]; exact h
  rw [if_neg hu]
  replace hu : n.up = true := by simpa using hu
  dsimp only
  repeat' split
  all_goals first
    | exact h
    | (next hk => exact h.made hu (keep_st hk))
    | (next hk _ => exact h.made hu (keep_st hk))
    | exact h.commit _
theorem SOk.discard (h : SOk n) (id : Int) : SOk (n.discard id).1 := by
  unfold Nod.discard
  dsimp only
  repeat' split
  all_goals first
    | exact h
    | exact h.commit _
theorem SOk.read (h : SOk n) (id i : Int) : SOk (n.read id i).1 := by
  unfold Nod.read
  repeat' split
  all_goals exact h
theorem SOk.laid (h : SOk n) (hu : n.up = true) (id i : Int) (d : ByteArray) : SOk (n.laid id i d).1 := by
  unfold Nod.laid
  dsimp only
  split
  · next hk =>
    split
    · exact h.lay i d
    · exact h.made hu (lay_st hk)
  · exact h.lay i d
theorem SOk.write (h : SOk n) (id i : Int) (d : ByteArray) : SOk (n.write id i d).1 := by
  unfold Nod.write
  split
  · next hb =>
    have hu : n.up = true := by
      cases e : n.up with
      | true => rfl
      | false => unfold Nod.badW at hb; rw [if_pos e] at hb; cases hb
    split
    · split
      · exact h.mints hu
      split
      · next h6 h0 =>
        have hm := h.mints hu
        exact hm.laid ((mints_ok h0).2.trans hu) id i d
      · exact h.mints hu
    · exact h.laid hu id i d
  · exact h
theorem SOk.lose (h : SOk n) (hu : n.up = true) : SOk n.lose.1 := by
  unfold Nod.lose
  split
  · exact h
  · dsimp only
    have hk : SOk ⟨n.id, n.up, n.t, n.pri, 0, 0, Hel.zero, false, Req.zero, false, 0, 0, false, n.dr, n.mi⟩ := SOk.of hu (Int.le_refl 0) (by show (0 : Int) ≤ 4; decide)
    split
    · exact hk.mints hu
    · exact hk
theorem SOk.seek (h : SOk n) (hu : n.up = true) : SOk n.seek.1 := by
  unfold Nod.seek
  split
  · exact h
  · split
    · exact SOk.of hu h.s0 h.s4
    · exact h.commit _
theorem SOk.got (h : SOk n) (hu : n.up = true) (i : Int) (d : ByteArray) : SOk (n.got i d).1 := by
  unfold Nod.got
  split
  · dsimp only
    split
    · next h1 =>
      split
      · next h2 =>
        have hs := keep_st h1
        have hs2 := keep_st h2
        exact SOk.seek (h.made hu ⟨hs2.1.trans hs.1, hs2.2.trans hs.2⟩) (hs2.2.trans (hs.2.trans hu))
      · exact (h.keep _).wipe _
    · exact h.keep _
  · exact h
theorem SOk.met (h : SOk n) (hu : n.up = true) (x : Hel) : SOk (n.met x).1 := by
  unfold Nod.met
  split
  · exact h
  split
  · dsimp only
    split
    · next hk => exact SOk.of ((keep_st hk).2.trans hu) (by show (0 : Int) ≤ 2; decide) (by show (2 : Int) ≤ 4; decide)
    · exact h.commit _
  · dsimp only
    split
    · next hk =>
      have hs := keep_st hk
      split
      · exact SOk.of (hs.2.trans hu) (by show (0 : Int) ≤ 3; decide) (by show (3 : Int) ≤ 4; decide)
      · split
        · next hk2 =>
          have hu2 := (keep_st hk2).2.trans (hs.2.trans hu)
          exact SOk.seek (SOk.of hu2 (by show (0 : Int) ≤ 4; decide) (by show (4 : Int) ≤ 4; decide)) hu2
        · exact (h.keep _).commit _
    · exact h.keep _
theorem SOk.roles (h : SOk n) (hu : n.up = true) (k : Int) : SOk (n.roles k).1 := by
  unfold Nod.roles
  dsimp only
  repeat' split
  all_goals first
    | exact h
    | exact SOk.of hu h.s0 h.s4
    | (next hk => exact h.made hu (keep_st hk))
    | exact h.commit _
theorem SOk.takes (h : SOk n) (hu : n.up = true) (p : Pkt) : SOk (n.takes p).1 := by
  unfold Nod.takes
  split
  · exact h.met hu _
  split
  · exact h.lay _ _
  split
  · unfold Nod.acked
    split
    · exact SOk.wipe (n := { n with rq := Req.zero }) (SOk.of hu h.s0 h.s4) _
    · exact h
  split
  · exact h.wipe _
  split
  · exact h
  split
  · exact h.got hu _ _
  split
  · unfold Nod.copied
    split
    · exact h
    · exact h.wipe _
  split
  · unfold Nod.ended
    dsimp only
    split
    · next hk => exact SOk.of ((keep_st hk).2.trans hu) (by show (0 : Int) ≤ 2; decide) (by show (2 : Int) ≤ 4; decide)
    · exact h.commit _
  split
  · exact SOk.of hu (by show (0 : Int) ≤ 2; decide) (by show (2 : Int) ≤ 4; decide)
  · exact h.roles hu _
theorem SOk.receive (h : SOk n) (b : ByteArray) : SOk (n.receive b).1 := by
  unfold Nod.receive
  split
  · exact h
  next hc =>
  have hu : n.up = true := by
    cases e : n.up with
    | true => rfl
    | false => exact absurd (.inl e) hc
  split
  · exact h
  split
  · exact h
  · exact h.takes hu _
theorem SOk.attach (h : SOk n) (l : List Bool) : SOk (n.attach l).1 := by
  unfold Nod.attach
  split
  · exact h
  split
  · exact SOk.of rfl (Int.le_refl 0) (by show (0 : Int) ≤ 4; decide)
  · exact h.withT _
theorem sok_new (N : Nat) : CQ SOk (newC N) := ⟨SOk.of rfl (Int.le_refl 0) (by show (0 : Int) ≤ 4; decide), SOk.of rfl (Int.le_refl 0) (by show (0 : Int) ≤ 4; decide)⟩
end
end Go.Proofs.YtabenngcmpjlhaaGreatDoor
namespace Go.Proofs.YtabenngcmpjlhaaGreatDoor
open Go.RowKit
def Ok (N : Nat) (n : Nod) : Prop := (∃ q, NOk N q n) ∧ SOk n
structure KeepsN (N : Nat) (P : Nod → Prop) : Prop where
  promote : ∀ n id, Ok N n → P n → P (n.promote id).1
  demote : ∀ n id, Ok N n → P n → P (n.demote id).1
  discard : ∀ n id, Ok N n → P n → P (n.discard id).1
  write : ∀ n id i d, Ok N n → P n → P (n.write id i d).1
  lose : ∀ n, Ok N n → P n → n.up = true → P n.lose.1
  begins : ∀ n s, Ok N n → P n → n.up = true → n.st = 0 → B64 s → P (n.begins s).1
  receive : ∀ n b, Ok N n → P n → P (n.receive b).1
  down : ∀ n, Ok N n → P n → P n.down
  attach : ∀ n l, Ok N n → P n → P (n.attach l).1
  fuse : ∀ n f, Ok N n → P n → n.up = true → 0 ≤ f → f ≤ 1000 → P { n with t := { n.t with f := f } }
  draw : ∀ n g, Ok N n → P n → B64 g → n.dr.length < 1000 → P { n with dr := n.dr ++ [g] }
section
variable {N : Nat} {n : Nod}
theorem Ok.promote (h : Ok N n) (id : Int) : Ok N (n.promote id).1 := ⟨⟨_, h.1.choose_spec.promote id⟩, h.2.promote id⟩
theorem Ok.demote (h : Ok N n) (id : Int) : Ok N (n.demote id).1 := ⟨⟨_, h.1.choose_spec.demote id⟩, h.2.demote id⟩
theorem Ok.discard (h : Ok N n) (id : Int) : Ok N (n.discard id).1 := ⟨⟨_, h.1.choose_spec.discard id⟩, h.2.discard id⟩
theorem Ok.write (h : Ok N n) (id i : Int) (d : ByteArray) : Ok N (n.write id i d).1 := ⟨⟨_, h.1.choose_spec.write id i d⟩, h.2.write id i d⟩
theorem Ok.lose (h : Ok N n) (hu : n.up = true) : Ok N n.lose.1 := ⟨⟨_, h.1.choose_spec.lose hu⟩, h.2.lose hu⟩
theorem Ok.begins (h : Ok N n) (hu : n.up = true) {s : Int} (hs : B64 s) : Ok N (n.begins s).1 := ⟨⟨_, h.1.choose_spec.begins hs⟩, SOk.of hu (by show (0 : Int) ≤ 1; decide) (by show (1 : Int) ≤ 4; decide)⟩
theorem Ok.receive (h : Ok N n) (b : ByteArray) : Ok N (n.receive b).1 := ⟨⟨_, h.1.choose_spec.receive b (read_wide _ _)⟩, h.2.receive b⟩
theorem Ok.down (h : Ok N n) : Ok N n.down := ⟨⟨_, h.1.choose_spec.down⟩, SOk.down n⟩
theorem Ok.attach (h : Ok N n) (l : List Bool) : Ok N (n.attach l).1 := ⟨⟨_, h.1.choose_spec.attach l⟩, h.2.attach l⟩
theorem Ok.fuse (h : Ok N n) {f : Int} (h0 : 0 ≤ f) (h1 : f ≤ 1000) : Ok N { n with t := { n.t with f := f } } := by
  obtain ⟨⟨q, hn⟩, hs⟩ := h
  exact ⟨⟨q, hn.fine, hn.len, h0, h1, fun hu => whole_arm (hn.live hu) h0, hn.ses, hn.peer, hn.dr, hn.mi, hn.dl, hn.ml⟩, hs.withT _⟩
theorem Ok.draw (h : Ok N n) {g : Int} (hg : B64 g) (hl : n.dr.length < 1000) : Ok N { n with dr := n.dr ++ [g] } := by
  obtain ⟨⟨q, hn⟩, hs⟩ := h
  refine ⟨⟨q, hn.fine, hn.len, hn.f0, hn.f1, hn.live, hn.ses, hn.peer, fun x hx => ?_, hn.mi, by rw [List.length_append]; show n.dr.length + 1 ≤ 1000; omega, hn.ml⟩, hs.s0, hs.s4, fun hu => by have := hs.dn hu; rw [this]; rfl⟩
  rcases List.mem_append.1 hx with hx | hx
  · exact hn.dr x hx
  · rw [List.mem_singleton] at hx
    rw [hx]
    exact hg
theorem SOk.zero (h : SOk n) (hu : n.up = false) : n.st = 0 := by rw [h.dn hu]; rfl
theorem keep_st0 (h : n.st = 0) (r : Sto × Int) : (n.keep r).1.st = 0 := by
  unfold Nod.keep
  split
  · exact h
  · rfl
theorem mints_st0 (h : n.st = 0) : n.mints.1.st = 0 := by
  unfold Nod.mints
  split
  · exact h
  · dsimp only
    split
    · exact h
    · next g r e hg =>
      split
      · exact keep_st0 (n := { n with dr := r, mi := n.mi ++ [⟨g, n.t.b.c, n.id⟩] }) h _
      · exact keep_st0 (n := { n with dr := r, mi := n.mi ++ [⟨g, n.t.b.c, n.id⟩] }) h _
theorem lose_st0 (n : Nod) : n.lose.1.st = 0 := by
  unfold Nod.lose
  split
  · next h => exact h
  · dsimp only
    split
    · exact mints_st0 rfl
    · rfl
theorem lay_st0 (h : n.st = 0) (i : Int) (d : ByteArray) : (n.lay i d).1.st = 0 := by
  unfold Nod.lay
  dsimp only
  split
  · exact keep_st0 (keep_st0 h _) _
  · exact keep_st0 h _
theorem laid_st0 (h : n.st = 0) (id i : Int) (d : ByteArray) : (n.laid id i d).1.st = 0 := by
  unfold Nod.laid
  dsimp only
  split
  · split
    · exact lay_st0 h i d
    · exact lay_st0 h i d
  · exact lay_st0 h i d
theorem write_st0 (h : n.st = 0) (id i : Int) (d : ByteArray) : (n.write id i d).1.st = 0 := by
  unfold Nod.write
  split
  · split
    · split
      · exact mints_st0 h
      split
      · exact laid_st0 (mints_st0 h) id i d
      · exact mints_st0 h
    · exact laid_st0 h id i d
  · exact h
theorem promote_st0 (h : n.st = 0) (id : Int) : (n.promote id).1.st = 0 := by
  unfold Nod.promote
  dsimp only
  repeat' split
  all_goals first
    | exact h
    | exact keep_st0 h _
theorem demote_st0 (h : n.st = 0) (id : Int) : (n.demote id).1.st = 0 := by
  unfold Nod.demote
  dsimp only
  repeat' split
  all_goals first
    | exact h
    | exact keep_st0 h _
theorem discard_st0 (h : n.st = 0) (id : Int) : (n.discard id).1.st = 0 := by
  unfold Nod.discard
  dsimp only
  repeat' split
  all_goals first
    | exact h
    | exact keep_st0 h _
theorem read_same (n : Nod) (id i : Int) : (n.read id i).1 = n := by
  unfold Nod.read
  repeat' split
  all_goals rfl
theorem receive_st0 (h : n.st = 0) (b : ByteArray) : n.receive b = (n, []) := by
  unfold Nod.receive
  rw [if_pos (.inr h)]
theorem attach_st0 (h : n.st = 0) (l : List Bool) : (n.attach l).1.st = 0 := by
  unfold Nod.attach
  split
  · exact h
  split
  · rfl
  · exact h
end
structure CJ (N : Nat) (P : Bool → Nod → Prop) (c : Clu) : Prop where
  a : Ok N c.a
  b : Ok N c.b
  s : B64 c.l.s
  pa : P true c.a
  pb : P false c.b
structure CI (N : Nat) (P : Bool → Nod → Prop) (c : Clu) : Prop extends CJ N P c where
  al : c.l.u = false → c.a.st = 0 ∧ c.b.st = 0
section
variable {N : Nat} {P : Bool → Nod → Prop} {c : Clu}
theorem CJ.nd (h : CJ N P c) (i : Int) : Ok N (c.nd i) ∧ P (decide (i = 0)) (c.nd i) := by
  unfold Clu.nd
  split
  · next e => rw [decide_eq_true e]; exact ⟨h.a, h.pa⟩
  · next e => rw [decide_eq_false e]; exact ⟨h.b, h.pb⟩
theorem CJ.setN (h : CJ N P c) (i : Int) {n : Nod} (hn : Ok N n) (hp : P (decide (i = 0)) n) : CJ N P (c.setN i n) := by
  unfold Clu.setN
  split
  · next e => rw [decide_eq_true e] at hp; exact ⟨hn, h.b, h.s, hp, h.pb⟩
  · next e => rw [decide_eq_false e] at hp; exact ⟨h.a, hn, h.s, h.pa, hp⟩
theorem CJ.setW (h : CJ N P c) (i : Int) (x : Bool) : CJ N P (c.setW i x) := by
  unfold Clu.setW
  split <;> exact ⟨h.a, h.b, h.s, h.pa, h.pb⟩
theorem CI.nd0 (h : CI N P c) (hu : c.l.u = false) (i : Int) : (c.nd i).st = 0 := by
  unfold Clu.nd
  split
  · exact (h.al hu).1
  · exact (h.al hu).2
theorem setW_al {i : Int} {x : Bool} (h : c.a.st = 0 ∧ c.b.st = 0) : (c.setW i x).a.st = 0 ∧ (c.setW i x).b.st = 0 := by
  unfold Clu.setW
  split <;> exact h
theorem setN_al {i : Int} {n : Nod} (h : c.a.st = 0 ∧ c.b.st = 0) (hn : n.st = 0) : (c.setN i n).a.st = 0 ∧ (c.setN i n).b.st = 0 := by
  unfold Clu.setN
  split
  · exact ⟨hn, h.2⟩
  · exact ⟨h.1, hn⟩
theorem CI.setW (h : CI N P c) (i : Int) (x : Bool) : CI N P (c.setW i x) := ⟨h.toCJ.setW i x, fun hu => setW_al (h.al (by rw [setW_l] at hu; exact hu))⟩
theorem CI.setN (h : CI N P c) (i : Int) {n : Nod} (hn : Ok N n) (hp : P (decide (i = 0)) n) (hz : c.l.u = false → n.st = 0) : CI N P (c.setN i n) := ⟨h.toCJ.setN i hn hp, fun hu => by rw [setN_l] at hu; exact setN_al (h.al hu) (hz hu)⟩
theorem loses_one (c : Clu) (i : Int) (out : List Ou) : ((c.loses i out).1.nd i).up = false ∧ (c.loses i out).1.nd i = c.nd i ∨ (c.loses i out).1.nd i = (c.nd i).lose.1 := by
  have h1 : ∀ (d : Clu) (n : Nod), (d.setN i n).nd i = n := fun d n => by unfold Clu.setN Clu.nd; split <;> rfl
  have h2 : ∀ (d : Clu) (x : Bool), (d.setW i x).nd i = d.nd i := fun d x => by by_cases e : i = 0 <;> simp [Clu.setW, Clu.nd, e]
  unfold Clu.loses
  split
  · next hu => exact .inl ⟨hu, rfl⟩
  · dsimp only
    split
    · exact .inr (h1 _ _)
    · exact .inr (by rw [h2, h1])
theorem loses_two (c : Clu) {i j : Int} (hij : (i = 0) ≠ (j = 0)) (out : List Ou) : (c.loses i out).1.nd j = c.nd j := by
  have h1 : ∀ (d : Clu) (n : Nod), (d.setN i n).nd j = d.nd j := fun d n => by
    by_cases e : i = 0 <;> by_cases e2 : j = 0
    · exact absurd (by rw [eq_true e, eq_true e2]) hij
    · simp [Clu.setN, Clu.nd, e, e2]
    · simp [Clu.setN, Clu.nd, e, e2]
    · exact absurd (by rw [eq_false e, eq_false e2]) hij
  have h2 : ∀ (d : Clu) (x : Bool), (d.setW i x).nd j = d.nd j := fun d x => by by_cases e : i = 0 <;> by_cases e2 : j = 0 <;> simp [Clu.setW, Clu.nd, e, e2]
  unfold Clu.loses
  split
  · rfl
  · dsimp only
    split
    · exact h1 _ _
    · rw [h2, h1]
section
variable (K : ∀ x, KeepsN N (P x))
include K
theorem CJ.loses (h : CJ N P c) (i : Int) (out : List Ou) : CJ N P (c.loses i out).1 := by
  unfold Clu.loses
  split
  · exact h
  · next hu =>
    have hu : (c.nd i).up = true := by simpa using hu
    have hn := h.nd i
    have hl := hn.1.lose hu
    have hp := (K _).lose _ hn.1 hn.2 hu
    dsimp only
    split
    · exact h.setN i hl hp
    · exact (h.setN i hl hp).setW i false
theorem CI.ends (h : CJ N P c) (out : List Ou) : CI N P (c.ends out).1 := by
  have h0 : CJ N P { c with l := c.l.closed } := ⟨h.a, h.b, h.s, h.pa, h.pb⟩
  have h1 := CJ.loses K h0 0 out
  have h2 := CJ.loses K h1 1 (Clu.loses { c with l := c.l.closed } 0 out).2
  refine ⟨h2, fun _ => ?_⟩
  have z : ∀ {d : Clu} {i : Int} {out : List Ou}, CJ N P (d.loses i out).1 → ((d.loses i out).1.nd i).st = 0 := fun {d i out} hd => by
    rcases loses_one d i out with ⟨hu, _⟩ | e
    · exact (hd.nd i).1.2.zero hu
    · rw [e]; exact lose_st0 _
  have za := z h1
  have zb := z h2
  refine ⟨?_, zb⟩
  have e := loses_two (Clu.loses { c with l := c.l.closed } 0 out).1 (i := 1) (j := 0) (by simp) (Clu.loses { c with l := c.l.closed } 0 out).2
  have e2 : (c.ends out).1.a = (Clu.loses (Clu.loses { c with l := c.l.closed } 0 out).1 1 (Clu.loses { c with l := c.l.closed } 0 out).2).1.nd 0 := rfl
  rw [e2, e]
  exact za
theorem CI.closes (l : List Ou) (u : Bool) (c2 : Clu) (h2 : CI N P c2) : CI N P (if c2.l.u = false ∨ (u = true ∧ closesL l = false) then (c2, saysL l) else Clu.ends (if closesL l = true then { c2 with wa := false, wb := false } else c2) (saysL l)).1 := by
  split
  · exact h2
  · refine CI.ends K ?_ _
    split
    · exact ⟨h2.a, h2.b, h2.s, h2.pa, h2.pb⟩
    · exact h2.toCJ
omit K in
theorem send_u (l : Lnk) (g : Int) (x : List ByteArray) : (l.send g x).u = l.u := by
  unfold Lnk.send Lnk.on
  repeat' split
  all_goals rfl
omit K in
theorem taken_u (l : Lnk) (g : Int) : (l.taken g).u = l.u := by
  unfold Lnk.taken Lnk.on
  repeat' split
  all_goals rfl
omit K in
theorem sends_u : ∀ (o : List Ou) (l : Lnk) (g : Int), (sendsL l g o).u = l.u
  | [], _, _ => rfl
  | o :: r, l, g => by
    unfold sendsL
    split
    · rw [sends_u r]
      split
      · exact send_u _ _ _
      · rfl
    · exact sends_u r l g
theorem CI.after (h : CI N P c) (i : Int) {n : Nod} (hn : Ok N n) (hp : P (decide (i = 0)) n) (hz : c.l.u = false → n.st = 0) (l : List Ou) : CI N P (c.after i n l).1 := by
  have h0 := h.setN i hn hp hz
  have h1 : CI N P { c.setN i n with l := sendsL c.l (1 - i) l } := ⟨⟨h0.a, h0.b, by rw [sends_s]; exact h.s, h0.pa, h0.pb⟩, fun hu => h0.al (by rw [setN_l]; rw [sends_u] at hu; exact hu)⟩
  have h2 : CI N P (if n.up = true then { c.setN i n with l := sendsL c.l (1 - i) l } else Clu.setW { c.setN i n with l := sendsL c.l (1 - i) l } i false) := by
    split
    · exact h1
    · exact h1.setW i false
  exact CI.closes K l n.up _ h2
theorem CI.connect (h : CI N P c) {i : Int} (hi : i = 0 ∨ i = 1) : CI N P (c.connect i).1 := by
  unfold Clu.connect
  split
  · exact h
  · next hu =>
    have hu : (c.nd i).up = true := by simpa using hu
    dsimp only
    split
    · exact h.setW i true
    · next hc =>
      have h1 := h.setW i true
      have hv : ((c.setW i true).nd (1 - i)).up = true := by
        cases e : ((c.setW i true).nd (1 - i)).up with
        | true => rfl
        | false => exact absurd (.inr (.inl e)) hc
      have hl : (c.setW i true).l.u = false := by
        cases e : (c.setW i true).l.u with
        | false => rfl
        | true => exact absurd (.inr (.inr e)) hc
      have ab : (c.setW i true).a.up = true ∧ (c.setW i true).b.up = true := by
        rcases hi with rfl | rfl
        · exact ⟨hu, hv⟩
        · exact ⟨hv, hu⟩
      generalize c.setW i true = c1 at *
      have hz := h1.al hl
      obtain ⟨l, e⟩ := after_begins { c1 with l := c1.l.opened } 0 c1.l.opened.s (n := c1.a) ab.1
      have hs : B64 c1.l.opened.s := next_b64 _
      have hA : Ok N (c1.a.begins c1.l.opened.s).1 := h1.a.begins ab.1 hs
      have hPA : P true (c1.a.begins c1.l.opened.s).1 := (K _).begins _ _ h1.a h1.pa ab.1 hz.1 hs
      have q : CJ N P { c1 with l := c1.l.opened } := ⟨h1.a, h1.b, hs, h1.pa, h1.pb⟩
      have qi : CI N P { c1 with l := c1.l.opened } := ⟨q, fun hh => by cases hh⟩
      have h4 : CI N P (Clu.after { c1 with l := c1.l.opened } 0 (c1.a.begins c1.l.opened.s).1 (c1.a.begins c1.l.opened.s).2).1 := CI.after K qi 0 hA hPA (fun hh => by cases hh) _
      have e3 : (Clu.after { c1 with l := c1.l.opened } 0 (c1.a.begins c1.l.opened.s).1 (c1.a.begins c1.l.opened.s).2).1.l.u = true := by
        unfold Clu.after
        dsimp only
        rw [if_pos (show (c1.a.begins c1.l.opened.s).1.up = true from ab.1), if_pos (.inr ⟨ab.1, rfl⟩)]
        show (sendsL c1.l.opened (1 - 0) (c1.a.begins c1.l.opened.s).2).u = true
        rw [sends_u]
        rfl
      have hb : (Clu.after { c1 with l := c1.l.opened } 0 (c1.a.begins c1.l.opened.s).1 (c1.a.begins c1.l.opened.s).2).1.b = c1.b := by rw [e]; rfl
      refine CI.after K h4 1 ?_ ?_ (fun hh => by rw [e3] at hh; cases hh) _
      · rw [hb]; exact h1.b.begins ab.2 h4.s
      · rw [hb]; exact (K _).begins _ _ h1.b h1.pb ab.2 hz.2 h4.s
theorem CI.doEv (h : CI N P c) {v : Evt} (hw : v.wide) : CI N P (c.doEv v).1 := by
  unfold Clu.doEv
  split
  · exact h
  next hv =>
  have hi : v.n = 0 ∨ v.n = 1 := by omega
  obtain ⟨hn, hp⟩ := h.nd v.n
  have hz : c.l.u = false → (c.nd v.n).st = 0 := fun hu => h.nd0 hu v.n
  generalize c.nd v.n = n at *
  unfold Clu.ev1
  split
  · exact CI.after K h _ (hn.promote _) ((K _).promote _ _ hn hp) (fun hu => promote_st0 (hz hu) _) _
  split
  · exact CI.after K h _ (hn.demote _) ((K _).demote _ _ hn hp) (fun hu => demote_st0 (hz hu) _) _
  split
  · exact CI.after K h _ (hn.discard _) ((K _).discard _ _ hn hp) (fun hu => discard_st0 (hz hu) _) _
  split
  · refine CI.after K h _ ?_ ?_ ?_ _
    · rw [read_same]; exact hn
    · rw [read_same]; exact hp
    · rw [read_same]; exact hz
  split
  · exact CI.after K h _ (hn.write _ _ _) ((K _).write _ _ _ _ hn hp) (fun hu => write_st0 (hz hu) _ _ _) _
  unfold Clu.ev2
  split
  · exact CI.connect K h hi
  split
  · split
    · exact CI.ends K (h.setW v.n false).toCJ []
    · exact h.setW v.n false
  split
  · split
    · exact CI.ends K h.toCJ []
    · exact h
  unfold Clu.ev3
  split
  · split
    · have h3 : CI N P { c with l := c.l.taken v.n } := ⟨⟨h.a, h.b, by rw [taken_s]; exact h.s, h.pa, h.pb⟩, fun hu => h.al (by rw [taken_u] at hu; exact hu)⟩
      exact CI.after K h3 _ (hn.receive _) ((K _).receive _ _ hn hp) (fun hu => by rw [receive_st0 (hz (by rw [taken_u] at hu; exact hu))]; exact hz (by rw [taken_u] at hu; exact hu)) _
    · exact h
  split
  · split
    · exact CI.after K h _ hn.down ((K _).down _ hn hp) (fun _ => rfl) _
    · exact h
  split
  · exact h.setN v.n (hn.attach _) ((K _).attach _ _ hn hp) (fun hu => attach_st0 (hz hu) _)
  unfold Clu.ev4
  split
  · refine CI.after K h _ ?_ ?_ ?_ _
    · split
      · exact hn.fuse (by have := hw.1; omega) (by omega)
      · exact hn
    · split
      · next hu => exact (K _).fuse _ _ hn hp hu (by have := hw.1; omega) (by omega)
      · exact hp
    · intro hu
      split
      · exact hz hu
      · exact hz hu
  split
  · refine h.setN v.n ?_ ?_ ?_
    · split
      · next hl => exact hn.draw hw hl
      · exact hn
    · split
      · next hl => exact (K _).draw _ _ hn hp hw hl
      · exact hp
    · intro hu
      split
      · exact hz hu
      · exact hz hu
  split
  · split
    · exact h
    · exact CI.after K h _ (hn.receive _) ((K _).receive _ _ hn hp) (fun hu => by rw [receive_st0 (hz hu)]; exact hz hu) _
  exact h
theorem CI.play : ∀ (l : List Evt) {c : Clu}, CI N P c → (∀ v ∈ l, v.wide) → CI N P (c.play l).1
  | [], _, h, _ => h
  | v :: r, _, h, hw => CI.play r (CI.doEv K h (hw v (List.mem_cons_self ..))) fun x hx => hw x (List.mem_cons_of_mem _ hx)
end
end
end Go.Proofs.YtabenngcmpjlhaaGreatDoor
