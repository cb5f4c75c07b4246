/- The laws of layer 16 carried out. -/
import Derived.Test.YtbmpdmomagkkmaaGreatDoorX3
import Derived.Test.YtbmpdmomagkkmaaGreatDoorXK
namespace Go.Proofs.YtbmpdmomagkkmaaGreatDoor
open Go.RowKit
structure Keeps (Q : Nod → Prop) : Prop where
  promote : ∀ n id, Q n → Q (n.promote id).1
  demote : ∀ n id, Q n → Q (n.demote id).1
  discard : ∀ n id, Q n → Q (n.discard id).1
  read : ∀ n id i, Q n → Q (n.read id i).1
  write : ∀ n id i d, Q n → Q (n.write id i d).1
  lose : ∀ n, Q n → n.up = true → Q n.lose.1
  begins : ∀ n s, Q n → n.up = true → Q (n.begins s).1
  receive : ∀ n b, Q n → Q (n.receive b).1
  down : ∀ n, Q n → Q n.down
  attach : ∀ n l, Q n → Q (n.attach l).1
  fuse : ∀ n f, Q n → Q { n with t := { n.t with f := f } }
  draw : ∀ n g, Q n → Q { n with dr := n.dr ++ [g] }
section
variable {Q : Nod → Prop} (K : Keeps Q) {c : Clu}
def CQ (Q : Nod → Prop) (c : Clu) : Prop := Q c.a ∧ Q c.b
theorem CQ.nd (h : CQ Q c) (i : Int) : Q (c.nd i) := by
  unfold Clu.nd
  split
  · exact h.1
  · exact h.2
theorem CQ.setN (h : CQ Q c) (i : Int) {n : Nod} (hn : Q n) : CQ Q (c.setN i n) := by
  unfold Clu.setN
  split
  · exact ⟨hn, h.2⟩
  · exact ⟨h.1, hn⟩
theorem CQ.setW (h : CQ Q c) (i : Int) (x : Bool) : CQ Q (c.setW i x) := by
  unfold Clu.setW
  split <;> exact h
include K
theorem CQ.loses (h : CQ Q c) (i : Int) (out : List Ou) : CQ Q (c.loses i out).1 := by
  unfold Clu.loses
  split
  · exact h
  · next hu =>
    have hl := K.lose _ (h.nd i) (by simpa using hu)
    dsimp only
    split
    · exact h.setN i hl
    · exact (h.setN i hl).setW i false
theorem CQ.ends (h : CQ Q c) (out : List Ou) : CQ Q (c.ends out).1 := by
  unfold Clu.ends
  exact CQ.loses K (CQ.loses K (c := { c with l := c.l.closed }) h 0 out) 1 _
theorem CQ.closes (l : List Ou) (u : Bool) (c2 : Clu) (h2 : CQ Q c2) : CQ Q (if c2.l.u = false ∨ (u = true ∧ closesL l = false) then (c2, saysL l) else Clu.ends (if closesL l = true then { c2 with wa := false, wb := false } else c2) (saysL l)).1 := by
  split
  · exact h2
  · refine CQ.ends K ?_ _
    split
    · exact ⟨h2.1, h2.2⟩
    · exact h2
theorem CQ.after (h : CQ Q c) (i : Int) {n : Nod} (hn : Q n) (l : List Ou) : CQ Q (c.after i n l).1 := by
  have h1 : CQ Q { c.setN i n with l := sendsL c.l (1 - i) l } := h.setN i hn
  have h2 : CQ Q (if n.up = true then { c.setN i n with l := sendsL c.l (1 - i) l } else Clu.setW { c.setN i n with l := sendsL c.l (1 - i) l } i false) := by
    split
    · exact h1
    · exact h1.setW i false
  exact CQ.closes K l n.up _ h2
omit K in
theorem after_begins (c : Clu) (i s : Int) {n : Nod} (hu : n.up = true) : ∃ l, (c.after i (n.begins s).1 (n.begins s).2).1 = { c.setN i (n.begins s).1 with l := l } := by
  unfold Clu.after
  dsimp only
  rw [if_pos (show (n.begins s).1.up = true from hu), if_pos (.inr ⟨hu, rfl⟩)]
  exact ⟨_, rfl⟩
theorem CQ.connect (h : CQ Q c) {i : Int} (hi : i = 0 ∨ i = 1) : CQ Q (c.connect i).1 := by
  unfold Clu.connect
  split
  · exact h
  · next hu =>
    have hu : (c.nd i).up = true := by simpa using hu
    dsimp only
    split
    · exact h.setW i true
    · next hc =>
      have h1 := h.setW i true
      have hv : ((c.setW i true).nd (1 - i)).up = true := by
        cases e : ((c.setW i true).nd (1 - i)).up with
        | true => rfl
        | false => exact absurd (.inr (.inl e)) hc
      have ab : (c.setW i true).a.up = true ∧ (c.setW i true).b.up = true := by
        rcases hi with rfl | rfl
        · exact ⟨hu, hv⟩
        · exact ⟨hv, hu⟩
      generalize c.setW i true = c1 at *
      obtain ⟨l, e⟩ := after_begins { c1 with l := c1.l.opened } 0 c1.l.opened.s (n := c1.a) ab.1
      have h3 : CQ Q (Clu.after { c1 with l := c1.l.opened } 0 (c1.a.begins c1.l.opened.s).1 (c1.a.begins c1.l.opened.s).2).1 := CQ.after K (c := { c1 with l := c1.l.opened }) h1 0 (K.begins _ _ h1.1 ab.1) _
      refine CQ.after K h3 1 (K.begins _ _ h3.2 ?_) _
      rw [e]
      exact ab.2
theorem CQ.doEv (h : CQ Q c) (v : Evt) : CQ Q (c.doEv v).1 := by
  unfold Clu.doEv
  split
  · exact h
  next hv =>
  have hi : v.n = 0 ∨ v.n = 1 := by omega
  have hn := h.nd v.n
  generalize c.nd v.n = n at *
  unfold Clu.ev1
  split
  · exact CQ.after K h _ (K.promote _ _ hn) _
  split
  · exact CQ.after K h _ (K.demote _ _ hn) _
  split
  · exact CQ.after K h _ (K.discard _ _ hn) _
  split
  · exact CQ.after K h _ (K.read _ _ _ hn) _
  split
  · exact CQ.after K h _ (K.write _ _ _ _ hn) _
  unfold Clu.ev2
  split
  · exact CQ.connect K h hi
  split
  · split
    · exact CQ.ends K (h.setW v.n false) []
    · exact h.setW v.n false
  split
  · split
    · exact CQ.ends K h []
    · exact h
  unfold Clu.ev3
  split
  · split
    · exact CQ.after K (c := { c with l := c.l.taken v.n }) h _ (K.receive _ _ hn) _
    · exact h
  split
  · split
    · exact CQ.after K h _ (K.down _ hn) _
    · exact h
  split
  · exact h.setN v.n (K.attach _ _ hn)
  unfold Clu.ev4
  split
  · refine CQ.after K h _ ?_ _
    split
    · exact K.fuse _ _ hn
    · exact hn
  split
  · refine h.setN v.n ?_
    split
    · exact K.draw _ _ hn
    · exact hn
  split
  · split
    · exact h
    · exact CQ.after K h _ (K.receive _ _ hn) _
  exact h
theorem CQ.play : ∀ (l : List Evt) {c : Clu}, CQ Q c → CQ Q (c.play l).1
  | [], _, h => h
  | v :: r, _, h => CQ.play r (CQ.doEv K h v)
end
structure SOk (n : Nod) : Prop where
  s0 : 0 ≤ n.st
  s4 : n.st ≤ 4
  dn : n.up = false → n = Nod.fresh n.id false n.t n.dr n.mi
section
variable {n : Nod}
theorem SOk.of (hu : n.up = true) (h0 : 0 ≤ n.st) (h4 : n.st ≤ 4) : SOk n := ⟨h0, h4, fun h => by rw [hu] at h; cases h⟩
theorem sok_fresh (id : Int) (u : Bool) (t : Sto) (dr : List Int) (mi : List Mnt) : SOk (Nod.fresh id u t dr mi) := ⟨Int.le_refl 0, (by show (0 : Int) ≤ 4; decide), fun h => by have h : u = false := h; subst h; rfl⟩
theorem SOk.down (n : Nod) : SOk n.down := sok_fresh _ _ _ _ _
theorem SOk.withT (h : SOk n) (t : Sto) : SOk { n with t := t } := ⟨h.s0, h.s4, fun hu => by have := h.dn hu; rw [this]; rfl⟩
theorem SOk.keep (h : SOk n) (r : Sto × Int) : SOk (n.keep r).1 := by
  unfold Nod.keep
  split
  · exact h.withT _
  · exact SOk.down _
theorem SOk.commit (h : SOk n) (b : Sup) : SOk (n.commit b).1 := h.keep _
theorem SOk.wipe (h : SOk n) (i : Int) : SOk (n.wipe i).1 := h.keep _
theorem keep_st {r : Sto × Int} (hk : (n.keep r).2 = true) : (n.keep r).1.st = n.st ∧ (n.keep r).1.up = n.up := by rw [keep_up hk]; exact ⟨rfl, rfl⟩
theorem SOk.lay (h : SOk n) (i : Int) (d : ByteArray) : SOk (n.lay i d).1 := by
  unfold Nod.lay
  dsimp only
  split
  · exact (h.keep _).keep _
  · exact h.keep _
theorem lay_st {i : Int} {d : ByteArray} (hk : (n.lay i d).2 = true) : (n.lay i d).1.st = n.st ∧ (n.lay i d).1.up = n.up := by
  unfold Nod.lay at hk ⊢
  dsimp only at hk ⊢
  split at hk
  · next h =>
    rw [if_pos h]
    exact ⟨(keep_st hk).1.trans (keep_st h).1, (keep_st hk).2.trans (keep_st h).2⟩
  · cases hk
theorem SOk.made {m m2 : Nod} (h : SOk n) (hu : n.up = true) (hs : m.st = n.st ∧ m.up = n.up) (e1 : m2.st = m.st := by rfl) (e2 : m2.up = m.up := by rfl) : SOk m2 := SOk.of (by rw [e2, hs.2]; exact hu) (by rw [e1, hs.1]; exact h.s0) (by rw [e1, hs.1]; exact h.s4)
theorem SOk.mints (h : SOk n) (hu : n.up = true) : SOk n.mints.1 := by
  unfold Nod.mints
  split
  · exact h
  · dsimp only
    split
    · exact SOk.of hu h.s0 h.s4
    · next g r e hg =>
      have h2 : SOk { n with dr := r, mi := n.mi ++ [⟨g, n.t.b.c, n.id⟩] } := SOk.of hu h.s0 h.s4
      split
      · next hk => exact h2.made hu (keep_st hk)
      · exact h2.commit _
theorem mints_ok (hk : n.mints.2 = 0) : n.mints.1.st = n.st ∧ n.mints.1.up = n.up := by
  unfold Nod.mints at hk ⊢
  split at hk
  · cases hk
  · dsimp only at hk ⊢
    split at hk
    · cases hk
    · next hg =>
      rw [if_neg hg]
      split at hk
      · next h =>
        rw [if_pos h]
        exact keep_st h
      · cases hk
theorem SOk.promote (h : SOk n) (id : Int) : SOk (n.promote id).1 := by
  unfold Nod.promote
  by_cases hu : n.up = false
  · rw [if_pos hu]; exact h
  rw [if_neg hu]
  replace hu : n.up = true := by simpa using hu
  dsimp only
  repeat' split
  all_goals first
    | exact h
    | exact SOk.of hu h.s0 h.s4
    | (next hk => exact h.made hu (keep_st hk))
    | exact h.commit _
theorem SOk.demote (h : SOk n) (id : Int) : SOk (n.demote id).1 := by
  unfold Nod.demote
  by_cases hu : n.up = false
  · rw [if_pos hu]; exact h
  rw [if_neg hu]
  replace hu : n.up = true := by simpa using hu
  dsimp only
  repeat' split
  all_goals first
    | exact h
    | (next hk => exact h.made hu (keep_st hk))
    | (next hk _ => exact h.made hu (keep_st hk))
    | exact h.commit _
theorem SOk.discard (h : SOk n) (id : Int) : SOk (n.discard id).1 := by
  unfold Nod.discard
  dsimp only
  repeat' split
  all_goals first
    | exact h
    | exact h.commit _
theorem SOk.read (h : SOk n) (id i : Int) : SOk (n.read id i).1 := by
  unfold Nod.read
  repeat' split
  all_goals exact h
theorem SOk.laid (h : SOk n) (hu : n.up = true) (id i : Int) (d : ByteArray) : SOk (n.laid id i d).1 := by
  unfold Nod.laid
  dsimp only
  split
  · next hk =>
    split
    · exact h.lay i d
    · exact h.made hu (lay_st hk)
  · exact h.lay i d
theorem SOk.write (h : SOk n) (id i : Int) (d : ByteArray) : SOk (n.write id i d).1 := by
  unfold Nod.write
  split
  · next hb =>
    have hu : n.up = true := by
      cases e : n.up with
      | true => rfl
      | false => unfold Nod.badW at hb; rw [if_pos e] at hb; cases hb
    split
    · split
      · exact h.mints hu
      split
      · next h6 h0 =>
        have hm := h.mints hu
        exact hm.laid ((mints_ok h0).2.trans hu) id i d
      · exact h.mints hu
    · exact h.laid hu id i d
  · exact h
theorem SOk.lose (h : SOk n) (hu : n.up = true) : SOk n.lose.1 := by
  unfold Nod.lose
  split
  · exact h
  · dsimp only
    have hk : SOk ⟨n.id, n.up, n.t, n.pri, 0, 0, Hel.zero, false, Req.zero, false, 0, 0, false, n.dr, n.mi⟩ := SOk.of hu (Int.le_refl 0) (by show (0 : Int) ≤ 4; decide)
    split
    · exact hk.mints hu
    · exact hk
theorem SOk.seek (h : SOk n) (hu : n.up = true) : SOk n.seek.1 := by
  unfold Nod.seek
  split
  · exact h
  · split
    · exact SOk.of hu h.s0 h.s4
    · exact h.commit _
theorem SOk.got (h : SOk n) (hu : n.up = true) (i : Int) (d : ByteArray) : SOk (n.got i d).1 := by
  unfold Nod.got
  split
  · dsimp only
    split
    · next h1 =>
      split
      · next h2 =>
        have hs := keep_st h1
        have hs2 := keep_st h2
        exact SOk.seek (h.made hu ⟨hs2.1.trans hs.1, hs2.2.trans hs.2⟩) (hs2.2.trans (hs.2.trans hu))
      · exact (h.keep _).wipe _
    · exact h.keep _
  · exact h
theorem SOk.met (h : SOk n) (hu : n.up = true) (x : Hel) : SOk (n.met x).1 := by
  unfold Nod.met
  split
  · exact h
  split
  · dsimp only
    split
    · next hk => exact SOk.of ((keep_st hk).2.trans hu) (by show (0 : Int) ≤ 2; decide) (by show (2 : Int) ≤ 4; decide)
    · exact h.commit _
  · dsimp only
    split
    · next hk =>
      have hs := keep_st hk
      split
      · exact SOk.of (hs.2.trans hu) (by show (0 : Int) ≤ 3; decide) (by show (3 : Int) ≤ 4; decide)
      · split
        · next hk2 =>
          have hu2 := (keep_st hk2).2.trans (hs.2.trans hu)
          exact SOk.seek (SOk.of hu2 (by show (0 : Int) ≤ 4; decide) (by show (4 : Int) ≤ 4; decide)) hu2
        · exact (h.keep _).commit _
    · exact h.keep _
theorem SOk.roles (h : SOk n) (hu : n.up = true) (k : Int) : SOk (n.roles k).1 := by
  unfold Nod.roles
  dsimp only
  repeat' split
  all_goals first
    | exact h
    | exact SOk.of hu h.s0 h.s4
    | (next hk => exact h.made hu (keep_st hk))
    | exact h.commit _
theorem SOk.takes (h : SOk n) (hu : n.up = true) (p : Pkt) : SOk (n.takes p).1 := by
  unfold Nod.takes
  split
  · exact h.met hu _
  split
  · exact h.lay _ _
  split
  · unfold Nod.acked
    split
    · exact SOk.wipe (n := { n with rq := Req.zero }) (SOk.of hu h.s0 h.s4) _
    · exact h
  split
  · exact h.wipe _
  split
  · exact h
  split
  · exact h.got hu _ _
  split
  · unfold Nod.copied
    split
    · exact h
    · exact h.wipe _
  split
  · unfold Nod.ended
    dsimp only
    split
    · next hk => exact SOk.of ((keep_st hk).2.trans hu) (by show (0 : Int) ≤ 2; decide) (by show (2 : Int) ≤ 4; decide)
    · exact h.commit _
  split
  · exact SOk.of hu (by show (0 : Int) ≤ 2; decide) (by show (2 : Int) ≤ 4; decide)
  · exact h.roles hu _
theorem SOk.receive (h : SOk n) (b : ByteArray) : SOk (n.receive b).1 := by
  unfold Nod.receive
  split
  · exact h
  next hc =>
  have hu : n.up = true := by
    cases e : n.up with
    | true => rfl
    | false => exact absurd (.inl e) hc
  split
  · exact h
  split
  · exact h
  · exact h.takes hu _
theorem SOk.attach (h : SOk n) (l : List Bool) : SOk (n.attach l).1 := by
  unfold Nod.attach
  split
  · exact h
  split
  · exact SOk.of rfl (Int.le_refl 0) (by show (0 : Int) ≤ 4; decide)
  · exact h.withT _
theorem sok_keeps : Keeps SOk where
  promote := fun _ id h => h.promote id
  demote := fun _ id h => h.demote id
  discard := fun _ id h => h.discard id
  read := fun _ id i h => h.read id i
  write := fun _ id i d h => h.write id i d
  lose := fun _ h hu => h.lose hu
  begins := fun _ _ _ hu => SOk.of hu (by show (0 : Int) ≤ 1; decide) (by show (1 : Int) ≤ 4; decide)
  receive := fun _ b h => h.receive b
  down := fun n _ => SOk.down n
  attach := fun _ l h => h.attach l
  fuse := fun _ _ h => h.withT _
  draw := fun _ _ h => ⟨h.s0, h.s4, fun hu => by have := h.dn hu; rw [this]; rfl⟩
theorem sok_new (N : Nat) : CQ SOk (newC N) := ⟨SOk.of rfl (Int.le_refl 0) (by show (0 : Int) ≤ 4; decide), SOk.of rfl (Int.le_refl 0) (by show (0 : Int) ≤ 4; decide)⟩
theorem sok_reach (N : Nat) (l : List Evt) (i : Int) : SOk ((reachC N l).nd i) := CQ.nd (CQ.play sok_keeps l (sok_new N)) i
end
end Go.Proofs.YtbmpdmomagkkmaaGreatDoor
namespace Go.Proofs.YtbmpdmomagkkmaaGreatDoor
open Go.RowKit PX
set_option maxRecDepth 100000
section
variable {w : World} {F : Value → S → World → Prop} {K : World → Prop} {t : Tree} {f : FuncId} {args : Array Value}
theorem t_n1 {m : Nod} {x : Ou} {r : Nod × List Ou} (e : r = (m, [x])) (hc : ∀ u, K u → Calls Tryz.prog f args u (GivesN r u)) (h : ∀ a ad k, OK ⟨Tryz.prog, tyL, w, [], []⟩ F (t.nv (.tuple #[nodV m a, .slice (some ad) 1 k])) fun u => K u ∧ NM u m a ∧ OM u (some ad) k [x]) (hd : t.hd = .call (.fn f) args.toList := by kernel_rfl) : OK ⟨Tryz.prog, tyL, w, [], []⟩ F t K :=
  t_call (fun u hu _ => hc u hu) (fun u e' u' hu hb hr => by
    subst e
    obtain ⟨a, O, k, he, h1, h2, h3, h4⟩ := hr
    obtain ⟨ad, rfl, _⟩ := h2.o 0 x rfl
    exact ⟨_, _, he, h3, (st_nm _ _).and (st_om _ _ _), ⟨h1, h2⟩, h a ad k⟩) hd
theorem o_reads {u : World} {ad : Addr} {k : Nat} {x : Ou} (h : OM u (some ad) k [x]) : Reads Tryz.prog u 65 ad (ouV x) := by
  obtain ⟨a, e, hr⟩ := om_reads h (x := x) (j := 0) rfl
  injection e with e
  subst e
  exact hr u (Below.refl _ _)
theorem eql_ouS (a b : Operand) (x y : Ou) (w : World) : (do Go.eqGuard .eql 65 a b (ouV x) (ouV y); Go.binOp .eql 65 (ouV x) (ouV y) : Sem Value).run Tryz.prog w = .ok (.bool (eqO x y)) w := by
  simp [go_sem, eql_ou]
theorem o_field {u : World} {ad : Addr} {k : Nat} {x : Ou} (h : OM u (some ad) k [x]) : u.cell? ⟨ad.block, ad.off + 2, none⟩ = some (.int .i64 x.id) ∧ u.cell? ⟨ad.block, ad.off + 3, none⟩ = some (.int .i64 x.e) ∧ u.cell? ⟨ad.block, ad.off + 4, none⟩ = some (.string x.d) := by
  obtain ⟨a, e, _, h0, h1, h2, h3, h4⟩ := h.o 0 x rfl
  injection e with e
  subst e
  exact ⟨h2, h3, h4⟩
def n0 : Nod := newN 2 1
def n1 : Nod := (n0.promote 5).1
def n2 : Nod := (n1.demote 8).1
def n3 : Nod := (n2.discard 9).1
def n4 : Nod := (n3.down.attach []).1
theorem l0 : n0.read 4 0 = (n0, [⟨2, 1, 4, 8, e1⟩]) := by kernel_rfl
theorem l1 : n0.promote 5 = (n1, [⟨2, 1, 5, 0, e1⟩]) := by
  refine Prod.ext rfl ?_
  kernel_rfl
theorem l2 : n1.read 6 1 = (n1, [⟨2, 1, 6, 0, (n1.t.read 1).1⟩]) := by kernel_rfl
theorem l3 : n1.discard 7 = (n1, [⟨2, 1, 7, 8, e1⟩]) := by kernel_rfl
theorem l4 : n1.demote 8 = (n2, [⟨2, 1, 8, 0, e1⟩]) := by
  refine Prod.ext rfl ?_
  kernel_rfl
theorem l5 : n2.discard 9 = (n3, [⟨2, 1, 9, 0, e1⟩]) := by
  refine Prod.ext rfl ?_
  kernel_rfl
theorem l6 : n3.promote 10 = (n3, [⟨2, 1, 10, 10, e1⟩]) := by kernel_rfl
theorem l7 : n3.down.attach [] = (n4, 0) := by
  refine Prod.ext rfl ?_
  kernel_rfl
theorem l8 : n4.attach [] = (n4, 7) := by kernel_rfl
theorem ok0 : NOk 2 0 n0 := (new_ok (by decide) (by decide)).b
theorem ok1 : NOk 2 1 n1 := ok0.promote 5
theorem ok2 : NOk 2 2 n2 := ok1.demote 8
theorem ok3 : NOk 2 3 n3 := ok2.discard 9
theorem ok4 : NOk 2 3 n4 := ok3.down.attach []
theorem st3 : n3.st = 0 := by kernel_rfl
theorem n01 : ¬ n0 = n1 := fun e => by
  have : n0.pri = n1.pri := congrArg Nod.pri e
  have : (n0.pri == n1.pri) = false := by kernel_rfl
  simp_all
theorem alive_any (g : Addr) (hg : Glob w g) : Calls Tryz.prog 11 #[] w fun e w' => e = .returned (.bool true) ∧ Below w.heap.size w w' := by
  refine run_v ?_
  refine t_call (args := #[.int .i64 ((2 : Nat) : Int), .int .u64 7]) (fun u _ _ => xnew (N := 2) (by decide) (by decide)) ?_
  rintro u e u' _ _ ⟨x, rfl, hc, hb⟩
  refine ⟨_, fun u => CM u (newC 2) x, rfl, hb, st_cm _ _, hc, ?_⟩
  have ck : (0 : Int) ≤ 1 ∧ (1 : Int) < ((2 : Nat) : Int) := by decide
  refine t_ck ck ?_
  refine t_n1 (args := #[nodV n0 x.b, .int .i64 4, .int .i64 0]) l0 (fun u hu => wread ok0 (by omega) 4 0 hu.2.b) fun a0 A0 k0 => ?_
  refine t_n1 (args := #[nodV n0 x.b, .int .i64 5]) l1 (fun u hu => wpromote ok0 (by omega) (Int.le_refl 0) (by decide) 5 hu.1.2.b) fun a1 A1 k1 => ?_
  refine t_n1 (args := #[nodV n1 a1, .int .i64 6, .int .i64 1]) l2 (fun u hu => wread ok1 (by omega) 6 1 hu.2.1) fun a2 A2 k2 => ?_
  refine t_n1 (args := #[nodV n1 a1, .int .i64 7]) l3 (fun u hu => wdiscard ok1 (by omega) 7 hu.1.2.1) fun a3 A3 k3 => ?_
  refine t_n1 (args := #[nodV n1 a1, .int .i64 8]) l4 (fun u hu => wdemote ok1 (by omega) 8 hu.1.1.2.1) fun a4 A4 k4 => ?_
  refine t_n1 (args := #[nodV n2 a4, .int .i64 9]) l5 (fun u hu => wdiscard ok2 (by omega) 9 hu.2.1) fun a5 A5 k5 => ?_
  refine t_n1 (args := #[nodV n3 a5, .int .i64 10]) l6 (fun u hu => wpromote ok3 (by omega) (by rw [st3]; decide) (by rw [st3]; decide) 10 hu.2.1) fun a6 A6 k6 => ?_
  refine t_a (args := #[nodV n3 a5]) (fun u hu => wdown2 hu.1.2.1) fun a7 => ?_
  refine t_call (args := #[nodV n3.down a7, .slice none 0 0]) (fun u hu hb => by have := wattach ok3.down (by omega) (SOk.down n3).dn g (hg.up (base_below hb)) none [] 0 (es_nil _ _ _ _) (by decide) hu.2; rw [l7] at this; exact this) ?_
  rintro u e u' _ _ ⟨a8, rfl, h1, hb⟩
  refine ⟨_, fun u => NM u n4 a8, rfl, hb, st_nm _ _, h1, ?_⟩
  refine t_call (args := #[nodV n4 a8, .slice none 0 0]) (fun u hu hb => by have := wattach ok4 (by omega) ((SOk.down n3).attach []).dn g (hg.up (base_below hb)) none [] 0 (es_nil _ _ _ _) (by decide) hu.2; rw [l8] at this; exact this) ?_
  rintro u e u' _ _ ⟨a9, rfl, h1, hb⟩
  refine ⟨_, fun u => NM u n4 a9, rfl, hb, st_nm _ _, h1, ?_⟩
  have ck0 : (0 : Int) ≤ 0 ∧ (0 : Int) < ((1 : Nat) : Int) := by decide
  refine t_lit 19 (t_ck ck0 (t_load (ty := 65) (p := A0) (v := ouV ⟨2, 1, 4, 8, e1⟩) (fun u hu _ => o_reads hu.1.1.1.1.1.1.1.1.1.2.2) ?_))
  refine t_sem (do Go.eqGuard .eql 65 (.tmp 1) (.tmp 1) (ouV ⟨2, 1, 4, 8, e1⟩) (ouV ⟨2, 1, 4, 8, e1⟩); Go.binOp .eql 65 (ouV ⟨2, 1, 4, 8, e1⟩) (ouV ⟨2, 1, 4, 8, e1⟩)) (v := .bool true) (fun u _ _ => by rw [eql_ouS, eqO_iff.2 rfl]) ?_
  refine t_lit 2 (t_ck ck0 (t_lit 2 (t_load (ty := 58) (p := ⟨A1.block, A1.off + 3, none⟩) (v := .int .i64 0) (fun u hu _ => reads1 (by kernel_rfl) (o_field hu.1.1.1.1.1.1.1.1.2.2).2.1) ?_)))
  refine t_lit 3 (t_ck ck0 (t_lit 2 (t_load (ty := 3) (p := ⟨A1.block, A1.off + 2, none⟩) (v := .int .i64 5) (fun u hu _ => reads1 (by kernel_rfl) (o_field hu.1.1.1.1.1.1.1.1.2.2).1) ?_)))
  refine t_lit 9 (t_ck ck0 (t_lit 2 (t_load (ty := 58) (p := ⟨A2.block, A2.off + 3, none⟩) (v := .int .i64 0) (fun u hu _ => reads1 (by kernel_rfl) (o_field hu.1.1.1.1.1.1.1.2.2).2.1) ?_)))
  refine t_lit 3 (t_ck ck0 (t_lit 2 (t_load (ty := 9) (p := ⟨A2.block, A2.off + 4, none⟩) (v := .string (n1.t.read 1).1) (fun u hu _ => reads1 (by kernel_rfl) (o_field hu.1.1.1.1.1.1.1.2.2).2.2) ?_)))
  refine t_lit 4 (t_ck ck0 (t_lit 2 (t_load (ty := 58) (p := ⟨A3.block, A3.off + 3, none⟩) (v := .int .i64 8) (fun u hu _ => reads1 (by kernel_rfl) (o_field hu.1.1.1.1.1.1.2.2).2.1) ?_)))
  refine t_lit 3 (t_ck ck0 (t_lit 2 (t_load (ty := 58) (p := ⟨A4.block, A4.off + 3, none⟩) (v := .int .i64 0) (fun u hu _ => reads1 (by kernel_rfl) (o_field hu.1.1.1.1.1.2.2).2.1) ?_)))
  refine t_lit 3 (t_ck ck0 (t_lit 2 (t_load (ty := 58) (p := ⟨A5.block, A5.off + 3, none⟩) (v := .int .i64 0) (fun u hu _ => reads1 (by kernel_rfl) (o_field hu.1.1.1.1.2.2).2.1) ?_)))
  refine t_lit 3 (t_ck ck0 (t_lit 2 (t_load (ty := 58) (p := ⟨A6.block, A6.off + 3, none⟩) (v := .int .i64 10) (fun u hu _ => reads1 (by kernel_rfl) (o_field hu.1.1.1.2.2).2.1) ?_)))
  have f0 := ok0.fit (show 0 ≤ 900 by decide)
  have f1 := ok1.fit (show 1 ≤ 900 by decide)
  have l0 : n0.t.s.length ≤ 1000 := by have := f0.l64; omega
  have l1 : n1.t.s.length ≤ 1000 := by have := f1.l64; omega
  have c0 : n0.t.c.length ≤ 1000 := by have := ok0.len; omega
  have c1 : n1.t.c.length ≤ 1000 := by have := ok1.len; omega
  have d0 : n0.dr.length ≤ 1000000 := by have := ok0.dl; omega
  have m0 : n0.mi.length ≤ 1000000 := by have := ok0.ml; omega
  refine t_lit 99 (t_v (args := #[nodV n0 x.b, nodV n0 x.b]) (fun u hu => wsame hu.1.1.1.1.1.1.1.1.1.1.2.b hu.1.1.1.1.1.1.1.1.1.1.2.b l0 l0 c0 c0 d0 m0 true (by simp)) ?_)
  refine t_lit 99 (t_v (args := #[nodV n0 x.b, nodV n1 a1]) (fun u hu => wsame (n := n0) (m := n1) hu.1.1.1.1.1.1.1.1.1.1.2.b hu.1.1.1.1.1.1.1.1.2.1 l0 l1 c0 c1 d0 m0 false (by simpa using n01)) ?_)
  exact t_lit 99 (e_r2 (.bool true) rfl)
end
end Go.Proofs.YtbmpdmomagkkmaaGreatDoor
namespace Go.Proofs.YtbmpdmomagkkmaaGreatDoor
open Go.RowKit PX
set_option maxRecDepth 100000
section
variable {w : World}
structure Cas (w : World) (b : Int) (A : Option Addr) (l : List Evt) : Prop where
  h0 : 0 ≤ b
  h1 : b < 256
  hw : ∀ v ∈ l, v.wide
  he : Evs w A l
def greatEv (l : List Evt) : Bool := decide ((60 : Int) < l.length) || l.any Evt.great
def caseN (b : Int) (l : List Evt) (s : Bool) : Nod := (reachC (blks b) l).nd (if s = true then 1 else 0)
theorem blks_le (b : Int) : 1 ≤ blks b ∧ blks b ≤ 32 := by unfold blks; omega
theorem small {l : List Evt} (h : greatEv l = false) : l.length ≤ 60 ∧ ∀ v ∈ l, (v.d.size : Int) ≤ 3000 := by
  unfold greatEv at h
  simp only [Bool.or_eq_false_iff, decide_eq_false_iff_not, List.any_eq_false] at h
  refine ⟨by omega, fun v hv => ?_⟩
  have := h.2 v hv
  unfold Evt.great at this
  simp at this
  omega
theorem case_ok {b : Int} {A : Option Addr} {l : List Evt} (h : Cas w b A l) (hg : greatEv l = false) (s : Bool) : NOk (blks b) 300 (caseN b l s) := by
  have h1 := COk.play l (new_ok (blks_le b).1 (blks_le b).2) h.hw
  exact (h1.nd _).mono (by have := (small hg).1; omega)
theorem case_sok (b : Int) (l : List Evt) (s : Bool) : SOk (caseN b l s) := sok_reach _ _ _
theorem xcase {b : Int} {A : Option Addr} {l : List Evt} (kl : Nat) (s : Bool) (h : Cas w b A l) (hg : greatEv l = false) (u : World) (hb : Below w.heap.size w u) : Calls Tryz.prog 13 #[.agg #[.int .u8 b, .slice A l.length kl, .bool s]] u (GivesA (caseN b l s) u) :=
  xnode h.h0 h.h1 A l kl s (small hg).1 (fun v hv => ⟨h.hw v hv, (small hg).2 v hv⟩) (h.he.up hb)
theorem NOk.xs {N q N2 q2 : Nat} {n m : Nod} {a b : Adr} (hn : NOk N q n) (hm : NOk N2 q2 m) (ha : NM w n a) (hb : NM w m b) (bb : Bool) (hbb : bb = true ↔ n = m) (hq : q ≤ 900 := by omega) (hq2 : q2 ≤ 900 := by omega) : Calls Tryz.prog 20 #[nodV n a, nodV m b] w fun e w' => e = .returned (.bool bb) ∧ Below w.heap.size w w' :=
  xsame ha hb (by have := (hn.fit hq).l64; omega) (by have := (hm.fit hq2).l64; omega) (by have := hn.len; omega) (by have := hm.len; omega) (by have := hn.dl; omega) (by have := hn.ml; omega) bb hbb
theorem NOk.ws {N q N2 q2 : Nat} {n m : Nod} {a b : Adr} (hn : NOk N q n) (hm : NOk N2 q2 m) (ha : NM w n a) (hb : NM w m b) (bb : Bool) (hbb : bb = true ↔ n = m) (hq : q ≤ 900 := by omega) (hq2 : q2 ≤ 900 := by omega) : Calls Tryz.prog 24 #[nodV n a, nodV m b] w fun e w' => e = .returned (.bool bb) ∧ Below w.heap.size w w' :=
  wsame ha hb (by have := (hn.fit hq).l64; omega) (by have := (hm.fit hq2).l64; omega) (by have := hn.len; omega) (by have := hm.len; omega) (by have := hn.dl; omega) (by have := hn.ml; omega) bb hbb
theorem reads_law (b : Int) (A : Option Addr) (kl : Nat) (l : List Evt) (s : Bool) (id i : Int) (g : Addr) (w : World) (hc : Cas w b A l) (hg : Glob w g) : Calls Tryz.prog 4 #[.agg #[.int .u8 b, .slice A l.length kl, .bool s], .int .i64 id, .int .i64 i] w fun e w' => e = .returned (.bool true) ∧ Below w.heap.size w w' := by
  refine run_v ?_
  refine t_vb (args := #[]) (fun u _ hb => alive_any g (hg.up hb)) (t_lit 9 ?_)
  refine t_vb (args := #[.slice A l.length kl, .int .i64 60]) (v := .bool (greatEv l)) (fun u _ hb => xgreat A kl 60 (hc.he.up hb) (by decide)) ?_
  cases hgr : greatEv l with
  | true => exact t_lit 9 (e_r2 (.bool true) rfl)
  | false =>
    have hk := case_ok hc hgr s
    have hx := xcase kl s hc hgr
    generalize caseN b l s = n at *
    refine t_lit 9 (t_call (args := #[.agg #[.int .u8 b, .slice A l.length kl, .bool s]]) (fun u _ hb => hx u (base_below hb)) ?_)
    rintro u e u' _ _ ⟨a, rfl, hn, hb⟩
    refine ⟨_, fun u => NM u n a, rfl, hb, st_nm _ _, hn, ?_⟩
    obtain ⟨o, ho⟩ : ∃ o, n.read id i = (n, [o]) := ⟨_, read_is id i⟩
    refine t_n1 (args := #[nodV n a, .int .i64 id, .int .i64 i]) ho (fun u hu => wread hk (by omega) id i hu.2) fun a1 A1 k1 => ?_
    refine t_n1 (args := #[nodV n a, .int .i64 id, .int .i64 i]) ho (fun u hu => xread hk (by omega) id i hu.1.2) fun a2 A2 k2 => ?_
    refine t_v (args := #[nodV n a1, nodV n a2]) (fun u hu => hk.xs hk hu.1.2.1 hu.2.1 true (by simp)) ?_
    refine t_lit 30 (t_v (args := #[.slice (some A1) 1 k1, .slice (some A2) 1 k2]) (fun u hu => xouts (l := [o]) (r := [o]) (some A1) k1 (some A2) k2 hu.1.2.2 hu.2.2 (by simp) true (by simp)) ?_)
    refine t_lit 30 (t_v (args := #[nodV n a1, nodV n a]) (fun u hu => hk.xs hk hu.1.2.1 hu.1.1.2 true (by simp)) ?_)
    exact t_lit 30 (t_v (args := #[nodV n a1, nodV n a2]) (fun u hu => hk.ws hk hu.1.2.1 hu.2.1 true (by simp)) (t_lit 30 (e_r2 (.bool true) rfl)))
end
end Go.Proofs.YtbmpdmomagkkmaaGreatDoor
