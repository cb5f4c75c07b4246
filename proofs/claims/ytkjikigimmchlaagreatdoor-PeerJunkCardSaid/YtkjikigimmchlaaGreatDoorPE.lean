/- Calls carried out plainly that lay a row of events of their own: the steps; and how outputs are read. No condition. -/
import Derived.Test.YtkjikigimmchlaaGreatDoorWI
import Derived.Test.YtkjikigimmchlaaGreatDoorXK
import Derived.Test.YtkjikigimmchlaaGreatDoorX3
import Derived.Test.YtkjikigimmchlaaGreatDoorXI
namespace Go.Proofs.YtkjikigimmchlaaGreatDoor
open Go.RowKit
structure Sane (k : Int) (n : Nod) : Prop where
  id : n.id = k
  pi : n.pri = true → n.t.b.i = false
  ask : n.ask = true → (n.st = 2 ∨ n.st = 3) ∧ n.t.b.i = false
  w0 : n.want = 0 ∨ (n.st = 4 ∧ n.t.b.i = true ∧ 1 ≤ n.want ∧ n.want ≤ n.t.b.n)
  w1 : n.st = 4 → n.t.b.i = true → n.want ≠ 0
section
variable {N q : Nat} {n m : Nod} {k : Int} {t : Sto}
theorem commit_b {b : Sup} (he : (t.commit b).2 = 0) : (t.commit b).1.b = b := by
  unfold Sto.commit at he ⊢
  split at he
  · next e => rw [if_pos e]; exact (Sup.same_iff.1 e).symm
  · next e =>
    rw [if_neg e]
    show (if _ then b else t.b) = b
    rw [if_pos he]
theorem save_b (t : Sto) (k : Nat) : (t.save k).1.b = t.b := by
  unfold Sto.save
  split
  · rfl
  · show (if _ then t.b else t.b) = t.b
    rw [ite_self]
theorem note_b (t : Sto) (k : Nat) : (t.note k).1.b = t.b := by
  unfold Sto.note
  split
  · rfl
  · show (if _ then t.b else t.b) = t.b
    rw [ite_self]
theorem mark_b (t : Sto) (i : Int) : (t.mark i).1.b = t.b := by
  unfold Sto.mark
  split
  · rfl
  · exact save_b _ _
theorem wipe_b (t : Sto) (i : Int) : (t.wipe i).1.b = t.b := by
  unfold Sto.wipe
  split
  · rfl
  · exact note_b _ _
theorem join_b (t : Sto) (k : Nat) : (t.join k).1.b = t.b := save_b _ _
theorem Sane.as (h : Sane k n) (h1 : m.id = n.id := by rfl) (h2 : m.pri = n.pri := by rfl) (h3 : m.ask = n.ask := by rfl) (h4 : m.st = n.st := by rfl) (h5 : m.want = n.want := by rfl) (h6 : m.t.b = n.t.b := by rfl) : Sane k m := by
  refine ⟨by rw [h1]; exact h.id, ?_, ?_, ?_, ?_⟩
  · rw [h2, h6]; exact h.pi
  · rw [h3, h4, h6]; exact h.ask
  · rw [h5, h4, h6]; exact h.w0
  · rw [h5, h4, h6]; exact h.w1
theorem sane_fresh (id : Int) (u : Bool) (t : Sto) (dr : List Int) (mi : List Mnt) : Sane id (Nod.fresh id u t dr mi) := ⟨rfl, (fun h => by cases h), (fun h => by cases h), .inl rfl, fun h => absurd h (by show ¬ (0 : Int) = 4; decide)⟩
theorem Sane.down (h : Sane k n) : Sane k n.down := by rw [← h.id]; exact sane_fresh _ _ _ _ _
theorem Sane.keep (h : Sane k n) {r : Sto × Int} (hi : r.2 = 0 → r.1.b.i = n.t.b.i) (hn : r.2 = 0 → r.1.b.n = n.t.b.n) : Sane k (n.keep r).1 := by
  unfold Nod.keep
  split
  · next he =>
    refine ⟨h.id, fun hp => ?_, fun ha => ?_, ?_, fun h4 h5 => ?_⟩
    · show r.1.b.i = false
      rw [hi he]; exact h.pi hp
    · show _ ∧ r.1.b.i = false
      rw [hi he]; exact h.ask ha
    · show _ ∨ (_ ∧ r.1.b.i = true ∧ _ ∧ _ ≤ r.1.b.n)
      rw [hi he, hn he]; exact h.w0
    · exact h.w1 h4 (by rw [← hi he]; exact h5)
  · exact (Sane.as h : Sane k { n with t := { n.t with s := n.t.s } }).down.as
theorem Sane.keepB (h : Sane k n) {r : Sto × Int} (hb : r.1.b = n.t.b) : Sane k (n.keep r).1 := h.keep (fun _ => by rw [hb]) (fun _ => by rw [hb])
theorem Sane.commit (h : Sane k n) {b : Sup} (hi : b.i = n.t.b.i) (hn : b.n = n.t.b.n) : Sane k (n.commit b).1 := h.keep (fun he => by rw [commit_b he]; exact hi) (fun he => by rw [commit_b he]; exact hn)
theorem commit_tb {b : Sup} (hk : (n.commit b).2 = true) : (n.commit b).1.t.b = b := by
  obtain ⟨h1, h2⟩ : (n.t.commit b).2 = 0 ∧ (n.keep (n.t.commit b)).1.t = (n.t.commit b).1 := by
    unfold Nod.commit Nod.keep at *
    split at hk
    · next h => exact ⟨h, by rw [if_pos h]⟩
    · cases hk
  show (n.keep (n.t.commit b)).1.t.b = b
  rw [h2, commit_b h1]
theorem keep_same {r : Sto × Int} (hk : (n.keep r).2 = true) : (n.keep r).1.id = n.id ∧ (n.keep r).1.pri = n.pri ∧ (n.keep r).1.ask = n.ask ∧ (n.keep r).1.st = n.st ∧ (n.keep r).1.want = n.want ∧ (n.keep r).1.up = n.up := by rw [keep_up hk]; exact ⟨rfl, rfl, rfl, rfl, rfl, rfl⟩
theorem Sane.wipe (h : Sane k n) (i : Int) : Sane k (n.wipe i).1 := h.keepB (wipe_b _ _)
theorem Sane.lay (h : Sane k n) (i : Int) (d : ByteArray) : Sane k (n.lay i d).1 := by
  have h1 : Sane k (n.keep (n.t.mark i)).1 := h.keepB (mark_b _ _)
  unfold Nod.lay
  dsimp only
  split
  · exact h1.keepB (put_b _ _ _)
  · exact h1
theorem Sane.mints (h : Sane k n) : Sane k n.mints.1 := by
  unfold Nod.mints
  split
  · exact h
  · next g r e =>
    dsimp only
    split
    · exact h.as
    · have key : Sane k (Nod.commit { n with dr := r, mi := n.mi ++ [⟨g, n.t.b.c, n.id⟩] } (n.t.b.minted g)).1 := Sane.commit (n := { n with dr := r, mi := n.mi ++ [⟨g, n.t.b.c, n.id⟩] }) h.as rfl rfl
      split
      · exact key.as
      · exact key
theorem Sane.promote (h : Sane k n) (id : Int) : Sane k (n.promote id).1 := by
  have key : Sane k (n.commit { n.t.b with r := true }).1 := h.commit rfl rfl
  unfold Nod.promote
  split
  · exact h
  split
  · exact h
  split
  · exact h
  next hi =>
  split
  · exact h
  split
  · exact h
  next hb =>
  split
  · exact h
  split
  · next hl =>
    refine ⟨h.id, h.pi, fun _ => ⟨?_, by simpa using hi⟩, h.w0, h.w1⟩
    unfold Nod.linked at hl
    simpa using hl
  · dsimp only
    split
    · next hk =>
      refine ⟨key.id, fun _ => ?_, key.ask, key.w0, key.w1⟩
      show (n.commit { n.t.b with r := true }).1.t.b.i = false
      rw [commit_tb hk]
      simpa using hi
    · exact key
theorem Sane.demote (h : Sane k n) (id : Int) : Sane k (n.demote id).1 := by
  have key : Sane k (n.commit { n.t.b with r := false }).1 := h.commit rfl rfl
  unfold Nod.demote
  dsimp only
  repeat' split
  all_goals first
    | exact h
    | exact ⟨key.id, (fun h => by cases h), key.ask, key.w0, key.w1⟩
    | exact key
theorem Sane.discard (h : Sane k n) (id : Int) : Sane k (n.discard id).1 := by
  have key : Sane k (n.commit { n.t.b with d := true }).1 := h.commit rfl rfl
  unfold Nod.discard
  dsimp only
  repeat' split
  all_goals first
    | exact h
    | exact key
theorem Sane.laid (h : Sane k n) (id i : Int) (d : ByteArray) : Sane k (n.laid id i d).1 := by
  have key := h.lay i d
  unfold Nod.laid
  dsimp only
  repeat' split
  all_goals first
    | exact key
    | exact key.as
theorem Sane.write (h : Sane k n) (id i : Int) (d : ByteArray) : Sane k (n.write id i d).1 := by
  unfold Nod.write
  repeat' split
  all_goals first
    | exact h
    | exact h.mints
    | exact h.mints.laid id i d
    | exact h.laid id i d
theorem Sane.lose (h : Sane k n) : Sane k n.lose.1 := by
  unfold Nod.lose
  split
  · exact h
  · dsimp only
    have h0 : Sane k ⟨n.id, n.up, n.t, n.pri, 0, 0, Hel.zero, false, Req.zero, false, 0, 0, false, n.dr, n.mi⟩ := ⟨h.id, h.pi, (fun h => by cases h), .inl rfl, fun h => absurd h (by show ¬ (0 : Int) = 4; decide)⟩
    split
    · exact h0.mints
    · exact h0
theorem Sane.wants (h : Sane k n) (hz : n.st ≠ 4) : n.want = 0 := by
  rcases h.w0 with h | h
  · exact h
  · exact absurd h.1 hz
theorem Sane.begins (h : Sane k n) (hz : n.st = 0) (s : Int) : Sane k (n.begins s).1 := by
  have hw := h.wants (by rw [hz]; decide)
  refine ⟨h.id, h.pi, fun ha => ?_, .inl hw, fun h4 => absurd h4 (by show ¬ (1 : Int) = 4; decide)⟩
  have := (h.ask ha).1
  rw [hz] at this
  rcases this with e | e <;> cases e
theorem nx_in (h : Whole N t) {j : Nat} (hj : nx t.m 0 = some j) : (j : Int) < t.b.n := by
  obtain ⟨⟨_, hb⟩, h32, _⟩ := nx_some.1 hj
  have := h.mr
  rw [h.bn]
  unfold mrightB at this
  simp only [Bool.and_eq_true, decide_eq_true_eq] at this
  have h2 := this.2
  rw [Int.toNat_natCast] at h2
  have := Nat.ge_two_pow_of_testBit hb
  have h3 : 2 ^ j < 2 ^ N := by
    have hp : 0 < 2 ^ N := Nat.two_pow_pos N
    omega
  have := (Nat.pow_lt_pow_iff_right (a := 2) (by decide)).1 h3
  omega
theorem Sane.seek (hid : n.id = k) (hp : n.t.b.i = true → n.pri = false) (ha : n.ask = false) (h0 : n.want = 0) (hw : n.up = true → Whole N n.t) (hu : n.up = true) (h4 : n.st = 4) : Sane k n.seek.1 := by
  have hpp : n.pri = true → n.t.b.i = false := fun e => by
    cases hi : n.t.b.i with
    | false => rfl
    | true => rw [hp hi] at e; cases e
  unfold Nod.seek
  split
  · next hc =>
    have hi : n.t.b.i = false := by
      rcases hc with h | h
      · exact h
      · exact absurd h0 h
    exact ⟨hid, hpp, (fun h => by rw [ha] at h; cases h), .inl h0, fun _ h => by rw [hi] at h; cases h⟩
  · next hc =>
    have hi : n.t.b.i = true := by
      cases hi : n.t.b.i with
      | true => rfl
      | false => exact absurd (.inl hi) hc
    split
    · next j hj =>
      have := nx_in (hw hu) hj
      exact ⟨hid, hpp, (fun h => by rw [show n.ask = true from h] at ha; cases ha), .inr ⟨h4, hi, by show 1 ≤ (j : Int) + 1; omega, by show (j : Int) + 1 ≤ n.t.b.n; omega⟩, fun _ _ => by show ((j : Int) + 1) ≠ 0; omega⟩
    · next hj =>
      dsimp only
      generalize hb : Sup.retired ⟨n.t.b.n, n.peer.c, n.peer.b, n.peer.o, n.peer.p, false, false, false⟩ = b
      have hbi : b.i = false := by rw [← hb]; rfl
      cases hk : (n.commit b).2 with
      | true =>
        have e := commit_tb hk
        obtain ⟨e1, e2, e3, e4, e5, _⟩ := keep_same (n := n) (r := n.t.commit b) hk
        have f1 : (n.commit b).1.id = n.id := e1
        have f2 : (n.commit b).1.pri = n.pri := e2
        have f3 : (n.commit b).1.ask = n.ask := e3
        have f4 : (n.commit b).1.st = n.st := e4
        have f5 : (n.commit b).1.want = n.want := e5
        exact ⟨f1.trans hid, fun _ => by rw [e]; exact hbi, (fun h => by rw [f3, ha] at h; cases h), .inl (f5.trans h0), fun _ h => by rw [e, hbi] at h; cases h⟩
      | false =>
        have e : (n.commit b).1 = Nod.down { n with t := (n.t.commit b).1 } := by
          unfold Nod.commit Nod.keep at hk ⊢
          split at hk
          · cases hk
          · next h => rw [if_neg h]
        rw [e, ← hid]
        exact sane_fresh _ _ _ _ _
theorem Sane.got (h : Sane k n) (hn : NOk N q n) (hu : n.up = true) (h4 : n.st = 4) (i : Int) (d : ByteArray) : Sane k (n.got i d).1 := by
  have hask : n.ask = false := by
    cases e : n.ask with
    | false => rfl
    | true => have := (h.ask e).1; rw [h4] at this; rcases this with e | e <;> cases e
  unfold Nod.got
  split
  · have h1 : Sane k (n.keep (n.t.put i d)).1 := h.keepB (put_b _ _ _)
    have n1 := hn.keep (goes_put (hn.live hu) i d)
    dsimp only
    split
    · next k1 =>
      have u1 := (keep_to k1).trans hu
      have h2 := h1.wipe i
      have n2 := n1.wipe u1 i
      obtain ⟨a1, a2, a3, a4, a5, _⟩ := keep_same k1
      split
      · next k2 =>
        have u2 := (keep_to k2).trans u1
        obtain ⟨b1, b2, b3, b4, b5, _⟩ := keep_same (n := (n.keep (n.t.put i d)).1) k2
        have c3 : ((n.keep (n.t.put i d)).1.wipe i).1.ask = false := b3.trans (a3.trans hask)
        have c4 : ((n.keep (n.t.put i d)).1.wipe i).1.st = 4 := b4.trans (a4.trans h4)
        refine Sane.seek (n := { ((n.keep (n.t.put i d)).1.wipe i).1 with want := 0 }) (N := N) h2.id (fun hi => ?_) c3 rfl (fun hu => n2.live hu) u2 c4
        cases e : ((n.keep (n.t.put i d)).1.wipe i).1.pri with
        | false => rfl
        | true =>
          have h7 := h2.pi e
          have hi : ((n.keep (n.t.put i d)).1.wipe i).1.t.b.i = true := hi
          rw [h7] at hi
          cases hi
      · exact h2
    · exact h1
  · exact h
theorem Sane.met (h : Sane k n) (hk : k = 0 ∨ k = 1) (hn : NOk N q n) (hu : n.up = true) (h1 : n.st = 1) {x : Hel} (hx : x.wide) : Sane k (n.met x).1 := by
  have hask : n.ask = false := by
    cases e : n.ask with
    | false => rfl
    | true => have := (h.ask e).1; rw [h1] at this; rcases this with e | e <;> cases e
  have hwant := h.wants (by rw [h1]; decide)
  unfold Nod.met
  split
  · exact h
  next h4 =>
  split
  · dsimp only
    have key : Sane k (n.commit { n.t.b.retired with r := n.pri }).1 := h.commit rfl rfl
    split
    · next hk =>
      obtain ⟨e1, e2, e3, e4, e5, _⟩ := keep_same (n := n) (r := n.t.commit { n.t.b.retired with r := n.pri }) hk
      have f3 : (n.commit { n.t.b.retired with r := n.pri }).1.ask = n.ask := e3
      have f5 : (n.commit { n.t.b.retired with r := n.pri }).1.want = n.want := e5
      exact ⟨key.id, key.pi, (fun h => by rw [show (n.commit { n.t.b.retired with r := n.pri }).1.ask = true from h] at f3; rw [hask] at f3; cases f3), .inl (f5.trans hwant), fun h => absurd h (by show ¬ (2 : Int) = 4; decide)⟩
    · exact key
  next hk1 =>
  dsimp only
  have key : Sane k (n.keep (n.t.join (n.verB x))).1 := h.keepB (join_b _ _)
  have n1 := hn.keep (goes_join (hn.live hu) (n.verB x))
  split
  · next k1 =>
    have u1 := (keep_to k1).trans hu
    obtain ⟨e1, e2, e3, e4, e5, _⟩ := keep_same k1
    split
    · exact ⟨key.id, key.pi, (fun h => by rw [show (n.keep (n.t.join (n.verB x))).1.ask = true from h] at e3; rw [hask] at e3; cases e3), .inl (e5.trans hwant), fun h => absurd h (by show ¬ (3 : Int) = 4; decide)⟩
    · next hs =>
      have hpri : n.pri = false := by
        have hsf := dec_safe (n.first x) (n.second x)
        rcases hsf with ⟨_, e | e⟩ | ⟨_, _, hh⟩
        · exact absurd e hk1
        · exact absurd e h4
        · have hid := h.id
          rcases hk with rfl | rfl
          · have ef : n.first x = n.own := by unfold Nod.first; rw [if_neg (by rw [hid]; decide)]
            rcases hh with ⟨e, _⟩ | ⟨_, sp⟩
            · exact absurd (show n.verS x = n.id by rw [hid]; exact e) hs
            · rw [ef] at sp
              exact sp.1
          · have es : n.second x = n.own := by unfold Nod.second; rw [if_pos hid]
            rcases hh with ⟨_, sp⟩ | ⟨e, _⟩
            · rw [es] at sp
              exact sp.1
            · exact absurd (show n.verS x = n.id by rw [hid]; exact e) hs
      generalize (n.keep (n.t.join (n.verB x))).1 = m at *
      cases hk2 : (m.commit { n.t.b with i := true, r := false, b := x.c }).2 with
      | true =>
        rw [if_pos rfl]
        have eb := commit_tb hk2
        obtain ⟨g1, g2, g3, g4, g5, g6⟩ := keep_same (n := m) (r := m.t.commit { n.t.b with i := true, r := false, b := x.c }) hk2
        have c1 : (m.commit { n.t.b with i := true, r := false, b := x.c }).1.id = m.id := g1
        have c2 : (m.commit { n.t.b with i := true, r := false, b := x.c }).1.pri = m.pri := g2
        have c3 : (m.commit { n.t.b with i := true, r := false, b := x.c }).1.ask = m.ask := g3
        have c5 : (m.commit { n.t.b with i := true, r := false, b := x.c }).1.want = m.want := g5
        have c6 : (m.commit { n.t.b with i := true, r := false, b := x.c }).1.up = m.up := g6
        have u2 := c6.trans u1
        have hw2 : Whole N (m.commit { n.t.b with i := true, r := false, b := x.c }).1.t := (n1.commit u1 (b := { n.t.b with i := true, r := false, b := x.c }) ⟨(hn.bw hu).1, hx.1, (hn.bw hu).2.2.1, (hn.bw hu).2.2.2⟩).live u2
        exact Sane.seek (n := { (m.commit { n.t.b with i := true, r := false, b := x.c }).1 with st := 4, ppri := x.q, peer := x }) (N := N) (c1.trans key.id) (fun _ => c2.trans (e2.trans hpri)) (c3.trans (e3.trans hask)) (c5.trans (e5.trans hwant)) (fun _ => hw2) u2 rfl
      | false =>
        rw [if_neg (by decide)]
        have e : (m.commit { n.t.b with i := true, r := false, b := x.c }).1 = Nod.down { m with t := (m.t.commit { n.t.b with i := true, r := false, b := x.c }).1 } := by
          unfold Nod.commit Nod.keep at hk2 ⊢
          split at hk2
          · cases hk2
          · next h => rw [if_neg h]
        rw [e, ← key.id]
        exact sane_fresh _ _ _ _ _
  · exact key
theorem Sane.roles (h : Sane k n) (c : Int) (hc : c ≠ 10 → c ≠ 12 → c ≠ 13 → n.ask = true) : Sane k (n.roles c).1 := by
  have key : Sane k (n.commit { n.t.b with r := true }).1 := h.commit rfl rfl
  unfold Nod.roles
  split
  · split
    · exact h
    · exact h.as
  next h10 =>
  split
  · exact ⟨h.id, h.pi, (fun h => by cases h), h.w0, h.w1⟩
  next h12 =>
  split
  · exact h.as
  next h13 =>
  have hi := (h.ask (hc h10 h12 h13)).2
  dsimp only
  split
  · next hk =>
    refine ⟨key.id, fun _ => ?_, (fun h => by cases h), key.w0, key.w1⟩
    show (n.commit { n.t.b with r := true }).1.t.b.i = false
    rw [commit_tb hk]
    exact hi
  · exact key
theorem Sane.ended (h : Sane k n) (h3 : n.st = 3) : Sane k n.ended.1 := by
  have key : Sane k (n.commit { n.t.b.retired with r := n.pri }).1 := h.commit rfl rfl
  unfold Nod.ended
  dsimp only
  split
  · next hk =>
    obtain ⟨e1, e2, e3, e4, e5, _⟩ := keep_same (n := n) (r := n.t.commit { n.t.b.retired with r := n.pri }) hk
    have f5 : (n.commit { n.t.b.retired with r := n.pri }).1.want = n.want := e5
    exact ⟨key.id, key.pi, fun h => ⟨.inl rfl, (key.ask h).2⟩, .inl (f5.trans (h.wants (by rw [h3]; decide))), fun h => absurd h (by show ¬ (2 : Int) = 4; decide)⟩
  · exact key
theorem Sane.done (h : Sane k n) (h4 : n.st = 4) (hi : n.t.b.i = false) : Sane k n.done := by
  refine ⟨h.id, h.pi, fun ha => ?_, ?_, fun h => absurd h (by show ¬ (2 : Int) = 4; decide)⟩
  · have := (h.ask ha).1
    rw [h4] at this
    rcases this with e | e <;> cases e
  · rcases h.w0 with h | ⟨_, h, _⟩
    · exact .inl h
    · rw [hi] at h; cases h
theorem fits_is {p : Pkt} (h : n.fits p = true) : (p.k = 1 → n.st = 1) ∧ (p.k = 6 → n.st = 4) ∧ (p.k = 8 → n.st = 3) ∧ (p.k = 9 → n.st = 4 ∧ n.t.b.i = false) ∧ (p.k = 11 ∨ p.k = 12 → n.ask = true) ∧ (1 ≤ p.k ∧ p.k ≤ 13) := by
  unfold Nod.fits at h
  split at h
  · cases h
  next h0 =>
  split at h
  · next e => exact ⟨fun _ => by simpa using h, by omega, by omega, by omega, by omega, by omega⟩
  split at h
  · exact ⟨by omega, by omega, by omega, by omega, by omega, by omega⟩
  split at h
  · exact ⟨by omega, by omega, by omega, by omega, by omega, by omega⟩
  split at h
  · exact ⟨by omega, by omega, by omega, by omega, by omega, by omega⟩
  split at h
  · exact ⟨by omega, by omega, fun _ => by simpa using h, by omega, by omega, by omega⟩
  split at h
  · exact ⟨by omega, fun _ => by simpa using h, by omega, by omega, by omega, by omega⟩
  split at h
  · exact ⟨by omega, by omega, by omega, fun _ => by simpa using h, by omega, by omega⟩
  split at h
  · exact ⟨by omega, by omega, by omega, by omega, by omega, by omega⟩
  split at h
  · exact ⟨by omega, by omega, by omega, by omega, fun _ => by simp at h; exact h.1, by omega⟩
  · cases h
theorem Sane.takes (h : Sane k n) (hk : k = 0 ∨ k = 1) (hn : NOk N q n) (hu : n.up = true) {p : Pkt} (hp : p.h.wide) (hf : n.fits p = true) : Sane k (n.takes p).1 := by
  obtain ⟨f1, f6, f8, f9, f11, fr⟩ := fits_is hf
  unfold Nod.takes
  split
  · next e => exact h.met hk hn hu (f1 e) hp
  split
  · exact h.lay _ _
  split
  · unfold Nod.acked
    split
    · exact Sane.wipe (n := { n with rq := Req.zero }) h.as _
    · exact h
  split
  · exact h.wipe _
  split
  · exact h
  split
  · next e => exact h.got hn hu (f6 e) _ _
  split
  · unfold Nod.copied
    split
    · exact h
    · exact h.wipe _
  split
  · next e => exact h.ended (f8 e)
  split
  · next e => exact h.done (f9 e).1 (f9 e).2
  · next e1 e2 e3 e4 e5 e6 e7 e8 e9 =>
    refine h.roles _ fun h10 h12 h13 => f11 ?_
    omega
theorem Sane.receive (h : Sane k n) (hk : k = 0 ∨ k = 1) (hn : NOk N q n) (b : ByteArray) : Sane k (n.receive b).1 := by
  rcases receive_cases n b with e | ⟨hu, _, _, hf, e⟩
  · rw [e]; exact h
  · rw [e]; exact h.takes hk hn hu (read_wide _ _) hf
theorem Sane.attach (h : Sane k n) (hn : NOk N q n) (l : List Bool) : Sane k (n.attach l).1 := by
  unfold Nod.attach
  split
  · exact h
  · obtain ⟨t', hw, hs, hc, _, he, ha⟩ := kept_again hn.fine l
    have e : n.revive l = t'.s := hs.symm
    rw [e, if_pos he, ← h.id]
    exact sane_fresh _ _ _ _ _
theorem sane_keeps (N : Nat) {k : Int} (hk : k = 0 ∨ k = 1) : KeepsN N (Sane k) where
  promote := fun _ id _ p => p.promote id
  demote := fun _ id _ p => p.demote id
  discard := fun _ id _ p => p.discard id
  write := fun _ id i d _ p => p.write id i d
  lose := fun _ _ p _ => p.lose
  begins := fun _ s _ p _ hz _ => p.begins hz s
  receive := fun _ b h p => p.receive hk h.1.choose_spec b
  down := fun _ _ p => p.down
  attach := fun _ l h p => p.attach h.1.choose_spec l
  fuse := fun _ _ _ p _ _ _ => p.as
  draw := fun _ _ _ p _ _ => p.as
def PS (x : Bool) (n : Nod) : Prop := P1 n ∧ Sane (if x = true then 0 else 1) n
theorem ps_keeps (N : Nat) (x : Bool) : KeepsN N (PS x) := by
  have hk : (if x = true then (0 : Int) else 1) = 0 ∨ (if x = true then (0 : Int) else 1) = 1 := by cases x <;> simp
  have a := p1_keeps N
  have b := sane_keeps N hk
  exact ⟨fun n id h p => ⟨a.promote n id h p.1, b.promote n id h p.2⟩, fun n id h p => ⟨a.demote n id h p.1, b.demote n id h p.2⟩, fun n id h p => ⟨a.discard n id h p.1, b.discard n id h p.2⟩, fun n id i d h p => ⟨a.write n id i d h p.1, b.write n id i d h p.2⟩, fun n h p hu => ⟨a.lose n h p.1 hu, b.lose n h p.2 hu⟩, fun n s h p hu hz hs => ⟨a.begins n s h p.1 hu hz hs, b.begins n s h p.2 hu hz hs⟩, fun n c h p => ⟨a.receive n c h p.1, b.receive n c h p.2⟩, fun n h p => ⟨a.down n h p.1, b.down n h p.2⟩, fun n l h p => ⟨a.attach n l h p.1, b.attach n l h p.2⟩, fun n f h p hu h0 h1 => ⟨a.fuse n f h p.1 hu h0 h1, b.fuse n f h p.2 hu h0 h1⟩, fun n g h p hg hl => ⟨a.draw n g h p.1 hg hl, b.draw n g h p.2 hg hl⟩⟩
theorem new_ci {N : Nat} (h1 : 1 ≤ N) (h2 : N ≤ 32) : CI N PS (newC N) := by
  have hc := new_ok h1 h2
  have hs := sok_new N
  have ht : Tidy (newS N) := tidy_nil (whole_new h1 h2) rfl
  exact ⟨⟨⟨⟨0, hc.a⟩, hs.1⟩, ⟨⟨0, hc.b⟩, hs.2⟩, hc.s, ⟨fun _ => ht, sane_fresh _ _ _ _ _⟩, ⟨fun _ => ht, sane_fresh _ _ _ _ _⟩⟩, fun _ => ⟨rfl, rfl⟩⟩
theorem reach_ci {N : Nat} (h1 : 1 ≤ N) (h2 : N ≤ 32) (l : List Evt) (hw : ∀ v ∈ l, v.wide) : CI N PS (reachC N l) := CI.play (ps_keeps N) l (new_ci h1 h2) hw
end
end Go.Proofs.YtkjikigimmchlaaGreatDoor
namespace Go.Proofs.YtkjikigimmchlaaGreatDoor
open Go.RowKit PX
set_option maxRecDepth 100000
section
variable {w : World}
structure Cas (w : World) (b : Int) (A : Option Addr) (l : List Evt) : Prop where
  h0 : 0 ≤ b
  h1 : b < 256
  hw : ∀ v ∈ l, v.wide
  he : Evs w A l
def greatEv (l : List Evt) : Bool := decide ((60 : Int) < l.length) || l.any Evt.great
def caseN (b : Int) (l : List Evt) (s : Bool) : Nod := (reachC (blks b) l).nd (if s = true then 1 else 0)
theorem blks_le (b : Int) : 1 ≤ blks b ∧ blks b ≤ 32 := by unfold blks; omega
theorem small {l : List Evt} (h : greatEv l = false) : l.length ≤ 60 ∧ ∀ v ∈ l, (v.d.size : Int) ≤ 3000 := by
  unfold greatEv at h
  simp only [Bool.or_eq_false_iff, decide_eq_false_iff_not, List.any_eq_false] at h
  refine ⟨by omega, fun v hv => ?_⟩
  have := h.2 v hv
  unfold Evt.great at this
  simp at this
  omega
theorem case_ok {b : Int} {A : Option Addr} {l : List Evt} (h : Cas w b A l) (hg : greatEv l = false) (s : Bool) : NOk (blks b) 300 (caseN b l s) := by
  have h1 := COk.play l (new_ok (blks_le b).1 (blks_le b).2) h.hw
  exact (h1.nd _).mono (by have := (small hg).1; omega)
theorem NOk.xs {N q N2 q2 : Nat} {n m : Nod} {a b : Adr} (hn : NOk N q n) (hm : NOk N2 q2 m) (ha : NM w n a) (hb : NM w m b) (bb : Bool) (hbb : bb = true ↔ n = m) (hq : q ≤ 900 := by omega) (hq2 : q2 ≤ 900 := by omega) : Calls Tryz.prog 9 #[nodV n a, nodV m b] w fun e w' => e = .returned (.bool bb) ∧ Below w.heap.size w w' :=
  xsame ha hb (by have := (hn.fit hq).l64; omega) (by have := (hm.fit hq2).l64; omega) (by have := hn.len; omega) (by have := hm.len; omega) (by have := hn.dl; omega) (by have := hn.ml; omega) bb hbb
theorem case_ci {b : Int} {A : Option Addr} {l : List Evt} (h : Cas w b A l) : CI (blks b) PS (reachC (blks b) l) := reach_ci (blks_le b).1 (blks_le b).2 l h.hw
theorem case_ps {b : Int} {A : Option Addr} {l : List Evt} (h : Cas w b A l) (s : Bool) : P1 (caseN b l s) ∧ Sane (if s = true then 1 else 0) (caseN b l s) := by
  have hc := case_ci h
  unfold caseN
  cases s with
  | true => exact hc.pb
  | false => exact hc.pa
end
end Go.Proofs.YtkjikigimmchlaaGreatDoor
namespace Go.Proofs.YtkjikigimmchlaaGreatDoor
open Go.RowKit PX
set_option maxRecDepth 100000
def tyE (T : TypeId) : Bool := !(Nat.beq T 71) && tyL T
theorem tyE_L {T : TypeId} (h : tyE T = true) : tyL T = true := by
  unfold tyE at h
  rw [Bool.and_eq_true] at h
  exact h.2
theorem stE {K : World → Prop} (h : Stab tyL K) : Stab tyE K := fun w w' e k => h w w' ⟨e.size, fun j hj => (e.blk j hj).imp id fun ⟨T, c1, c2, h1, h2, h3⟩ => ⟨T, c1, c2, tyE_L h1, h2, h3⟩⟩ k
section
variable {w : World} {F : Value → S → World → Prop} {K : World → Prop} {t : Tree} {f : FuncId} {args : Array Value}
theorem base_belowE {u : World} (h : (⟨Tryz.prog, tyE, w, [], []⟩ : Cx).base u) : Below w.heap.size w u := But.below h
theorem run_vE {v : Value} (h : OK ⟨Tryz.prog, tyE, w, [], []⟩ (fun x _ u => Ending.returned x = .returned v ∧ Below w.heap.size w u) (tree ⟨Tryz.prog, tyE, w, [], []⟩ 0 f args.toList) fun _ => True) : Calls Tryz.prog f args w fun e w' => e = .returned v ∧ Below w.heap.size w w' := run_ok rfl (st_p _) trivial h
theorem e_r2E {v : Value} (x : Value) (hx : x = v) (hd : t.hd = .ret x := by kernel_rfl) : OK ⟨Tryz.prog, tyE, w, [], []⟩ (fun x _ u => Ending.returned x = .returned v ∧ Below w.heap.size w u) t K := t_ret x (fun _ _ hb _ => ⟨by rw [hx], base_belowE hb⟩) hd
theorem t_vE {v : Value} (hc : ∀ u, K u → Below w.heap.size w u → Calls Tryz.prog f args u fun e u' => e = .returned v ∧ Below u.heap.size u u') (h : OK ⟨Tryz.prog, tyE, w, [], []⟩ F (t.nv v) K) (hd : t.hd = .call (.fn f) args.toList := by kernel_rfl) : OK ⟨Tryz.prog, tyE, w, [], []⟩ F t K :=
  t_call (fun u hu hb => hc u hu (base_belowE hb)) (fun u e u' hu hb hr => ⟨v, fun _ => True, hr.1, hr.2, st_p _, trivial, by simpa using h⟩) hd
theorem flat7 : ∀ (l : List Evt) (j i : Nat) (v : Evt) (y : Value), l[j]? = some v → (evC v none 0)[i]? = some y → (l.flatMap fun v => evC v none 0)[j * 7 + i]? = some y
  | [], j, _, _, _, h, _ => by simp at h
  | v0 :: l, 0, i, v, y, h, hi => by
    simp only [List.getElem?_cons_zero, Option.some.injEq] at h
    subst h
    rw [List.flatMap_cons, Nat.zero_mul, Nat.zero_add, List.getElem?_append_left (List.getElem?_eq_some_iff.1 hi).1]
    exact hi
  | v0 :: l, j + 1, i, v, y, h, hi => by
    rw [List.flatMap_cons, List.getElem?_append_right (by show 7 ≤ _; omega), show (j + 1) * 7 + i - (evC v0 none 0).length = j * 7 + i by show _ - 7 = _; omega]
    exact flat7 l j i v y (by simpa using h) hi
theorem evs_box {u : World} {r : Nat} {l : List Evt} (h : BoxO u r 71 (l.flatMap fun v => evC v none 0)) (hk : ∀ v ∈ l, v.keeps = []) : Evs u (some ⟨r, 0, none⟩) l := fun j v hj => by
  have hv := hk v (List.mem_of_getElem? hj)
  refine ⟨_, none, 0, rfl, h.lt, by rw [hv]; exact es_nil _ _ _ _, by rw [hv]; exact Nat.zero_le _, fun i y hy => ?_⟩
  rw [Addr.add_mid, Addr.add_mid, Nat.zero_add, BoxO.cell h]
  exact flat7 l j i v y hj hy
theorem t_reachE (l : List Evt) (b : Int) (n : Nat) (cs : List Value) (hcs : cs = l.flatMap fun v => evC v none 0) (hn : n = l.length) (h0 : 0 ≤ b) (h1 : b < 256) (hl : l.length ≤ 60) (hw : ∀ v ∈ l, (v.wide ∧ (v.d.size : Int) ≤ 3000) ∧ v.keeps = []) (h : ∀ r x, OK ⟨Tryz.prog, tyE, w, [], []⟩ F ((t.nr r).nv (cluV (reachC (blks b) l) x)) fun u => (K u ∧ BoxO u r 71 cs) ∧ CM u (reachC (blks b) l) x)
    (hf : t.hd = .fresh 71 cs := by kernel_rfl) (hd : ∀ r, (t.nr r).hd = .call (.fn 10) [.int .u8 b, .slice (some ⟨r, 0, none⟩) n n] := by intro r; kernel_rfl) : OK ⟨Tryz.prog, tyE, w, [], []⟩ F t K := by
  subst hcs; subst hn
  refine t_fresh 71 _ (fun r hr => ?_) (by kernel_rfl) hf
  refine t_call (args := #[.int .u8 b, .slice (some ⟨r, 0, none⟩) l.length l.length]) (fun u hu _ => xreach h0 h1 (some ⟨r, 0, none⟩) l l.length hl (fun v hv => (hw v hv).1) (evs_box hu.2 fun v hv => (hw v hv).2)) ?_ (hd r)
  rintro u e u' hu _ ⟨x, rfl, hc, hb⟩
  exact ⟨_, fun u => CM u (reachC (blks b) l) x, rfl, hb, stE (st_cm _ _), hc, h r x⟩
end
theorem o_reads {u : World} {ad : Addr} {k : Nat} {x : Ou} (h : OM u (some ad) k [x]) : Reads Tryz.prog u 59 ad (ouV x) := by
  obtain ⟨a, e, hr⟩ := om_reads h (x := x) (j := 0) rfl
  injection e with e
  subst e
  exact hr u (Below.refl _ _)
theorem eql_ouS (a b : Operand) (x y : Ou) (w : World) : (do Go.eqGuard .eql 59 a b (ouV x) (ouV y); Go.binOp .eql 59 (ouV x) (ouV y) : Sem Value).run Tryz.prog w = .ok (.bool (eqO x y)) w := by
  simp [go_sem, eql_ou]
theorem o_field {u : World} {A : Option Addr} {ad : Addr} {k : Nat} {l : List Ou} {x : Ou} (h : OM u A k (x :: l)) (hA : A = some ad) : u.cell? ad = some (.int .i64 x.k) ∧ u.cell? ⟨ad.block, ad.off + 1, none⟩ = some (.int .i64 x.n) ∧ u.cell? ⟨ad.block, ad.off + 2, none⟩ = some (.int .i64 x.id) ∧ u.cell? ⟨ad.block, ad.off + 3, none⟩ = some (.int .i64 x.e) ∧ u.cell? ⟨ad.block, ad.off + 4, none⟩ = some (.string x.d) := by
  obtain ⟨a, e, _, h0, h1, h2, h3, h4⟩ := h.o 0 x rfl
  rw [hA] at e
  injection e with e
  subst e
  exact ⟨h0, h1, h2, h3, h4⟩
end Go.Proofs.YtkjikigimmchlaaGreatDoor
