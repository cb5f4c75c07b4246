/- Nodes plainly: what an up node's cache may hold: masks alone, each with all that is marked; what a call leaves that its disk doesn't survive. No program in it. -/
import Derived.Test.YtabenngcmpjlhaaGreatDoorSL
namespace Go.Proofs.YtabenngcmpjlhaaGreatDoor
open Go.RowKit
def Did (t : Sto) (r : Sto × Int) (y : Wr) : Prop :=
  (r.1.s = t.s ∧ r.1.c = t.c ∧ (r.2 = 0 → r.1 = t)) ∨ (r.2 ≠ 0 ∧ r.1.s = t.s ∧ r.1.c = t.c ++ [y]) ∨ (r.2 = 0 ∧ r.1.s = layL t.s (t.c ++ [y]) ∧ r.1.c = [])
theorem did_flush {t : Sto} {y : Wr} {a : Ans} (b : Sup) (m : Nat) (ha : a = flushW t.s t.c t.f y) : Did t (t.on a b m, a.e) y := by
  subst ha
  unfold flushW
  split
  · exact .inl ⟨rfl, rfl, fun h => by cases h⟩
  split
  · exact .inr (.inl ⟨by show (6 : Int) ≠ 0; decide, rfl, rfl⟩)
  · exact .inr (.inr ⟨rfl, rfl, rfl⟩)
section
variable {N : Nat} {t : Sto}
theorem did_commit (h : Whole N t) (b : Sup) : Did t (t.commit b) (0, b.bytes) := by
  unfold Sto.commit
  by_cases hb : b.same t.b = true
  · rw [if_pos hb]; exact .inl ⟨rfl, rfl, fun _ => rfl⟩
  rw [if_neg hb]
  by_cases hq : ((((t.s.length : Int) - 2 == b.n) && b.right) = true)
  · have e : commitD t.s t.c t.f t.x b = flushW t.s t.c t.f (0, b.bytes) := by
      unfold commitD flushW
      rw [if_pos hq, h.live, if_neg (by simp)]
    exact did_flush _ _ e
  · have e : commitD t.s t.c t.f t.x b = ⟨t.s, t.c, t.f, false, 1⟩ := by
      unfold commitD
      rw [if_neg hq, h.live]
    rw [e]
    exact .inl ⟨rfl, rfl, fun h => by cases h⟩
theorem did_save (h : Whole N t) (k : Nat) : Did t (t.save k) (1, bytesM k) := by
  unfold Sto.save
  by_cases hb : k = t.m
  · rw [if_pos hb]; exact .inl ⟨rfl, rfl, fun _ => rfl⟩
  rw [if_neg hb]
  by_cases hq : mrightB k ((t.s.length : Int) - 2) = true
  · have e : saveB t.s t.c t.f t.x k = flushW t.s t.c t.f (1, bytesM k) := by
      unfold saveB flushW
      rw [if_pos hq, h.live, if_neg (by simp)]
    exact did_flush _ _ e
  · have e : saveB t.s t.c t.f t.x k = ⟨t.s, t.c, t.f, false, 1⟩ := by
      unfold saveB
      rw [if_neg hq, h.live]
    rw [e]
    exact .inl ⟨rfl, rfl, fun h => by cases h⟩
theorem did_put (h : Whole N t) (i : Int) (d : ByteArray) : Did t (t.put i d) (i + 2, d) := by
  unfold Sto.put putA
  rw [h.live]
  repeat' split
  all_goals first
    | exact .inr (.inr ⟨rfl, rfl, rfl⟩)
    | exact .inr (.inl ⟨by show (6 : Int) ≠ 0; decide, rfl, rfl⟩)
    | exact .inl ⟨rfl, rfl, fun h => by cases h⟩
    | (next h => cases h)
theorem put_b (t : Sto) (i : Int) (d : ByteArray) : (t.put i d).1.b = t.b := by
  show (if _ then t.b else t.b) = t.b
  rw [ite_self]
theorem note_done {k : Nat} (h : (t.note k).2 = 0) : (t.note k).1.m = k ∧ (t.note k).1.b = t.b ∧ (t.note k).1.s = t.s ∧ ((t.note k).1 = t ∨ (t.note k).1.c = t.c ++ [(1, bytesM k)]) := by
  unfold Sto.note at h ⊢
  split at h
  · next e => rw [if_pos e]; exact ⟨e.symm, rfl, rfl, .inl rfl⟩
  · next e =>
    rw [if_neg e]
    dsimp only at h ⊢
    unfold noteB at h ⊢
    split at h
    · next h1 =>
      split at h
      · cases h
      · next h2 =>
        split at h
        · cases h
        · next h3 =>
          rw [if_pos h1, if_neg h2, if_neg h3]
          exact ⟨rfl, rfl, rfl, .inr rfl⟩
    · cases h
def Over (m : Nat) (d : ByteArray) : Prop := ∃ k, k < 4294967296 ∧ m ||| k = k ∧ d = bytesM k
structure Tidy (t : Sto) : Prop where
  c1 : ∀ w ∈ t.c, w.1 = 1 ∧ Over t.m w.2
  s1 : Over t.m (t.s.getD 1 e0)
theorem Over.sub {m k : Nat} {d : ByteArray} (h : Over m d) (hk : k ||| m = m) : Over k d := by
  obtain ⟨j, h1, h2, h3⟩ := h
  exact ⟨j, h1, by rw [← h2, ← Nat.or_assoc, hk], h3⟩
theorem tidy_nil (h : Whole N t) (hc : t.c = []) : Tidy t := by
  refine ⟨by rw [hc]; simp, t.m, mask_small h.mr, Nat.or_self _, ?_⟩
  have := h.h1
  rw [hc] at this
  exact this
theorem tidy_did {r : Sto × Int} {y : Wr} (hd : Did t r y) (ht : Tidy t) (hw : Whole N r.1) (he : r.2 = 0) : Tidy r.1 := by
  rcases hd with ⟨_, _, h⟩ | ⟨h, _⟩ | ⟨_, _, h⟩
  · rw [h he]; exact ht
  · exact absurd he h
  · exact tidy_nil hw h
theorem tidy_commit (h : Whole N t) (ht : Tidy t) {b : Sup} (hb : b.wide) (he : (t.commit b).2 = 0) : Tidy (t.commit b).1 := tidy_did (did_commit h b) ht (goes_ok (n := { newN 1 0 with t := t }) (goes_commit h hb) he) he
theorem tidy_save (h : Whole N t) (ht : Tidy t) {k : Nat} (he : (t.save k).2 = 0) : Tidy (t.save k).1 := tidy_did (did_save h k) ht (goes_ok (n := { newN 1 0 with t := t }) (goes_save h k) he) he
theorem tidy_put (h : Whole N t) (ht : Tidy t) {i : Int} {d : ByteArray} (he : (t.put i d).2 = 0) : Tidy (t.put i d).1 := tidy_did (did_put h i d) ht (goes_ok (n := { newN 1 0 with t := t }) (goes_put h i d) he) he
theorem tidy_mark (h : Whole N t) (ht : Tidy t) {i : Int} (he : (t.mark i).2 = 0) : Tidy (t.mark i).1 := by
  unfold Sto.mark at he ⊢
  split at he
  · cases he
  · next ho => rw [if_neg ho]; exact tidy_save h ht he
theorem tidy_join (h : Whole N t) (ht : Tidy t) {k : Nat} (he : (t.join k).2 = 0) : Tidy (t.join k).1 := tidy_save h ht he
theorem tidy_wipe (h : Whole N t) (ht : Tidy t) {i : Int} (he : (t.wipe i).2 = 0) : Tidy (t.wipe i).1 := by
  unfold Sto.wipe at he ⊢
  split at he
  · cases he
  · next ho =>
    rw [if_neg ho]
    have hk : clrB t.m [i] ||| t.m = t.m := clr_or (mask_small h.mr) (Nat.or_self _)
    obtain ⟨h1, _, h2, h3⟩ := note_done he
    rcases h3 with h3 | h3
    · rw [h3]; exact ht
    · refine ⟨fun w hw => ?_, by rw [h1, h2]; exact ht.s1.sub hk⟩
      rw [h1]
      rw [h3] at hw
      rcases List.mem_append.1 hw with hw | hw
      · exact ⟨(ht.c1 w hw).1, (ht.c1 w hw).2.sub hk⟩
      · rw [List.mem_singleton] at hw
        subst hw
        refine ⟨rfl, _, ?_, Nat.or_self _, rfl⟩
        exact mask_small (right_clr h.fine.n1 h.fine.n32 h.mr)
end
def P1 (n : Nod) : Prop := n.up = true → Tidy n.t
section
variable {N q : Nat} {n : Nod}
theorem P1.keep {r : Sto × Int} (hr : r.2 = 0 → Tidy r.1) : P1 (n.keep r).1 := by
  unfold Nod.keep
  split
  · next h => exact fun _ => hr h
  · exact fun h => by cases h
theorem P1.commit (h : P1 n) (hu : n.up = true) (hn : NOk N q n) {b : Sup} (hb : b.wide) : P1 (n.commit b).1 := P1.keep (tidy_commit (hn.live hu) (h hu) hb)
theorem P1.as {m : Nod} (h : P1 n) (ht : m.t = n.t) (hu : m.up = n.up) : P1 m := fun e => by rw [ht]; exact h (by rw [← hu]; exact e)
theorem P1.wipe (h : P1 n) (hu : n.up = true) (hn : NOk N q n) (i : Int) : P1 (n.wipe i).1 := P1.keep (tidy_wipe (hn.live hu) (h hu))
theorem keep_to {r : Sto × Int} (hk : (n.keep r).2 = true) : (n.keep r).1.up = n.up := (keep_st hk).2
theorem P1.lay (h : P1 n) (hu : n.up = true) (hn : NOk N q n) (i : Int) (d : ByteArray) : P1 (n.lay i d).1 := by
  have h1 : P1 (n.keep (n.t.mark i)).1 := P1.keep (tidy_mark (hn.live hu) (h hu))
  unfold Nod.lay
  dsimp only
  split
  · next hk =>
    have hu2 := (keep_to hk).trans hu
    have hn2 := hn.keep (goes_mark (hn.live hu) i)
    exact P1.keep (tidy_put (hn2.live hu2) (h1 hu2))
  · exact h1
theorem P1.mints (h : P1 n) (hu : n.up = true) (hn : NOk N q n) : P1 n.mints.1 := by
  unfold Nod.mints
  split
  · exact h
  · next g r e =>
    dsimp only
    split
    · exact h.as rfl rfl
    · have hb : (n.t.b.minted g).wide := minted_wide (hn.bw hu) (hn.dr g (by rw [e]; simp))
      have key : P1 (Nod.commit { n with dr := r, mi := n.mi ++ [⟨g, n.t.b.c, n.id⟩] } (n.t.b.minted g)).1 := P1.keep (tidy_commit (hn.live hu) (h hu) hb)
      split
      · exact key.as rfl rfl
      · exact key
theorem P1.promote (h : P1 n) (hn : NOk N q n) (id : Int) : P1 (n.promote id).1 := by
  unfold Nod.promote
  by_cases hu : n.up = false
  · rw [if_pos hu]; exact h
  rw [if_neg hu]
  replace hu : n.up = true := by simpa using hu
  have key := h.commit hu hn (b := { n.t.b with r := true }) (hn.bw hu)
  dsimp only
  repeat' split
  all_goals first
    | exact h
    | exact h.as rfl rfl
    | exact key.as rfl rfl
    | exact key
theorem P1.demote (h : P1 n) (hn : NOk N q n) (id : Int) : P1 (n.demote id).1 := by
  unfold Nod.demote
  by_cases hu : n.up = false
  · rw [if_pos hu]; exact h
  rw [if_neg hu]
  replace hu : n.up = true := by simpa using hu
  have key := h.commit hu hn (b := { n.t.b with r := false }) (hn.bw hu)
  dsimp only
  repeat' split
  all_goals first
    | exact h
    | exact h.as rfl rfl
    | exact key.as rfl rfl
    | exact key
theorem P1.discard (h : P1 n) (hn : NOk N q n) (id : Int) : P1 (n.discard id).1 := by
  unfold Nod.discard
  by_cases hu : n.up = false
  · rw [if_pos hu]; exact h
  rw [if_neg hu]
  replace hu : n.up = true := by simpa using hu
  have key := h.commit hu hn (b := { n.t.b with d := true }) (hn.bw hu)
  dsimp only
  repeat' split
  all_goals first
    | exact h
    | exact key
theorem P1.laid (h : P1 n) (hu : n.up = true) (hn : NOk N q n) (id i : Int) (d : ByteArray) : P1 (n.laid id i d).1 := by
  have key := h.lay hu hn i d
  unfold Nod.laid
  dsimp only
  repeat' split
  all_goals first
    | exact key
    | exact key.as rfl rfl
theorem P1.write (h : P1 n) (hn : NOk N q n) (id i : Int) (d : ByteArray) : P1 (n.write id i d).1 := by
  unfold Nod.write
  split
  · next hb =>
    have hu := bad_up hb
    have hm := h.mints hu hn
    split
    · split
      · exact hm
      · next h6 =>
        split
        · exact hm.laid (mints_up hu h6) (hn.mints hu) id i d
        · exact hm
    · exact h.laid hu hn id i d
  · exact h
theorem P1.lose (h : P1 n) (hu : n.up = true) (hn : NOk N q n) : P1 n.lose.1 := by
  unfold Nod.lose
  split
  · exact h
  · dsimp only
    have h0 : P1 ⟨n.id, n.up, n.t, n.pri, 0, 0, Hel.zero, false, Req.zero, false, 0, 0, false, n.dr, n.mi⟩ := h.as rfl rfl
    have n0 : NOk N q ⟨n.id, n.up, n.t, n.pri, 0, 0, Hel.zero, false, Req.zero, false, 0, 0, false, n.dr, n.mi⟩ := hn.as rfl rfl b64_zero Hel.zero_wide rfl rfl
    split
    · exact h0.mints hu n0
    · exact h0
theorem P1.seek (h : P1 n) (hu : n.up = true) (hn : NOk N q n) : P1 n.seek.1 := by
  unfold Nod.seek
  split
  · exact h
  · split
    · exact h.as rfl rfl
    · exact h.commit hu hn (peer_wide hn.peer _)
theorem P1.got (h : P1 n) (hu : n.up = true) (hn : NOk N q n) (i : Int) (d : ByteArray) : P1 (n.got i d).1 := by
  unfold Nod.got
  split
  · have h1 : P1 (n.keep (n.t.put i d)).1 := P1.keep (tidy_put (hn.live hu) (h hu))
    have n1 := hn.keep (goes_put (hn.live hu) i d)
    dsimp only
    split
    · next k1 =>
      have u1 := (keep_to k1).trans hu
      have h2 := h1.wipe u1 n1 i
      have n2 := n1.wipe u1 i
      split
      · next k2 =>
        have u2 := (keep_to k2).trans u1
        exact P1.seek (n := { ((n.keep (n.t.put i d)).1.wipe i).1 with want := 0 }) (h2.as rfl rfl) u2 (n2.as rfl rfl n2.ses n2.peer rfl rfl)
      · exact h2
    · exact h1
  · exact h
theorem P1.met (h : P1 n) (hu : n.up = true) (hn : NOk N q n) {x : Hel} (hx : x.wide) : P1 (n.met x).1 := by
  unfold Nod.met
  split
  · exact h
  split
  · dsimp only
    have key := h.commit hu hn (b := { n.t.b.retired with r := n.pri }) (retired_wide (b := n.t.b) (hn.bw hu))
    split
    · exact key.as rfl rfl
    · exact key
  · dsimp only
    have key : P1 (n.keep (n.t.join (n.verB x))).1 := P1.keep (tidy_join (hn.live hu) (h hu))
    have n1 := hn.keep (goes_join (hn.live hu) (n.verB x))
    split
    · next k1 =>
      have u1 := (keep_to k1).trans hu
      split
      · exact key.as rfl rfl
      · have hw : ({ n.t.b with i := true, r := false, b := x.c } : Sup).wide := ⟨(hn.bw hu).1, hx.1, (hn.bw hu).2.2.1, (hn.bw hu).2.2.2⟩
        have key2 := key.commit u1 n1 hw
        have n2 := n1.commit u1 hw
        split
        · next k2 =>
          have u2 := (keep_to k2).trans u1
          exact P1.seek (n := { ((n.keep (n.t.join (n.verB x))).1.commit { n.t.b with i := true, r := false, b := x.c }).1 with st := 4, ppri := x.q, peer := x }) (key2.as rfl rfl) u2 (n2.as rfl rfl n2.ses hx rfl rfl)
        · exact key2
    · exact key
theorem P1.roles (h : P1 n) (hu : n.up = true) (hn : NOk N q n) (k : Int) : P1 (n.roles k).1 := by
  have key := h.commit hu hn (b := { n.t.b with r := true }) (hn.bw hu)
  unfold Nod.roles
  dsimp only
  repeat' split
  all_goals first
    | exact h
    | exact h.as rfl rfl
    | exact key.as rfl rfl
    | exact key
theorem P1.ended (h : P1 n) (hu : n.up = true) (hn : NOk N q n) : P1 n.ended.1 := by
  have key := h.commit hu hn (b := { n.t.b.retired with r := n.pri }) (retired_wide (b := n.t.b) (hn.bw hu))
  unfold Nod.ended
  dsimp only
  split
  · exact key.as rfl rfl
  · exact key
theorem P1.takes (h : P1 n) (hu : n.up = true) (hn : NOk N q n) {p : Pkt} (hp : p.h.wide) : P1 (n.takes p).1 := by
  unfold Nod.takes
  split
  · exact h.met hu hn hp
  split
  · exact h.lay hu hn _ _
  split
  · unfold Nod.acked
    split
    · exact P1.wipe (n := { n with rq := Req.zero }) (h.as rfl rfl) hu (hn.as rfl rfl hn.ses hn.peer rfl rfl) _
    · exact h
  split
  · exact h.wipe hu hn _
  split
  · exact h
  split
  · exact h.got hu hn _ _
  split
  · unfold Nod.copied
    split
    · exact h
    · exact h.wipe hu hn _
  split
  · exact h.ended hu hn
  split
  · exact h.as rfl rfl
  · exact h.roles hu hn _
theorem receive_cases (n : Nod) (b : ByteArray) : (n.receive b).1 = n ∨ n.up = true ∧ n.st ≠ 0 ∧ (readP b n.ses).2 = 0 ∧ n.fits (readP b n.ses).1 = true ∧ n.receive b = n.takes (readP b n.ses).1 := by
  unfold Nod.receive
  split
  · exact .inl rfl
  next hc =>
  split
  · exact .inl rfl
  split
  · exact .inl rfl
  next h1 =>
  refine .inr ⟨?_, fun e => hc (.inr e), ?_, ?_, rfl⟩
  · cases e : n.up with
    | true => rfl
    | false => exact absurd (.inl e) hc
  · cases e : decide ((readP b n.ses).2 = 0) with
    | true => exact of_decide_eq_true e
    | false => exact absurd (.inl (of_decide_eq_false e)) h1
  · cases e : n.fits (readP b n.ses).1 with
    | true => rfl
    | false => exact absurd (.inr e) h1
theorem P1.receive (h : P1 n) (hn : NOk N q n) (b : ByteArray) : P1 (n.receive b).1 := by
  rcases receive_cases n b with e | ⟨hu, _, _, _, e⟩
  · rw [e]; exact h
  · rw [e]; exact h.takes hu hn (read_wide _ _)
theorem P1.attach (h : P1 n) (hn : NOk N q n) (l : List Bool) : P1 (n.attach l).1 := by
  unfold Nod.attach
  split
  · exact h
  · obtain ⟨t', hw, hs, hc, _, he, ha⟩ := kept_again hn.fine l
    have e : n.revive l = t'.s := hs.symm
    rw [e, if_pos he, ha]
    exact fun _ => tidy_nil hw hc
theorem p1_keeps (N : Nat) : KeepsN N P1 where
  promote := fun _ id h p => p.promote h.1.choose_spec id
  demote := fun _ id h p => p.demote h.1.choose_spec id
  discard := fun _ id h p => p.discard h.1.choose_spec id
  write := fun _ id i d h p => p.write h.1.choose_spec id i d
  lose := fun _ h p hu => p.lose hu h.1.choose_spec
  begins := fun _ _ _ p _ _ _ => p.as rfl rfl
  receive := fun _ b h p => p.receive h.1.choose_spec b
  down := fun _ _ _ h => by cases h
  attach := fun _ l h p => p.attach h.1.choose_spec l
  fuse := fun _ _ _ p hu _ _ => fun _ => ⟨(p hu).c1, (p hu).s1⟩
  draw := fun _ _ _ p _ _ => p.as rfl rfl
end
end Go.Proofs.YtabenngcmpjlhaaGreatDoor
