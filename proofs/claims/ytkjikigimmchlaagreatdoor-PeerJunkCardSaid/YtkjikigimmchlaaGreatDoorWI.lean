/- Nodes plainly: what an up node's cache may hold: masks alone, each with all that is marked; what a call leaves that its disk doesn't survive. No program in it. -/
import Derived.Test.YtkjikigimmchlaaGreatDoorWX
import Derived.Test.YtkjikigimmchlaaGreatDoorX3
namespace Go.Proofs.YtkjikigimmchlaaGreatDoor
open Go.RowKit
def Ok (N : Nat) (n : Nod) : Prop := (∃ q, NOk N q n) ∧ SOk n
structure KeepsN (N : Nat) (P : Nod → Prop) : Prop where
  promote : ∀ n id, Ok N n → P n → P (n.promote id).1
  demote : ∀ n id, Ok N n → P n → P (n.demote id).1
  discard : ∀ n id, Ok N n → P n → P (n.discard id).1
  write : ∀ n id i d, Ok N n → P n → P (n.write id i d).1
  lose : ∀ n, Ok N n → P n → n.up = true → P n.lose.1
  begins : ∀ n s, Ok N n → P n → n.up = true → n.st = 0 → B64 s → P (n.begins s).1
  receive : ∀ n b, Ok N n → P n → P (n.receive b).1
  down : ∀ n, Ok N n → P n → P n.down
  attach : ∀ n l, Ok N n → P n → P (n.attach l).1
  fuse : ∀ n f, Ok N n → P n → n.up = true → 0 ≤ f → f ≤ 1000 → P { n with t := { n.t with f := f } }
  draw : ∀ n g, Ok N n → P n → B64 g → n.dr.length < 1000 → P { n with dr := n.dr ++ [g] }
section
variable {N : Nat} {n : Nod}
theorem Ok.promote (h : Ok N n) (id : Int) : Ok N (n.promote id).1 := ⟨⟨_, h.1.choose_spec.promote id⟩, h.2.promote id⟩
theorem Ok.demote (h : Ok N n) (id : Int) : Ok N (n.demote id).1 := ⟨⟨_, h.1.choose_spec.demote id⟩, h.2.demote id⟩
theorem Ok.discard (h : Ok N n) (id : Int) : Ok N (n.discard id).1 := ⟨⟨_, h.1.choose_spec.discard id⟩, h.2.discard id⟩
theorem Ok.write (h : Ok N n) (id i : Int) (d : ByteArray) : Ok N (n.write id i d).1 := ⟨⟨_, h.1.choose_spec.write id i d⟩, h.2.write id i d⟩
theorem Ok.lose (h : Ok N n) (hu : n.up = true) : Ok N n.lose.1 := ⟨⟨_, h.1.choose_spec.lose hu⟩, h.2.lose hu⟩
theorem Ok.begins (h : Ok N n) (hu : n.up = true) {s : Int} (hs : B64 s) : Ok N (n.begins s).1 := ⟨⟨_, h.1.choose_spec.begins hs⟩, SOk.of hu (by show (0 : Int) ≤ 1; decide) (by show (1 : Int) ≤ 4; decide)⟩
theorem Ok.receive (h : Ok N n) (b : ByteArray) : Ok N (n.receive b).1 := ⟨⟨_, h.1.choose_spec.receive b (read_wide _ _)⟩, h.2.receive b⟩
theorem Ok.down (h : Ok N n) : Ok N n.down := ⟨⟨_, h.1.choose_spec.down⟩, SOk.down n⟩
theorem Ok.attach (h : Ok N n) (l : List Bool) : Ok N (n.attach l).1 := ⟨⟨_, h.1.choose_spec.attach l⟩, h.2.attach l⟩
theorem Ok.fuse (h : Ok N n) {f : Int} (h0 : 0 ≤ f) (h1 : f ≤ 1000) : Ok N { n with t := { n.t with f := f } } := by
  obtain ⟨⟨q, hn⟩, hs⟩ := h
  exact ⟨⟨q, hn.fine, hn.len, h0, h1, fun hu => whole_arm (hn.live hu) h0, hn.ses, hn.peer, hn.dr, hn.mi, hn.dl, hn.ml⟩, hs.withT _⟩
theorem Ok.draw (h : Ok N n) {g : Int} (hg : B64 g) (hl : n.dr.length < 1000) : Ok N { n with dr := n.dr ++ [g] } := by
  obtain ⟨⟨q, hn⟩, hs⟩ := h
  refine ⟨⟨q, hn.fine, hn.len, hn.f0, hn.f1, hn.live, hn.ses, hn.peer, fun x hx => ?_, hn.mi, by rw [List.length_append]; show n.dr.length + 1 ≤ 1000; omega, hn.ml⟩, hs.s0, hs.s4, fun hu => by have := hs.dn hu; rw [this]; rfl⟩
  rcases List.mem_append.1 hx with hx | hx
  · exact hn.dr x hx
  · rw [List.mem_singleton] at hx
    rw [hx]
    exact hg
theorem SOk.zero (h : SOk n) (hu : n.up = false) : n.st = 0 := by rw [h.dn hu]; rfl
theorem keep_st0 (h : n.st = 0) (r : Sto × Int) : (n.keep r).1.st = 0 := by
  unfold Nod.keep
  split
  · exact h
  · rfl
theorem mints_st0 (h : n.st = 0) : n.mints.1.st = 0 := by
  unfold Nod.mints
  split
  · exact h
  · dsimp only
    split
    · exact h
    · next g r e hg =>
      split
      · exact keep_st0 (n := { n with dr := r, mi := n.mi ++ [⟨g, n.t.b.c, n.id⟩] }) h _
      · exact keep_st0 (n := { n with dr := r, mi := n.mi ++ [⟨g, n.t.b.c, n.id⟩] }) h _
theorem lose_st0 (n : Nod) : n.lose.1.st = 0 := by
  unfold Nod.lose
  split
  · next h => exact h
  · dsimp only
    split
    · exact mints_st0 rfl
    · rfl
theorem lay_st0 (h : n.st = 0) (i : Int) (d : ByteArray) : (n.lay i d).1.st = 0 := by
  unfold Nod.lay
  dsimp only
  split
  · exact keep_st0 (keep_st0 h _) _
  · exact keep_st0 h _
theorem laid_st0 (h : n.st = 0) (id i : Int) (d : ByteArray) : (n.laid id i d).1.st = 0 := by
  unfold Nod.laid
  dsimp only
  split
  · split
    · exact lay_st0 h i d
    · exact lay_st0 h i d
  · exact lay_st0 h i d
theorem write_st0 (h : n.st = 0) (id i : Int) (d : ByteArray) : (n.write id i d).1.st = 0 := by
  unfold Nod.write
  split
  · split
    · split
      · exact mints_st0 h
      split
      · exact laid_st0 (mints_st0 h) id i d
      · exact mints_st0 h
    · exact laid_st0 h id i d
  · exact h
theorem promote_st0 (h : n.st = 0) (id : Int) : (n.promote id).1.st = 0 := by
  unfold Nod.promote
  dsimp only
  repeat' split
  all_goals first
    | exact h
    | exact keep_st0 h _
theorem demote_st0 (h : n.st = 0) (id : Int) : (n.demote id).1.st = 0 := by
  unfold Nod.demote
  dsimp only
  repeat' split
  all_goals first
    | exact h
    | exact keep_st0 h _
theorem discard_st0 (h : n.st = 0) (id : Int) : (n.discard id).1.st = 0 := by
  unfold Nod.discard
  dsimp only
  repeat' split
  all_goals first
    | exact h
    | exact keep_st0 h _
theorem read_same (n : Nod) (id i : Int) : (n.read id i).1 = n := by
  unfold Nod.read
  repeat' split
  all_goals rfl
theorem receive_st0 (h : n.st = 0) (b : ByteArray) : n.receive b = (n, []) := by
  unfold Nod.receive
  rw [if_pos (.inr h)]
theorem attach_st0 (h : n.st = 0) (l : List Bool) : (n.attach l).1.st = 0 := by
  unfold Nod.attach
  split
  · exact h
  split
  · rfl
  · exact h
end
structure CJ (N : Nat) (P : Bool → Nod → Prop) (c : Clu) : Prop where
  a : Ok N c.a
  b : Ok N c.b
  s : B64 c.l.s
  pa : P true c.a
  pb : P false c.b
structure CI (N : Nat) (P : Bool → Nod → Prop) (c : Clu) : Prop extends CJ N P c where
  al : c.l.u = false → c.a.st = 0 ∧ c.b.st = 0
section
variable {N : Nat} {P : Bool → Nod → Prop} {c : Clu}
theorem CJ.nd (h : CJ N P c) (i : Int) : Ok N (c.nd i) ∧ P (decide (i = 0)) (c.nd i) := by
  unfold Clu.nd
  split
  · next e => rw [decide_eq_true e]; exact ⟨h.a, h.pa⟩
  · next e => rw [decide_eq_false e]; exact ⟨h.b, h.pb⟩
theorem CJ.setN (h : CJ N P c) (i : Int) {n : Nod} (hn : Ok N n) (hp : P (decide (i = 0)) n) : CJ N P (c.setN i n) := by
  unfold Clu.setN
  split
  · next e => rw [decide_eq_true e] at hp; exact ⟨hn, h.b, h.s, hp, h.pb⟩
  · next e => rw [decide_eq_false e] at hp; exact ⟨h.a, hn, h.s, h.pa, hp⟩
theorem CJ.setW (h : CJ N P c) (i : Int) (x : Bool) : CJ N P (c.setW i x) := by
  unfold Clu.setW
  split <;> exact ⟨h.a, h.b, h.s, h.pa, h.pb⟩
theorem CI.nd0 (h : CI N P c) (hu : c.l.u = false) (i : Int) : (c.nd i).st = 0 := by
  unfold Clu.nd
  split
  · exact (h.al hu).1
  · exact (h.al hu).2
theorem setW_al {i : Int} {x : Bool} (h : c.a.st = 0 ∧ c.b.st = 0) : (c.setW i x).a.st = 0 ∧ (c.setW i x).b.st = 0 := by
  unfold Clu.setW
  split <;> exact h
theorem setN_al {i : Int} {n : Nod} (h : c.a.st = 0 ∧ c.b.st = 0) (hn : n.st = 0) : (c.setN i n).a.st = 0 ∧ (c.setN i n).b.st = 0 := by
  unfold Clu.setN
  split
  · exact ⟨hn, h.2⟩
  · exact ⟨h.1, hn⟩
theorem CI.setW (h : CI N P c) (i : Int) (x : Bool) : CI N P (c.setW i x) := ⟨h.toCJ.setW i x, fun hu => setW_al (h.al (by rw [setW_l] at hu; exact hu))⟩
theorem CI.setN (h : CI N P c) (i : Int) {n : Nod} (hn : Ok N n) (hp : P (decide (i = 0)) n) (hz : c.l.u = false → n.st = 0) : CI N P (c.setN i n) := ⟨h.toCJ.setN i hn hp, fun hu => by rw [setN_l] at hu; exact setN_al (h.al hu) (hz hu)⟩
theorem loses_one (c : Clu) (i : Int) (out : List Ou) : ((c.loses i out).1.nd i).up = false ∧ (c.loses i out).1.nd i = c.nd i ∨ (c.loses i out).1.nd i = (c.nd i).lose.1 := by
  have h1 : ∀ (d : Clu) (n : Nod), (d.setN i n).nd i = n := fun d n => by unfold Clu.setN Clu.nd; split <;> rfl
  have h2 : ∀ (d : Clu) (x : Bool), (d.setW i x).nd i = d.nd i := fun d x => by by_cases e : i = 0 <;> simp [Clu.setW, Clu.nd, e]
  unfold Clu.loses
  split
  · next hu => exact .inl ⟨hu, rfl⟩
  · dsimp only
    split
    · exact .inr (h1 _ _)
    · exact .inr (by rw [h2, h1])
theorem loses_two (c : Clu) {i j : Int} (hij : (i = 0) ≠ (j = 0)) (out : List Ou) : (c.loses i out).1.nd j = c.nd j := by
  have h1 : ∀ (d : Clu) (n : Nod), (d.setN i n).nd j = d.nd j := fun d n => by
    by_cases e : i = 0 <;> by_cases e2 : j = 0
    · exact absurd (by rw [eq_true e, eq_true e2]) hij
    · simp [Clu.setN, Clu.nd, e, e2]
    · simp [Clu.setN, Clu.nd, e, e2]
    · exact absurd (by rw [eq_false e, eq_false e2]) hij
  have h2 : ∀ (d : Clu) (x : Bool), (d.setW i x).nd j = d.nd j := fun d x => by by_cases e : i = 0 <;> by_cases e2 : j = 0 <;> simp [Clu.setW, Clu.nd, e, e2]
  unfold Clu.loses
  split
  · rfl
  · dsimp only
    split
    · exact h1 _ _
    · rw [h2, h1]
section
variable (K : ∀ x, KeepsN N (P x))
include K
theorem CJ.loses (h : CJ N P c) (i : Int) (out : List Ou) : CJ N P (c.loses i out).1 := by
  unfold Clu.loses
  split
  · exact h
  · next hu =>
    have hu : (c.nd i).up = true := by simpa using hu
    have hn := h.nd i
    have hl := hn.1.lose hu
    have hp := (K _).lose _ hn.1 hn.2 hu
    dsimp only
    split
    · exact h.setN i hl hp
    · exact (h.setN i hl hp).setW i false
theorem CI.ends (h : CJ N P c) (out : List Ou) : CI N P (c.ends out).1 := by
  have h0 : CJ N P { c with l := c.l.closed } := ⟨h.a, h.b, h.s, h.pa, h.pb⟩
  have h1 := CJ.loses K h0 0 out
  have h2 := CJ.loses K h1 1 (Clu.loses { c with l := c.l.closed } 0 out).2
  refine ⟨h2, fun _ => ?_⟩
  have z : ∀ {d : Clu} {i : Int} {out : List Ou}, CJ N P (d.loses i out).1 → ((d.loses i out).1.nd i).st = 0 := fun {d i out} hd => by
    rcases loses_one d i out with ⟨hu, _⟩ | e
    · exact (hd.nd i).1.2.zero hu
    · rw [e]; exact lose_st0 _
  have za := z h1
  have zb := z h2
  refine ⟨?_, zb⟩
  have e := loses_two (Clu.loses { c with l := c.l.closed } 0 out).1 (i := 1) (j := 0) (by simp) (Clu.loses { c with l := c.l.closed } 0 out).2
  have e2 : (c.ends out).1.a = (Clu.loses (Clu.loses { c with l := c.l.closed } 0 out).1 1 (Clu.loses { c with l := c.l.closed } 0 out).2).1.nd 0 := rfl
  rw [e2, e]
  exact za
theorem CI.closes (l : List Ou) (u : Bool) (c2 : Clu) (h2 : CI N P c2) : CI N P (if c2.l.u = false ∨ (u = true ∧ closesL l = false) then (c2, saysL l) else Clu.ends (if closesL l = true then { c2 with wa := false, wb := false } else c2) (saysL l)).1 := by
  split
  · exact h2
  · refine CI.ends K ?_ _
    split
    · exact ⟨h2.a, h2.b, h2.s, h2.pa, h2.pb⟩
    · exact h2.toCJ
omit K in
theorem send_u (l : Lnk) (g : Int) (x : List ByteArray) : (l.send g x).u = l.u := by
  unfold Lnk.send Lnk.on
  repeat' split
  all_goals rfl
omit K in
theorem taken_u (l : Lnk) (g : Int) : (l.taken g).u = l.u := by
  unfold Lnk.taken Lnk.on
  repeat' split
  all_goals rfl
omit K in
theorem sends_u : ∀ (o : List Ou) (l : Lnk) (g : Int), (sendsL l g o).u = l.u
  | [], _, _ => rfl
  | o :: r, l, g => by
    unfold sendsL
    split
    · rw [sends_u r]
      split
      · exact send_u _ _ _
      · rfl
    · exact sends_u r l g
theorem CI.after (h : CI N P c) (i : Int) {n : Nod} (hn : Ok N n) (hp : P (decide (i = 0)) n) (hz : c.l.u = false → n.st = 0) (l : List Ou) : CI N P (c.after i n l).1 := by
  have h0 := h.setN i hn hp hz
  have h1 : CI N P { c.setN i n with l := sendsL c.l (1 - i) l } := ⟨⟨h0.a, h0.b, by rw [sends_s]; exact h.s, h0.pa, h0.pb⟩, fun hu => h0.al (by rw [setN_l]; rw [sends_u] at hu; exact hu)⟩
  have h2 : CI N P (if n.up = true then { c.setN i n with l := sendsL c.l (1 - i) l } else Clu.setW { c.setN i n with l := sendsL c.l (1 - i) l } i false) := by
    split
    · exact h1
    · exact h1.setW i false
  exact CI.closes K l n.up _ h2
theorem CI.connect (h : CI N P c) {i : Int} (hi : i = 0 ∨ i = 1) : CI N P (c.connect i).1 := by
  unfold Clu.connect
  split
  · exact h
  · next hu =>
    have hu : (c.nd i).up = true := by simpa using hu
    dsimp only
    split
    · exact h.setW i true
    · next hc =>
      have h1 := h.setW i true
      have hv : ((c.setW i true).nd (1 - i)).up = true := by
        cases e : ((c.setW i true).nd (1 - i)).up with
        | true => rfl
        | false => exact absurd (.inr (.inl e)) hc
      have hl : (c.setW i true).l.u = false := by
        cases e : (c.setW i true).l.u with
        | false => rfl
        | true => exact absurd (.inr (.inr e)) hc
      have ab : (c.setW i true).a.up = true ∧ (c.setW i true).b.up = true := by
        rcases hi with rfl | rfl
        · exact ⟨hu, hv⟩
        · exact ⟨hv, hu⟩
      generalize c.setW i true = c1 at *
      have hz := h1.al hl
      obtain ⟨l, e⟩ := after_begins { c1 with l := c1.l.opened } 0 c1.l.opened.s (n := c1.a) ab.1
      have hs : B64 c1.l.opened.s := next_b64 _
      have hA : Ok N (c1.a.begins c1.l.opened.s).1 := h1.a.begins ab.1 hs
      have hPA : P true (c1.a.begins c1.l.opened.s).1 := (K _).begins _ _ h1.a h1.pa ab.1 hz.1 hs
      have q : CJ N P { c1 with l := c1.l.opened } := ⟨h1.a, h1.b, hs, h1.pa, h1.pb⟩
      have qi : CI N P { c1 with l := c1.l.opened } := ⟨q, fun hh => by cases hh⟩
      have h4 : CI N P (Clu.after { c1 with l := c1.l.opened } 0 (c1.a.begins c1.l.opened.s).1 (c1.a.begins c1.l.opened.s).2).1 := CI.after K qi 0 hA hPA (fun hh => by cases hh) _
      have e3 : (Clu.after { c1 with l := c1.l.opened } 0 (c1.a.begins c1.l.opened.s).1 (c1.a.begins c1.l.opened.s).2).1.l.u = true := by
        unfold Clu.after
        dsimp only
        rw [if_pos (show (c1.a.begins c1.l.opened.s).1.up = true from ab.1), if_pos (.inr ⟨ab.1, rfl⟩)]
        show (sendsL c1.l.opened (1 - 0) (c1.a.begins c1.l.opened.s).2).u = true
        rw [sends_u]
        rfl
      have hb : (Clu.after { c1 with l := c1.l.opened } 0 (c1.a.begins c1.l.opened.s).1 (c1.a.begins c1.l.opened.s).2).1.b = c1.b := by rw [e]; rfl
      refine CI.after K h4 1 ?_ ?_ (fun hh => by rw [e3] at hh; cases hh) _
      · rw [hb]; exact h1.b.begins ab.2 h4.s
      · rw [hb]; exact (K _).begins _ _ h1.b h1.pb ab.2 hz.2 h4.s
theorem CI.doEv (h : CI N P c) {v : Evt} (hw : v.wide) : CI N P (c.doEv v).1 := by
  unfold Clu.doEv
  split
  · exact h
  next hv =>
  have hi : v.n = 0 ∨ v.n = 1 := by omega
  obtain ⟨hn, hp⟩ := h.nd v.n
  have hz : c.l.u = false → (c.nd v.n).st = 0 := fun hu => h.nd0 hu v.n
  generalize c.nd v.n = n at *
  unfold Clu.ev1
  split
  · exact CI.after K h _ (hn.promote _) ((K _).promote _ _ hn hp) (fun hu => promote_st0 (hz hu) _) _
  split
  · exact CI.after K h _ (hn.demote _) ((K _).demote _ _ hn hp) (fun hu => demote_st0 (hz hu) _) _
  split
  · exact CI.after K h _ (hn.discard _) ((K _).discard _ _ hn hp) (fun hu => discard_st0 (hz hu) _) _
  split
  · refine CI.after K h _ ?_ ?_ ?_ _
    · rw [read_same]; exact hn
    · rw [read_same]; exact hp
    · rw [read_same]; exact hz
  split
  · exact CI.after K h _ (hn.write _ _ _) ((K _).write _ _ _ _ hn hp) (fun hu => write_st0 (hz hu) _ _ _) _
  unfold Clu.ev2
  split
  · exact CI.connect K h hi
  split
  · split
    · exact CI.ends K (h.setW v.n false).toCJ []
    · exact h.setW v.n false
  split
  · split
    · exact CI.ends K h.toCJ []
    · exact h
  unfold Clu.ev3
  split
  · split
    · have h3 : CI N P { c with l := c.l.taken v.n } := ⟨⟨h.a, h.b, by rw [taken_s]; exact h.s, h.pa, h.pb⟩, fun hu => h.al (by rw [taken_u] at hu; exact hu)⟩
      exact CI.after K h3 _ (hn.receive _) ((K _).receive _ _ hn hp) (fun hu => by rw [receive_st0 (hz (by rw [taken_u] at hu; exact hu))]; exact hz (by rw [taken_u] at hu; exact hu)) _
    · exact h
  split
  · split
    · exact CI.after K h _ hn.down ((K _).down _ hn hp) (fun _ => rfl) _
    · exact h
  split
  · exact h.setN v.n (hn.attach _) ((K _).attach _ _ hn hp) (fun hu => attach_st0 (hz hu) _)
  unfold Clu.ev4
  split
  · refine CI.after K h _ ?_ ?_ ?_ _
    · split
      · exact hn.fuse (by have := hw.1; omega) (by omega)
      · exact hn
    · split
      · next hu => exact (K _).fuse _ _ hn hp hu (by have := hw.1; omega) (by omega)
      · exact hp
    · intro hu
      split
      · exact hz hu
      · exact hz hu
  split
  · refine h.setN v.n ?_ ?_ ?_
    · split
      · next hl => exact hn.draw hw hl
      · exact hn
    · split
      · next hl => exact (K _).draw _ _ hn hp hw hl
      · exact hp
    · intro hu
      split
      · exact hz hu
      · exact hz hu
  split
  · split
    · exact h
    · exact CI.after K h _ (hn.receive _) ((K _).receive _ _ hn hp) (fun hu => by rw [receive_st0 (hz hu)]; exact hz hu) _
  exact h
theorem CI.play : ∀ (l : List Evt) {c : Clu}, CI N P c → (∀ v ∈ l, v.wide) → CI N P (c.play l).1
  | [], _, h, _ => h
  | v :: r, _, h, hw => CI.play r (CI.doEv K h (hw v (List.mem_cons_self ..))) fun x hx => hw x (List.mem_cons_of_mem _ hx)
end
end
end Go.Proofs.YtkjikigimmchlaaGreatDoor
namespace Go.Proofs.YtkjikigimmchlaaGreatDoor
open Go.RowKit
def Did (t : Sto) (r : Sto × Int) (y : Wr) : Prop :=
  (r.1.s = t.s ∧ r.1.c = t.c ∧ (r.2 = 0 → r.1 = t)) ∨ (r.2 ≠ 0 ∧ r.1.s = t.s ∧ r.1.c = t.c ++ [y]) ∨ (r.2 = 0 ∧ r.1.s = layL t.s (t.c ++ [y]) ∧ r.1.c = [])
theorem did_flush {t : Sto} {y : Wr} {a : Ans} (b : Sup) (m : Nat) (ha : a = flushW t.s t.c t.f y) : Did t (t.on a b m, a.e) y := by
  subst ha
  unfold flushW
  split
  · exact .inl ⟨rfl, rfl, fun h => by cases h⟩
  split
  · exact .inr (.inl ⟨by show (6 : Int) ≠ 0; decide, rfl, rfl⟩)
  · exact .inr (.inr ⟨rfl, rfl, rfl⟩)
section
variable {N : Nat} {t : Sto}
theorem did_commit (h : Whole N t) (b : Sup) : Did t (t.commit b) (0, b.bytes) := by
  unfold Sto.commit
  by_cases hb : b.same t.b = true
  · rw [if_pos hb]; exact .inl ⟨rfl, rfl, fun _ => rfl⟩
  rw [if_neg hb]
  by_cases hq : ((((t.s.length : Int) - 2 == b.n) && b.right) = true)
  · have e : commitD t.s t.c t.f t.x b = flushW t.s t.c t.f (0, b.bytes) := by
      unfold commitD flushW
      rw [if_pos hq, h.live, if_neg (by simp)]
    exact did_flush _ _ e
  · have e : commitD t.s t.c t.f t.x b = ⟨t.s, t.c, t.f, false, 1⟩ := by
      unfold commitD
      rw [if_neg hq, h.live]
    rw [e]
    exact .inl ⟨rfl, rfl, fun h => by cases h⟩
theorem did_save (h : Whole N t) (k : Nat) : Did t (t.save k) (1, bytesM k) := by
  unfold Sto.save
  by_cases hb : k = t.m
  · rw [if_pos hb]; exact .inl ⟨rfl, rfl, fun _ => rfl⟩
  rw [if_neg hb]
  by_cases hq : mrightB k ((t.s.length : Int) - 2) = true
  · have e : saveB t.s t.c t.f t.x k = flushW t.s t.c t.f (1, bytesM k) := by
      unfold saveB flushW
      rw [if_pos hq, h.live, if_neg (by simp)]
    exact did_flush _ _ e
  · have e : saveB t.s t.c t.f t.x k = ⟨t.s, t.c, t.f, false, 1⟩ := by
      unfold saveB
      rw [if_neg hq, h.live]
    rw [e]
    exact .inl ⟨rfl, rfl, fun h => by cases h⟩
theorem did_put (h : Whole N t) (i : Int) (d : ByteArray) : Did t (t.put i d) (i + 2, d) := by
  unfold Sto.put putA
  rw [h.live]
  repeat' split
  all_goals first
    | exact .inr (.inr ⟨rfl, rfl, rfl⟩)
    | exact .inr (.inl ⟨by show (6 : Int) ≠ 0; decide, rfl, rfl⟩)
    | exact .inl ⟨rfl, rfl, fun h => by cases h⟩
    | (next h => cases h)
theorem put_b (t : Sto) (i : Int) (d : ByteArray) : (t.put i d).1.b = t.b := by
  show (if _ then t.b else t.b) = t.b
  rw [ite_self]
theorem note_done {k : Nat} (h : (t.note k).2 = 0) : (t.note k).1.m = k ∧ (t.note k).1.b = t.b ∧ (t.note k).1.s = t.s ∧ ((t.note k).1 = t ∨ (t.note k).1.c = t.c ++ [(1, bytesM k)]) := by
  unfold Sto.note at h ⊢
  split at h
  · next e => rw [if_pos e]; exact ⟨e.symm, rfl, rfl, .inl rfl⟩
  · next e =>
    rw [if_neg e]
    dsimp only at h ⊢
    unfold noteB at h ⊢
    split at h
    · next h1 =>
      split at h
      · cases h
      · next h2 =>
        split at h
        · cases h
        · next h3 =>
          rw [if_pos h1, if_neg h2, if_neg h3]
          exact ⟨rfl, rfl, rfl, .inr rfl⟩
    · cases h
def Over (m : Nat) (d : ByteArray) : Prop := ∃ k, k < 4294967296 ∧ m ||| k = k ∧ d = bytesM k
structure Tidy (t : Sto) : Prop where
  c1 : ∀ w ∈ t.c, w.1 = 1 ∧ Over t.m w.2
  s1 : Over t.m (t.s.getD 1 e0)
theorem Over.sub {m k : Nat} {d : ByteArray} (h : Over m d) (hk : k ||| m = m) : Over k d := by
  obtain ⟨j, h1, h2, h3⟩ := h
  exact ⟨j, h1, by rw [← h2, ← Nat.or_assoc, hk], h3⟩
theorem tidy_nil (h : Whole N t) (hc : t.c = []) : Tidy t := by
  refine ⟨by rw [hc]; simp, t.m, mask_small h.mr, Nat.or_self _, ?_⟩
  have := h.h1
  rw [hc] at this
  exact this
theorem tidy_did {r : Sto × Int} {y : Wr} (hd : Did t r y) (ht : Tidy t) (hw : Whole N r.1) (he : r.2 = 0) : Tidy r.1 := by
  rcases hd with ⟨_, _, h⟩ | ⟨h, _⟩ | ⟨_, _, h⟩
  · rw [h he]; exact ht
  · exact absurd he h
  · exact tidy_nil hw h
theorem tidy_commit (h : Whole N t) (ht : Tidy t) {b : Sup} (hb : b.wide) (he : (t.commit b).2 = 0) : Tidy (t.commit b).1 := tidy_did (did_commit h b) ht (goes_ok (n := { newN 1 0 with t := t }) (goes_commit h hb) he) he
theorem tidy_save (h : Whole N t) (ht : Tidy t) {k : Nat} (he : (t.save k).2 = 0) : Tidy (t.save k).1 := tidy_did (did_save h k) ht (goes_ok (n := { newN 1 0 with t := t }) (goes_save h k) he) he
theorem tidy_put (h : Whole N t) (ht : Tidy t) {i : Int} {d : ByteArray} (he : (t.put i d).2 = 0) : Tidy (t.put i d).1 := tidy_did (did_put h i d) ht (goes_ok (n := { newN 1 0 with t := t }) (goes_put h i d) he) he
theorem tidy_mark (h : Whole N t) (ht : Tidy t) {i : Int} (he : (t.mark i).2 = 0) : Tidy (t.mark i).1 := by
  unfold Sto.mark at he ⊢
  split at he
  · cases he
  · next ho => rw [if_neg ho]; exact tidy_save h ht he
theorem tidy_join (h : Whole N t) (ht : Tidy t) {k : Nat} (he : (t.join k).2 = 0) : Tidy (t.join k).1 := tidy_save h ht he
theorem tidy_wipe (h : Whole N t) (ht : Tidy t) {i : Int} (he : (t.wipe i).2 = 0) : Tidy (t.wipe i).1 := by
  unfold Sto.wipe at he ⊢
  split at he
  · cases he
  · next ho =>
    rw [if_neg ho]
    have hk : clrB t.m [i] ||| t.m = t.m := clr_or (mask_small h.mr) (Nat.or_self _)
    obtain ⟨h1, _, h2, h3⟩ := note_done he
    rcases h3 with h3 | h3
    · rw [h3]; exact ht
    · refine ⟨fun w hw => ?_, by rw [h1, h2]; exact ht.s1.sub hk⟩
      rw [h1]
      rw [h3] at hw
      rcases List.mem_append.1 hw with hw | hw
      · exact ⟨(ht.c1 w hw).1, (ht.c1 w hw).2.sub hk⟩
      · rw [List.mem_singleton] at hw
        subst hw
        refine ⟨rfl, _, ?_, Nat.or_self _, rfl⟩
        exact mask_small (right_clr h.fine.n1 h.fine.n32 h.mr)
end
def P1 (n : Nod) : Prop := n.up = true → Tidy n.t
section
variable {N q : Nat} {n : Nod}
theorem P1.keep {r : Sto × Int} (hr : r.2 = 0 → Tidy r.1) : P1 (n.keep r).1 := by
  unfold Nod.keep
  split
  · next h => exact fun _ => hr h
  · exact fun h => by cases h
theorem P1.commit (h : P1 n) (hu : n.up = true) (hn : NOk N q n) {b : Sup} (hb : b.wide) : P1 (n.commit b).1 := P1.keep (tidy_commit (hn.live hu) (h hu) hb)
theorem P1.as {m : Nod} (h : P1 n) (ht : m.t = n.t) (hu : m.up = n.up) : P1 m := fun e => by rw [ht]; exact h (by rw [← hu]; exact e)
theorem P1.wipe (h : P1 n) (hu : n.up = true) (hn : NOk N q n) (i : Int) : P1 (n.wipe i).1 := P1.keep (tidy_wipe (hn.live hu) (h hu))
theorem keep_to {r : Sto × Int} (hk : (n.keep r).2 = true) : (n.keep r).1.up = n.up := (keep_st hk).2
theorem P1.lay (h : P1 n) (hu : n.up = true) (hn : NOk N q n) (i : Int) (d : ByteArray) : P1 (n.lay i d).1 := by
  have h1 : P1 (n.keep (n.t.mark i)).1 := P1.keep (tidy_mark (hn.live hu) (h hu))
  unfold Nod.lay
  dsimp only
  split
  · next hk =>
    have hu2 := (keep_to hk).trans hu
    have hn2 := hn.keep (goes_mark (hn.live hu) i)
    exact P1.keep (tidy_put (hn2.live hu2) (h1 hu2))
  · exact h1
theorem P1.mints (h : P1 n) (hu : n.up = true) (hn : NOk N q n) : P1 n.mints.1 := by
  unfold Nod.mints
  split
  · exact h
  · next g r e =>
    dsimp only
    split
    · exact h.as rfl rfl
    · have hb : (n.t.b.minted g).wide := minted_wide (hn.bw hu) (hn.dr g (by rw [e]; simp))
      have key : P1 (Nod.commit { n with dr := r, mi := n.mi ++ [⟨g, n.t.b.c, n.id⟩] } (n.t.b.minted g)).1 := P1.keep (tidy_commit (hn.live hu) (h hu) hb)
      split
      · exact key.as rfl rfl
      · exact key
theorem P1.promote (h : P1 n) (hn : NOk N q n) (id : Int) : P1 (n.promote id).1 := by
  unfold Nod.promote
  by_cases hu : n.up = false
  · rw [if_pos hu]; exact h
  rw [if_neg hu]
  replace hu : n.up = true := by simpa using hu
  have key := h.commit hu hn (b := { n.t.b with r := true }) (hn.bw hu)
  dsimp only
  repeat' split
  all_goals first
    | exact h
    | exact h.as rfl rfl
    | exact key.as rfl rfl
    | exact key
theorem P1.demote (h : P1 n) (hn : NOk N q n) (id : Int) : P1 (n.demote id).1 := by
  unfold Nod.demote
  by_cases hu : n.up = false
  · rw [if_pos hu]; exact h
  rw [if_neg hu]
  replace hu : n.up = true := by simpa using hu
  have key := h.commit hu hn (b := { n.t.b with r := false }) (hn.bw hu)
  dsimp only
  repeat' split
  all_goals first
    | exact h
    | exact h.as rfl rfl
    | exact key.as rfl rfl
    | exact key
theorem P1.discard (h : P1 n) (hn : NOk N q n) (id : Int) : P1 (n.discard id).1 := by
  unfold Nod.discard
  by_cases hu : n.up = false
  · rw [if_pos hu]; exact h
  rw [if_neg hu]
  replace hu : n.up = true := by simpa using hu
  have key := h.commit hu hn (b := { n.t.b with d := true }) (hn.bw hu)
  dsimp only
  repeat' split
  all_goals first
    | exact h
    | exact key
theorem P1.laid (h : P1 n) (hu : n.up = true) (hn : NOk N q n) (id i : Int) (d : ByteArray) : P1 (n.laid id i d).1 := by
  have key := h.lay hu hn i d
  unfold Nod.laid
  dsimp only
  repeat' split
  all_goals first
    | exact key
    | exact key.as rfl rfl
theorem P1.write (h : P1 n) (hn : NOk N q n) (id i : Int) (d : ByteArray) : P1 (n.write id i d).1 := by
  unfold Nod.write
  split
  · next hb =>
    have hu := bad_up hb
    have hm := h.mints hu hn
    split
    · split
      · exact hm
      · next h6 =>
        split
        · exact hm.laid (mints_up hu h6) (hn.mints hu) id i d
        · exact hm
    · exact h.laid hu hn id i d
  · exact h
theorem P1.lose (h : P1 n) (hu : n.up = true) (hn : NOk N q n) : P1 n.lose.1 := by
  unfold Nod.lose
  split
  · exact h
  · dsimp only
    have h0 : P1 ⟨n.id, n.up, n.t, n.pri, 0, 0, Hel.zero, false, Req.zero, false, 0, 0, false, n.dr, n.mi⟩ := h.as rfl rfl
    have n0 : NOk N q ⟨n.id, n.up, n.t, n.pri, 0, 0, Hel.zero, false, Req.zero, false, 0, 0, false, n.dr, n.mi⟩ := hn.as rfl rfl b64_zero Hel.zero_wide rfl rfl
    split
    · exact h0.mints hu n0
    · exact h0
theorem P1.seek (h : P1 n) (hu : n.up = true) (hn : NOk N q n) : P1 n.seek.1 := by
  unfold Nod.seek
  split
  · exact h
  · split
    · exact h.as rfl rfl
    · exact h.commit hu hn (peer_wide hn.peer _)
theorem P1.got (h : P1 n) (hu : n.up = true) (hn : NOk N q n) (i : Int) (d : ByteArray) : P1 (n.got i d).1 := by
  unfold Nod.got
  split
  · have h1 : P1 (n.keep (n.t.put i d)).1 := P1.keep (tidy_put (hn.live hu) (h hu))
    have n1 := hn.keep (goes_put (hn.live hu) i d)
    dsimp only
    split
    · next k1 =>
      have u1 := (keep_to k1).trans hu
      have h2 := h1.wipe u1 n1 i
      have n2 := n1.wipe u1 i
      split
      · next k2 =>
        have u2 := (keep_to k2).trans u1
        exact P1.seek (n := { ((n.keep (n.t.put i d)).1.wipe i).1 with want := 0 }) (h2.as rfl rfl) u2 (n2.as rfl rfl n2.ses n2.peer rfl rfl)
      · exact h2
    · exact h1
  · exact h
theorem P1.met (h : P1 n) (hu : n.up = true) (hn : NOk N q n) {x : Hel} (hx : x.wide) : P1 (n.met x).1 := by
  unfold Nod.met
  split
  · exact h
  split
  · dsimp only
    have key := h.commit hu hn (b := { n.t.b.retired with r := n.pri }) (retired_wide (b := n.t.b) (hn.bw hu))
    split
    · exact key.as rfl rfl
    · exact key
  · dsimp only
    have key : P1 (n.keep (n.t.join (n.verB x))).1 := P1.keep (tidy_join (hn.live hu) (h hu))
    have n1 := hn.keep (goes_join (hn.live hu) (n.verB x))
    split
    · next k1 =>
      have u1 := (keep_to k1).trans hu
      split
      · exact key.as rfl rfl
      · have hw : ({ n.t.b with i := true, r := false, b := x.c } : Sup).wide := ⟨(hn.bw hu).1, hx.1, (hn.bw hu).2.2.1, (hn.bw hu).2.2.2⟩
        have key2 := key.commit u1 n1 hw
        have n2 := n1.commit u1 hw
        split
        · next k2 =>
          have u2 := (keep_to k2).trans u1
          exact P1.seek (n := { ((n.keep (n.t.join (n.verB x))).1.commit { n.t.b with i := true, r := false, b := x.c }).1 with st := 4, ppri := x.q, peer := x }) (key2.as rfl rfl) u2 (n2.as rfl rfl n2.ses hx rfl rfl)
        · exact key2
    · exact key
theorem P1.roles (h : P1 n) (hu : n.up = true) (hn : NOk N q n) (k : Int) : P1 (n.roles k).1 := by
  have key := h.commit hu hn (b := { n.t.b with r := true }) (hn.bw hu)
  unfold Nod.roles
  dsimp only
  repeat' split
  all_goals first
    | exact h
    | exact h.as rfl rfl
    | exact key.as rfl rfl
    | exact key
theorem P1.ended (h : P1 n) (hu : n.up = true) (hn : NOk N q n) : P1 n.ended.1 := by
  have key := h.commit hu hn (b := { n.t.b.retired with r := n.pri }) (retired_wide (b := n.t.b) (hn.bw hu))
  unfold Nod.ended
  dsimp only
  split
  · exact key.as rfl rfl
  · exact key
theorem P1.takes (h : P1 n) (hu : n.up = true) (hn : NOk N q n) {p : Pkt} (hp : p.h.wide) : P1 (n.takes p).1 := by
  unfold Nod.takes
  split
  · exact h.met hu hn hp
  split
  · exact h.lay hu hn _ _
  split
  · unfold Nod.acked
    split
    · exact P1.wipe (n := { n with rq := Req.zero }) (h.as rfl rfl) hu (hn.as rfl rfl hn.ses hn.peer rfl rfl) _
    · exact h
  split
  · exact h.wipe hu hn _
  split
  · exact h
  split
  · exact h.got hu hn _ _
  split
  · unfold Nod.copied
    split
    · exact h
    · exact h.wipe hu hn _
  split
  · exact h.ended hu hn
  split
  · exact h.as rfl rfl
  · exact h.roles hu hn _
theorem receive_cases (n : Nod) (b : ByteArray) : (n.receive b).1 = n ∨ n.up = true ∧ n.st ≠ 0 ∧ (readP b n.ses).2 = 0 ∧ n.fits (readP b n.ses).1 = true ∧ n.receive b = n.takes (readP b n.ses).1 := by
  unfold Nod.receive
  split
  · exact .inl rfl
  next hc =>
  split
  · exact .inl rfl
  split
  · exact .inl rfl
  next h1 =>
  refine .inr ⟨?_, fun e => hc (.inr e), ?_, ?_, rfl⟩
  · cases e : n.up with
    | true => rfl
    | false => exact absurd (.inl e) hc
  · cases e : decide ((readP b n.ses).2 = 0) with
    | true => exact of_decide_eq_true e
    | false => exact absurd (.inl (of_decide_eq_false e)) h1
  · cases e : n.fits (readP b n.ses).1 with
    | true => rfl
    | false => exact absurd (.inr e) h1
theorem P1.receive (h : P1 n) (hn : NOk N q n) (b : ByteArray) : P1 (n.receive b).1 := by
  rcases receive_cases n b with e | ⟨hu, _, _, _, e⟩
  · rw [e]; exact h
  · rw [e]; exact h.takes hu hn (read_wide _ _)
theorem P1.attach (h : P1 n) (hn : NOk N q n) (l : List Bool) : P1 (n.attach l).1 := by
  unfold Nod.attach
  split
  · exact h
  · obtain ⟨t', hw, hs, hc, _, he, ha⟩ := kept_again hn.fine l
    have e : n.revive l = t'.s := hs.symm
    rw [e, if_pos he, ha]
    exact fun _ => tidy_nil hw hc
theorem p1_keeps (N : Nat) : KeepsN N P1 where
  promote := fun _ id h p => p.promote h.1.choose_spec id
  demote := fun _ id h p => p.demote h.1.choose_spec id
  discard := fun _ id h p => p.discard h.1.choose_spec id
  write := fun _ id i d h p => p.write h.1.choose_spec id i d
  lose := fun _ h p hu => p.lose hu h.1.choose_spec
  begins := fun _ _ _ p _ _ _ => p.as rfl rfl
  receive := fun _ b h p => p.receive h.1.choose_spec b
  down := fun _ _ _ h => by cases h
  attach := fun _ l h p => p.attach h.1.choose_spec l
  fuse := fun _ _ _ p hu _ _ => fun _ => ⟨(p hu).c1, (p hu).s1⟩
  draw := fun _ _ _ p _ _ => p.as rfl rfl
end
end Go.Proofs.YtkjikigimmchlaaGreatDoor
