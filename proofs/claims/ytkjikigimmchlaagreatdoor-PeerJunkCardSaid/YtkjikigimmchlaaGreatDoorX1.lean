/- Nodes: what the document's calls of layers 16 to 21 answer, plainly. No condition but that the node may be, and lies in memory. -/
import Derived.Test.YtkjikigimmchlaaGreatDoorPN
namespace Go.Proofs.YtkjikigimmchlaaGreatDoor
open Go.RowKit PX
set_option maxRecDepth 100000
theorem yreply (n : Nod) (a : Adr) (id e : Int) (d : ByteArray) (w : World) : Calls Tryz.prog 98 #[nodV n a, .int .i64 id, .int .i64 e, .string d] w fun x w' => x = .returned (ouV (n.reply id e d)) ∧ Below w.heap.size w w' :=
  run_ok (ap := fun _ => true) (U := 0) rfl (st_p True) trivial (t_ret _ (fun _ _ hb _ => ⟨rfl, But.below hb⟩))
theorem ysend (n : Nod) (a : Adr) (p : Pkt) (w : World) (hs : B64 n.ses) (hh : p.h.wide) : Calls Tryz.prog 135 #[nodV n a, pktV p] w fun e w' => e = .returned (ouV (n.send p)) ∧ Below w.heap.size w w' :=
  run_ok (ap := fun T => Nat.blt T 1000000) (U := 0) (K := fun _ => True) rfl (st_p True) trivial (t_call (fun u _ _ => rpencode_any { p with s := n.ses } u ⟨hs, hh⟩) fun u e u' _ _ h => ⟨_, fun _ => True, h.1, h.2, st_p _, trivial, t_ret _ (fun _ _ hb _ => ⟨rfl, But.below hb⟩)⟩)
theorem ylinked (n : Nod) (a : Adr) (w : World) : Calls Tryz.prog 134 #[nodV n a] w fun e w' => e = .returned (.bool n.linked) ∧ Below w.heap.size w w' := by
  refine run_v ?_
  unfold Nod.linked
  by_cases h : (n.st == 2) = true
  · exact t_N (b := !(n.st == 2)) 9 (by simp [h]) (e_r2 (.bool true) (by simp [h]))
  · exact t_Y (b := !(n.st == 2)) 9 (by simpa using h) (e_r2 (.bool (n.st == 3)) (by simp [h]))
theorem yrefuse (n : Nod) (a : Adr) (id e : Int) (w : World) (hn : NM w n a) : Calls Tryz.prog 133 #[nodV n a, .int .i64 id, .int .i64 e] w (GivesN (n.refuse id e) w) :=
  run (st_nm n a) hn (t_v (fun u _ => yreply n a id e e1 u) (e_n1 a fun _ h => h))
theorem ydown (n : Nod) (a : Adr) (w : World) (hn : NM w n a) : Calls Tryz.prog 97 #[nodV n a] w (GivesA n.down w) :=
  run (st_nm n a) hn (t_v (fun u _ => rcrash_any a.A a.B n.t.s.length a.k n.t.c.length a.m n.t.f n.t.x u) (e_a a fun _ h => h.down))
theorem ykeep (n : Nod) (a : Adr) (r : Sto × Int) (A B : Option Addr) (k m : Nat) (w : World) (hn : NM w n a) (ht : Mem w A k B m r.1.s r.1.c) : Calls Tryz.prog 196 #[nodV n a, toV r.1 A k B m, .int .i64 r.2] w (GivesY (n.keep r) w) := by
  refine run (K := fun u => NM u n a ∧ Mem u A k B m r.1.s r.1.c) ((st_nm n a).and (st_mem _ _ _ _ _ _)) ⟨hn, ht⟩ ?_
  unfold Nod.keep
  by_cases h : r.2 = 0
  · rw [if_pos h]
    have h1 : (r.2 != 0) = false := by simpa using h
    exact t_no h1 (e_y (a.withT A k B m) fun _ h => h.1.withT h.2)
  · rw [if_neg h]
    have h1 : (r.2 != 0) = true := by simpa using h
    exact t_yes h1 (t_a (fun u hu => ydown { n with t := r.1 } (a.withT A k B m) u (hu.1.withT hu.2)) fun a2 => e_y a2 fun _ h => h.2)
theorem bne0 {x : Int} (h : x = 0) : (x != 0) = false := by simpa using h
theorem bne1 {x : Int} (h : ¬ x = 0) : (x != 0) = true := by simpa using h
theorem NOk.m32 {N q : Nat} {n : Nod} (h : NOk N q n) (hu : n.up = true) : n.t.m < 4294967296 := mask_small (h.live hu).mr
theorem bfalse {b : Bool} (h : ¬ b = true) : b = false := by simpa using h
theorem ine {x y : Int} (h : ¬ x = y) : (x == y) = false := beq_eq_false_iff_ne.2 h
theorem ieq {x y : Int} (h : x = y) : (x == y) = true := by simp [h]
theorem set_r {b : Sup} (h : b.wide) (x : Bool) : Sup.wide { b with r := x } := h
theorem set_d {b : Sup} (h : b.wide) (x : Bool) : Sup.wide { b with d := x } := h
section
variable {N q : Nat} {n : Nod} {a : Adr} {w : World}
theorem xcommitF (hF : Fit n.t.s n.t.c n.t.f) {b : Sup} (hw : b.wide) (hn : NM w n a) : Calls Tryz.prog 136 #[nodV n a, supV b] w (GivesY (n.commit b) w) := by
  refine run (st_nm n a) hn (t_s (fun u hu => rzcommit_any a.A a.B a.k a.m n.t.s n.t.c n.t.f n.t.x n.t.b n.t.m b u hu.t hF hw) fun A k B m => ?_)
  unfold Nod.commit Nod.keep
  by_cases h0 : (n.t.commit b).2 = 0
  · rw [if_pos h0]
    exact t_N 99 (bne0 h0) (e_y (a.withT A k B m) fun _ h => h.1.withT h.2)
  · rw [if_neg h0]
    exact t_Y 99 (bne1 h0) (t_a (fun u hu => ydown { n with t := (n.t.commit b).1 } (a.withT A k B m) u (hu.1.withT hu.2)) fun a2 => e_y a2 fun _ h => h.2)
theorem xcommitF_as (hF : Fit n.t.s n.t.c n.t.f) {b : Sup} (hw : b.wide) {x : Bool} (hx : (n.commit b).2 = x) (hn : NM w n a) : Calls Tryz.prog 136 #[nodV n a, supV b] w (GivesY ((n.commit b).1, x) w) := by
  have := xcommitF hF hw hn
  rwa [show n.commit b = ((n.commit b).1, x) from Prod.ext rfl hx] at this
theorem xcommit (h : NOk N q n) (hq : q ≤ 900) {b : Sup} (hw : b.wide) (hn : NM w n a) : Calls Tryz.prog 136 #[nodV n a, supV b] w (GivesY (n.commit b) w) := xcommitF (h.fit hq) hw hn
theorem xwipe (h : NOk N q n) (hq : q ≤ 900) (hu : n.up = true) (i : Int) (hn : NM w n a) : Calls Tryz.prog 204 #[nodV n a, .int .i64 i] w (GivesY (n.wipe i) w) :=
  run (st_nm n a) hn (t_s (fun u hu' => rzwipe_any a.A a.B a.k a.m n.t.s n.t.c n.t.f n.t.x n.t.b n.t.m i u hu'.t (h.fit hq) (h.m32 hu)) fun A k B m => t_y (fun u hu' => ykeep n a (n.t.wipe i) A B k m u hu'.1 hu'.2) fun a2 => e_y a2 fun _ h => h.2)
theorem xcommit_as (h : NOk N q n) (hq : q ≤ 900) {b : Sup} (hw : b.wide) {x : Bool} (hx : (n.commit b).2 = x) (hn : NM w n a) : Calls Tryz.prog 136 #[nodV n a, supV b] w (GivesY ((n.commit b).1, x) w) := by
  have := xcommit h hq hw hn
  rwa [show n.commit b = ((n.commit b).1, x) from Prod.ext rfl hx] at this
theorem xpromote (h : NOk N q n) (hq : q ≤ 890) (id : Int) (hn : NM w n a) : Calls Tryz.prog 88 #[nodV n a, .int .i64 id] w (GivesN (n.promote id) w) := by
  have hR := fun e u (hu : NM u n a) => yrefuse n a id e u hu
  refine run (st_nm n a) hn ?_
  unfold Nod.promote
  by_cases hu : n.up = false
  · rw [if_pos hu]; exact t_Y (b := !n.up) 0 (by simp [hu]) (e_t (hR 7))
  rw [if_neg hu]
  have hu : n.up = true := by simpa using hu
  refine t_N (b := !n.up) 0 (by simp [hu]) ?_
  by_cases hp : n.pri = true
  · rw [if_pos hp]; exact t_Y 0 hp (e_t (hR 8))
  rw [if_neg hp]
  refine t_N 0 (bfalse hp) ?_
  by_cases hi : n.t.b.i = true
  · rw [if_pos hi]; exact t_Y 0 hi (e_t (hR 9))
  rw [if_neg hi]
  refine t_N 0 (bfalse hi) ?_
  by_cases hd : n.t.b.d = true
  · rw [if_pos hd]; exact t_Y 0 hd (e_t (hR 10))
  rw [if_neg hd]
  refine t_N 0 (bfalse hd) ?_
  by_cases h1 : n.st = 1
  · rw [if_pos (.inl h1)]; exact t_N (b := !(n.st == 1)) 99 (by simp [h1]) (e_t (hR 11))
  refine t_Y (b := !(n.st == 1)) 2 (by simp [h1]) ?_
  by_cases h4 : n.st = 4
  · rw [if_pos (.inr (.inl h4))]; exact t_N (b := !(n.st == 4)) 99 (by simp [h4]) (e_t (hR 11))
  refine t_Y (b := !(n.st == 4)) 1 (by simp [h4]) ?_
  by_cases ha : n.ask = true
  · rw [if_pos (.inr (.inr ha))]; exact t_Y 99 ha (e_t (hR 11))
  rw [if_neg (by rintro (g | g | g); exact h1 g; exact h4 g; exact ha g)]
  refine t_N 0 (bfalse ha) ?_
  by_cases hq2 : n.ppri = true
  · rw [if_pos hq2]; exact t_Y 0 hq2 (e_t (hR 12))
  rw [if_neg hq2]
  refine t_N 0 (bfalse hq2) (t_v (fun u _ => ylinked n a u) ?_)
  by_cases hl : n.linked = true
  · rw [if_pos hl]
    exact t_Y 0 hl (t_v (fun u _ => ysend { n with ask := true, askId := id } a (pk 10) u h.ses Hel.zero_wide) (e_n1 a fun _ h => h.like))
  rw [if_neg hl]
  refine t_N 0 (bfalse hl) ?_
  dsimp only
  cases hk : (n.commit { n.t.b with r := true }).2 with
  | true =>
    rw [if_pos rfl]
    refine t_y (fun u hu' => xcommit_as h (by omega) (set_r (h.bw hu) true) hk hu') fun a2 => ?_
    exact t_lit 9 (t_v (fun u _ => yreply { (n.commit { n.t.b with r := true }).1 with pri := true } a2 id 0 e1 u) (e_n1 a2 fun _ h => h.2.like))
  | false =>
    rw [if_neg (by decide)]
    exact t_y (fun u hu' => xcommit_as h (by omega) (set_r (h.bw hu) true) hk hu') fun a2 => t_lit 9 (e_n0 a2 fun _ h => h.2)
theorem xdiscard (h : NOk N q n) (hq : q ≤ 890) (id : Int) (hn : NM w n a) : Calls Tryz.prog 90 #[nodV n a, .int .i64 id] w (GivesN (n.discard id) w) := by
  have hR := fun e u (hu : NM u n a) => yrefuse n a id e u hu
  refine run (st_nm n a) hn ?_
  unfold Nod.discard
  by_cases hu : n.up = false
  · rw [if_pos hu]; exact t_Y (b := !n.up) 0 (by simp [hu]) (e_t (hR 7))
  rw [if_neg hu]
  have hu : n.up = true := by simpa using hu
  refine t_N (b := !n.up) 0 (by simp [hu]) ?_
  by_cases hp : n.pri = true
  · rw [if_pos hp]; exact t_Y 0 hp (e_t (hR 8))
  rw [if_neg hp]
  refine t_N 0 (bfalse hp) ?_
  by_cases hs : n.st = 0
  · rw [if_neg (by rw [hs]; decide)]
    refine t_N 0 (bne0 hs) ?_
    dsimp only
    cases hk : (n.commit { n.t.b with d := true }).2 with
    | true =>
      rw [if_pos rfl]
      exact t_y (fun u hu' => xcommit_as h (by omega) (set_d (h.bw hu) true) hk hu') fun a2 => t_lit 9 (t_v (fun u _ => yreply (n.commit { n.t.b with d := true }).1 a2 id 0 e1 u) (e_n1 a2 fun _ h => h.2))
    | false =>
      rw [if_neg (by decide)]
      exact t_y (fun u hu' => xcommit_as h (by omega) (set_d (h.bw hu) true) hk hu') fun a2 => t_lit 9 (e_n0 a2 fun _ h => h.2)
  · rw [if_pos hs]; exact t_Y 0 (bne1 hs) (e_t (hR 11))
theorem xread (h : NOk N q n) (hq : q ≤ 900) (id i : Int) (hn : NM w n a) : Calls Tryz.prog 91 #[nodV n a, .int .i64 id, .int .i64 i] w (GivesN (n.read id i) w) := by
  have hR := fun e u (hu : NM u n a) => yrefuse n a id e u hu
  refine run (st_nm n a) hn ?_
  unfold Nod.read
  by_cases hu : n.up = false
  · rw [if_pos hu]; exact t_Y (b := !n.up) 0 (by simp [hu]) (e_t (hR 7))
  rw [if_neg hu]
  have hu : n.up = true := by simpa using hu
  refine t_N (b := !n.up) 0 (by simp [hu]) ?_
  by_cases hp : n.pri = false
  · rw [if_pos hp]; exact t_Y (b := !n.pri) 0 (by simp [hp]) (e_t (hR 8))
  rw [if_neg hp]
  refine t_N (b := !n.pri) 0 (by simpa using hp) ?_
  exact t_v (fun u hu' => rzread_any a.A a.B a.k a.m n.t.s n.t.c n.t.f n.t.x n.t.b n.t.m i u hu'.t (h.fit hq)) (t_v (fun u _ => yreply n a id (n.t.read i).2 (n.t.read i).1 u) (e_n1 a fun _ h => h))
theorem xdemote (h : NOk N q n) (hq : q ≤ 890) (id : Int) (hn : NM w n a) : Calls Tryz.prog 89 #[nodV n a, .int .i64 id] w (GivesN (n.demote id) w) := by
  have hR := fun e u (hu : NM u n a) => yrefuse n a id e u hu
  refine run (st_nm n a) hn ?_
  unfold Nod.demote
  by_cases hu : n.up = false
  · rw [if_pos hu]; exact t_Y (b := !n.up) 0 (by simp [hu]) (e_t (hR 7))
  rw [if_neg hu]
  have hu : n.up = true := by simpa using hu
  refine t_N (b := !n.up) 0 (by simp [hu]) ?_
  by_cases hp : n.pri = false
  · rw [if_pos hp]; exact t_Y (b := !n.pri) 0 (by simp [hp]) (e_t (hR 8))
  rw [if_neg hp]
  refine t_N (b := !n.pri) 0 (by simpa using hp) ?_
  by_cases hr : n.rq.on = true
  · rw [if_pos (.inl hr)]; exact t_N (b := !n.rq.on) 99 (by simp [hr]) (e_t (hR 11))
  refine t_Y (b := !n.rq.on) 2 (by simpa using hr) ?_
  by_cases hs : n.st = 1
  · rw [if_pos (.inr hs)]; exact t_Y 99 (ieq hs) (e_t (hR 11))
  rw [if_neg (by rintro (g | g); exact hr g; exact hs g)]
  refine t_N 0 (ine hs) ?_
  dsimp only
  have hc := fun x (hx : (n.commit { n.t.b with r := false }).2 = x) u (hu' : NM u n a) => xcommit_as h (by omega) (set_r (h.bw hu) false) hx hu'
  cases hk : (n.commit { n.t.b with r := false }).2 with
  | false =>
    rw [if_neg (by decide)]
    exact t_y (hc _ hk) fun a2 => t_lit 9 (e_n0 a2 fun _ h => h.2)
  | true =>
    rw [if_pos rfl]
    have hs2 := (h.commit hu (b := { n.t.b with r := false }) (set_r (h.bw hu) false)).ses
    generalize hm : (n.commit { n.t.b with r := false }).1 = m at *
    refine t_y (r := (m, true)) (hc _ hk) fun a2 => t_lit 1 (t_v (fun u _ => ylinked { m with pri := false } a2 u) ?_)
    by_cases hl : m.linked = true
    · rw [if_pos hl]
      refine t_Y 0 hl (t_v (fun u _ => ysend { m with pri := false } a2 (pk 13) u hs2 Hel.zero_wide) (t_push (m.send (pk 13)) m a2 (fun u hu => ⟨hu.2, rw_nil w u⟩) fun r1 v1 => ?_))
      exact t_v (fun u _ => yreply { m with pri := false } a2 id 0 e1 u) (t_push (m.reply id 0 e1) m a2 (fun u hu => hu) fun r2 v2 => e_nr a2 v2 fun u hu => ⟨hu.1.like, hu.2⟩)
    · rw [if_neg hl]
      exact t_N 0 (bfalse hl) (t_v (fun u _ => yreply { m with pri := false } a2 id 0 e1 u) (t_push (m.reply id 0 e1) m a2 (fun u hu => ⟨hu.2, rw_nil w u⟩) fun r2 v2 => e_nr a2 v2 fun u hu => ⟨hu.1.like, hu.2⟩))
theorem keep_as {r : Sto × Int} {x : Bool} (hx : (n.keep r).2 = x) (A : Option Addr) (k : Nat) (B : Option Addr) (m : Nat) (hn : NM w n a) (ht : Mem w A k B m r.1.s r.1.c) : Calls Tryz.prog 196 #[nodV n a, toV r.1 A k B m, .int .i64 r.2] w (GivesY ((n.keep r).1, x) w) := by
  have := ykeep n a r A B k m w hn ht
  rwa [show n.keep r = ((n.keep r).1, x) from Prod.ext rfl hx] at this
theorem xlay (h : NOk N q n) (hq : q ≤ 890) (hu : n.up = true) (i : Int) (d : ByteArray) (hn : NM w n a) : Calls Tryz.prog 139 #[nodV n a, .int .i64 i, .string d] w (GivesY (n.lay i d) w) := by
  have hm : NOk N (q + 1) (n.keep (n.t.mark i)).1 := h.keep (goes_mark (h.live hu) i)
  refine run (st_nm n a) hn (t_s (fun u hu' => rzmark_any a.A a.B a.k a.m n.t.s n.t.c n.t.f n.t.x n.t.b n.t.m i u hu'.t (h.fit (by omega)) (h.m32 hu)) fun A k B m => ?_)
  unfold Nod.lay
  cases hk : (n.keep (n.t.mark i)).2 with
  | false =>
    dsimp only
    rw [if_neg (by rw [hk]; decide)]
    exact t_y (fun u hu' => keep_as hk A k B m hu'.1 hu'.2) fun a2 => t_lit 9 (e_y a2 fun _ h => h.2)
  | true =>
    dsimp only
    rw [if_pos hk]
    have hkp := fun u (h1 : NM u n a) h2 => keep_as hk A k B m (w := u) h1 h2
    generalize (n.keep (n.t.mark i)).1 = m1 at *
    refine t_y (r := (m1, true)) (fun u hu' => hkp u hu'.1 hu'.2) fun a2 => t_lit 9 ?_
    exact t_s (fun u hu' => rzput_any a2.A a2.B a2.k a2.m m1.t.s m1.t.c m1.t.f m1.t.x m1.t.b m1.t.m i d u hu'.2.t (hm.fit (by omega))) fun A k B m => t_y (fun u hu' => ykeep m1 a2 (m1.t.put i d) A B k m u hu'.1.2 hu'.2) fun a3 => e_y a3 fun _ h => h.2
theorem xlay_as (h : NOk N q n) (hq : q ≤ 890) (hu : n.up = true) (i : Int) (d : ByteArray) {x : Bool} (hx : (n.lay i d).2 = x) (hn : NM w n a) : Calls Tryz.prog 139 #[nodV n a, .int .i64 i, .string d] w (GivesY ((n.lay i d).1, x) w) := by
  have := xlay h hq hu i d hn
  rwa [show n.lay i d = ((n.lay i d).1, x) from Prod.ext rfl hx] at this
theorem xwipe_as (h : NOk N q n) (hq : q ≤ 900) (hu : n.up = true) (i : Int) {x : Bool} (hx : (n.wipe i).2 = x) (hn : NM w n a) : Calls Tryz.prog 204 #[nodV n a, .int .i64 i] w (GivesY ((n.wipe i).1, x) w) := by
  have := xwipe h hq hu i hn
  rwa [show n.wipe i = ((n.wipe i).1, x) from Prod.ext rfl hx] at this
theorem xapply (h : NOk N q n) (hq : q ≤ 890) (hu : n.up = true) (i : Int) (d : ByteArray) (hn : NM w n a) : Calls Tryz.prog 146 #[nodV n a, .int .i64 i, .string d] w (GivesN (n.apply i d) w) := by
  refine run (st_nm n a) hn ?_
  unfold Nod.apply
  have hs := (h.lay hu i d).ses
  cases hk : (n.lay i d).2 with
  | false =>
    dsimp only
    rw [if_neg (by rw [hk]; decide)]
    exact t_y (fun u hu' => xlay_as h hq hu i d hk hu') fun a2 => t_lit 9 (e_n0 a2 fun _ h => h.2)
  | true =>
    dsimp only
    rw [if_pos hk]
    exact t_y (fun u hu' => xlay_as h hq hu i d hk hu') fun a2 => t_lit 9 (t_v (fun u _ => ysend (n.lay i d).1 a2 (pkI 3 i) u hs Hel.zero_wide) (e_n1 a2 fun _ h => h.2))
theorem xcleaned (h : NOk N q n) (hq : q ≤ 890) (hu : n.up = true) (i : Int) (hn : NM w n a) : Calls Tryz.prog 148 #[nodV n a, .int .i64 i] w (GivesN (n.cleaned i) w) :=
  run (st_nm n a) hn (t_y (fun u hu' => xwipe h (by omega) hu i hu') fun a2 => e_n0 a2 fun _ h => h.2)
theorem xgive (h : NOk N q n) (hq : q ≤ 890) (i : Int) (hn : NM w n a) : Calls Tryz.prog 149 #[nodV n a, .int .i64 i] w (GivesN (n.give i) w) :=
  run (st_nm n a) hn (t_v (fun u hu' => rzread_any a.A a.B a.k a.m n.t.s n.t.c n.t.f n.t.x n.t.b n.t.m i u hu'.t (h.fit (by omega))) (t_v (fun u _ => ysend n a (pkD 6 i (n.t.read i).1) u h.ses Hel.zero_wide) (e_n1 a fun _ h => h)))
theorem xdone (hn : NM w n a) : Calls Tryz.prog 153 #[nodV n a] w (GivesA n.done w) :=
  run (st_nm n a) hn (e_a a fun _ h => h.like)
end
end Go.Proofs.YtkjikigimmchlaaGreatDoor
