/- Nodes that copy blocks, the code's calls of layer 18: what each answers is the document's. No condition but that the node may be, and lies in memory. -/
import Derived.Test.YtkjikigimmchlaaGreatDoorWQ
import Derived.Test.YtkjikigimmchlaaGreatDoorX1
import Derived.Test.YtkjikigimmchlaaGreatDoorKM
namespace Go.Proofs.YtkjikigimmchlaaGreatDoor
open Go.RowKit PX
set_option maxRecDepth 100000
def tabG : Nat := 1
section
variable {T : TypeId} {b : Nat} {wB w : World} {n : Nod} {l : List Ou} {a : Adr} {v : Value} {N q : Nat}
theorem tab_lt {u : World} (h : Tab u) : tabG < u.heap.size := World.block_lt_of_cell? u _ (h 0 (by decide))
theorem own_big' {u : World} (h : Rw wB v l u) : ∀ g, v.ownBlock = some g → wB.heap.size ≤ g := fun g e => by
  obtain ⟨_, h2⟩ := h.own
  rcases h2 with ⟨rfl, _⟩ | ⟨g', cap, cur, rfl, hb', hc, _⟩
  · cases e
  · injection e with e
    subst e
    exact hb'
theorem wt_s : WT 146 := by unfold WT; simp
theorem tab_but {u : World} (h : Tab w) (hx : BoxO w b T (wkC n a v)) (hr : Rw wB v l w) (hg : tabG < wB.heap.size) (hb : (⟨Tryz.prog, tyL, w, [b], v.ownBlock.toList⟩ : Cx).base u) : Tab u := by
  have hne : tabG ≠ b := fun e => by
    have h0 := h 0 (by decide)
    have h1 := BoxO.cell hx 0
    have e2 : (⟨tabG, 0, none⟩ : Addr) = ⟨b, 0, none⟩ := by rw [e]
    rw [show (⟨1, 0, none⟩ : Addr) = ⟨tabG, 0, none⟩ from rfl, e2, h1] at h0
    cases h0
  have hnr : tabG ∉ [b] ++ v.ownBlock.toList := fun hm => by
    rcases List.mem_append.1 hm with hm | hm
    · exact hne (List.mem_singleton.1 hm)
    · rw [Option.mem_toList] at hm
      have := own_big' hr tabG hm
      omega
  intro j hj
  have hlt : tabG < w.heap.size := World.block_lt_of_cell? w _ (h 0 (by decide))
  refine (World.cell?_of_block (w := w) ?_).trans (h j hj)
  exact hb.2.2.2.2 tabG hlt hnr
theorem t_wB {bo : List Nat} {F : Value → S → World → Prop} {K : World → Prop} {t : Tree} {f : FuncId} {args : List Value} {v0 : Value} (T : TypeId) (a : Adr) (n : Nod) (r : Nod × List Ou) (x : Value) (ho : From w v0 v) (hr : ∀ u, K u → Rw wB v l u)
    (hc : ∀ u b, K u → (⟨Tryz.prog, tyL, w, bo, v0.ownBlock.toList⟩ : Cx).base u → BoxO u b T (wkC n a v) → Calls Tryz.prog f (.pointer (some ⟨b, 0, none⟩) :: args).toArray u (GivesW T b wB v r x u))
    (h : ∀ a' A c, From w v0 (.slice A r.2.length c) → OK ⟨Tryz.prog, tyL, w, bo, v0.ownBlock.toList⟩ F (t.nc x (wkC r.1 a' (.slice A r.2.length c))) fun u => NM u r.1 a' ∧ Rw wB (.slice A r.2.length c) r.2 u) (hT : tyL T = true := by kernel_rfl) (hd : t.hd = .cgrow f T (wkC n a v) args := by kernel_rfl) : OK ⟨Tryz.prog, tyL, w, bo, v0.ownBlock.toList⟩ F t K := by
  refine t_cgrow (fun u b hu hb hx => hc u b hu hb hx) (fun u b e u' hu hb _ hx hR => ?_) hT hd
  obtain ⟨a', v', rfl, h1, h2, h3, h4, h5⟩ := hR
  obtain ⟨A, c, rfl, _⟩ := h3.om
  have hsz : w.heap.size ≤ u.heap.size := base_size hb
  refine ⟨x, _, _, rfl, ⟨h4.1, h4.2.1, h4.2.2.1, h4.2.2.2.1, fun k hk hkb => ?_⟩, h1, (st_nm _ _).and (st_rw _ _ _), ⟨h2, h3⟩, h a' A c fun g hg => ?_⟩
  · by_cases e : v.ownBlock = some k
    · obtain ⟨_, h6⟩ := (hr u hu).own
      rcases h6 with ⟨q, _⟩ | ⟨g', cap, cur, q, hbg, hcg, _⟩
      · rw [q] at e; cases e
      · rw [q] at e
        injection e with e
        subst e
        exact .inr ⟨ho.mem (by rw [q]; rfl), _, _, _, rfl, hcg⟩
    · exact .inl (h4.2.2.2.2 k hk (by
        simp only [List.mem_cons, Option.mem_toList, not_or]
        exact ⟨hkb, e⟩))
  · rcases h5 g hg with q | q
    · exact .inl (Nat.le_trans hsz q)
    · exact ho g q
def Nod.endS (n : Nod) : Sup := Sup.retired ⟨n.t.b.n, n.peer.c, n.peer.b, n.peer.o, n.peer.p, false, false, false⟩
theorem wend (hB : wB.heap.size ≤ w.heap.size) (hl : l.length ≤ 900) (hF : Fit n.t.s n.t.c n.t.f) (hw : n.endS.wide) (hs : B64 (n.commit n.endS).1.ses) (hx : BoxO w b 146 (wkC n a v)) (hk : WK wB n a v l w) : Calls Tryz.prog 125 #[.pointer (some ⟨b, 0, none⟩)] w (GivesW 146 b wB v ((n.commit n.endS).1, l ++ if (n.commit n.endS).2 = true then [(n.commit n.endS).1.send (pk 8)] else []) (.tuple #[]) w) := by
  refine runW (args := []) (by kernel_rfl) st_wk hx hk ?_
  refine t_v (args := #[vecV n.peer.c n.peer.b n.peer.o n.peer.p]) (fun u _ => retire_any n.peer.c n.peer.b n.peer.o n.peer.p u) ?_
  cases hc : (n.commit n.endS).2 with
  | false =>
    rw [if_neg (by decide), List.append_nil]
    exact t_w 146 a n ((n.commit n.endS).1, l) (From.refl _ _) (fun u hu => hu.2) (fun u b hu _ hx => wcommit wt_s hF hw hc hx hu) fun a' A c ho => t_lit 9 (e_w a' _ (fun u hu => hu) ho)
  | true =>
    rw [if_pos rfl]
    refine t_w 146 a n ((n.commit n.endS).1, l) (From.refl _ _) (fun u hu => hu.2) (fun u b hu _ hx => wcommit wt_s hF hw hc hx hu) fun a' A c ho => t_lit 9 ?_
    exact t_w 146 a' (n.commit n.endS).1 ((n.commit n.endS).1, l ++ [(n.commit n.endS).1.send (pk 8)]) ho (fun u hu => hu.2) (fun u b hu hs2 hx => wsend wt_s (Nat.le_trans hB hs2) (by omega) (pk 8) hs Hel.zero_wide hx hu) fun a2 A2 c2 ho2 => e_w a2 _ (fun u hu => hu) ho2
theorem wseek (hB : wB.heap.size ≤ w.heap.size) (hl : l.length ≤ 900) (hF : Fit n.t.s n.t.c n.t.f) (hw : n.endS.wide) (hs0 : B64 n.ses) (hs : B64 (n.commit n.endS).1.ses) (hm : n.t.m < 4294967296) (hT : Tab w) (hg : tabG < wB.heap.size) (hx : BoxO w b 146 (wkC n a v)) (hk : WK wB n a v l w) : Calls Tryz.prog 80 #[.pointer (some ⟨b, 0, none⟩)] w (GivesW 146 b wB v (n.seek.1, l ++ n.seek.2) (.tuple #[]) w) := by
  refine runW (args := []) (by kernel_rfl) st_wk hx hk ?_
  unfold Nod.seek
  by_cases h0 : n.t.b.i = false
  · rw [if_pos (.inl h0), List.append_nil]
    exact t_N (b := !(!n.t.b.i)) 30 (by simp [h0]) (e_w a v (fun u hu => hu) (From.refl _ _))
  refine t_Y (b := !(!n.t.b.i)) 6 (by simpa using h0) ?_
  by_cases h1 : n.want = 0
  rotate_left
  · rw [if_pos (.inr h1), List.append_nil]
    exact t_Y (b := !(n.want == 0)) 30 (by simpa using h1) (e_w a v (fun u hu => hu) (From.refl _ _))
  rw [if_neg (by simp [h0, h1])]
  refine t_N (b := !(n.want == 0)) 0 (by simpa using h1) ?_
  have hnx := fun u (hT : Tab u) => next_any n.t.m 0 u hm hT
  cases hn : nx n.t.m 0 with
  | none =>
    rw [hn] at hnx
    refine t_call (args := #[.int .u32 n.t.m, .int .i64 0]) (fun u _ hb => hnx u (tab_but hT hx hk.2 hg hb)) ?_
    rintro u e u' _ _ ⟨rfl, rfl⟩
    refine ⟨.tuple #[.int .i64 0, .bool false], fun _ => True, rfl, Below.refl _ _, st_p _, trivial, ?_⟩
    refine t_lit 1 ?_
    exact t_w 146 a n ((n.commit n.endS).1, l ++ if (n.commit n.endS).2 = true then [(n.commit n.endS).1.send (pk 8)] else []) (From.refl _ _) (fun u hu => hu.1.2) (fun u b hu hs2 hx => wend (Nat.le_trans hB hs2) hl hF hw hs hx hu.1) fun a2 A2 c2 ho2 => t_lit 9 (e_w a2 _ (fun u hu => hu) ho2)
  | some j =>
    rw [hn] at hnx
    obtain ⟨_, hj32, _⟩ := nx_some.1 hn
    have hw1 : IntKind.i64.wrap ((j : Int) + 1) = (j : Int) + 1 := wrap_i64 (by omega) (by omega)
    refine t_call (args := #[.int .u32 n.t.m, .int .i64 0]) (fun u _ hb => hnx u (tab_but hT hx hk.2 hg hb)) ?_
    rintro u e u' _ _ ⟨rfl, rfl⟩
    refine ⟨.tuple #[.int .i64 (j : Int), .bool true], fun _ => True, rfl, Below.refl _ _, st_p _, trivial, ?_⟩
    dsimp only
    rw [show ({ n with want := (j : Int) + 1 } : Nod) = { n with want := IntKind.i64.wrap ((j : Int) + 1) } by rw [hw1]]
    refine t_lit 1 ?_
    exact t_w 146 a { n with want := IntKind.i64.wrap ((j : Int) + 1) } ({ n with want := IntKind.i64.wrap ((j : Int) + 1) }, l ++ [n.send (pkI 5 j)]) (From.refl _ _) (fun u hu => hu.1.2) (fun u b hu hs2 hx => wsend (n := { n with want := IntKind.i64.wrap ((j : Int) + 1) }) wt_s (Nat.le_trans hB hs2) (by omega) (pkI 5 j) hs0 Hel.zero_wide hx ⟨hu.1.1.like, hu.1.2⟩) fun a2 A2 c2 ho2 => t_lit 9 (e_w a2 _ (fun u hu => hu) ho2)
theorem seek_ok (h : NOk N q n) (hu : n.up = true) : n.endS.wide ∧ B64 (n.commit n.endS).1.ses := by
  have hw : n.endS.wide := peer_wide h.peer _
  exact ⟨hw, (h.commit hu hw).ses⟩
theorem wSeek (h : NOk N q n) (hq : q ≤ 880) (hu : n.up = true) (hT : Tab w) (hn : NM w n a) : Calls Tryz.prog 118 #[nodV n a] w (GivesN n.seek w) := by
  refine run (st_nm n a) hn (t_v (fun u _ => wof n a u) ?_)
  refine t_wB (l := []) (v := .slice none 0 0) (v0 := .slice none 0 0) 146 a n (n.seek.1, [] ++ n.seek.2) (.tuple #[]) (From.refl _ _) (fun u _ => rw_nil w u) (fun u b hu' hb hx => wseek (l := []) (base_size hb) (by simp) (h.fit (by omega)) (seek_ok h hu).1 h.ses (seek_ok h hu).2 (h.m32 hu) (hT.below (base_below hb) hT.size) (tab_lt hT) hx ⟨hu', rw_nil w u⟩) fun a2 A2 c2 ho2 => ?_
  exact e_nr (r := n.seek) a2 _ fun u hu => hu
theorem wGive (h : NOk N q n) (hq : q ≤ 880) (i : Int) (he : (n.t.read i).2 = 0) (hn : NM w n a) : Calls Tryz.prog 41 #[nodV n a, .int .i64 i] w (GivesN (n.give i) w) := by
  refine run (st_nm n a) hn (t_v (fun u _ => wof n a u) ?_)
  refine t_v (v := .tuple #[.string (n.t.read i).1, .int .i64 0]) (fun u hu => by have := zread_any a.A a.B a.k a.m n.t.s n.t.c n.t.f n.t.x n.t.b n.t.m i u hu.t (h.fit (by omega)); rw [show (readA n.t.s n.t.c n.t.x i).2 = 0 from he] at this; exact this) ?_
  unfold Nod.give
  refine t_lit 9 ?_
  refine t_at (l := []) 146 n a (n, [] ++ [n.send (pkD 6 i (n.t.read i).1)]) (.tuple #[]) (From.refl _ _) (fun u hu => ⟨hu, rw_nil w u⟩) (fun u b hz hu' hx => wsend (l := []) wt_s hz (by simp) (pkD 6 i (n.t.read i).1) h.ses Hel.zero_wide hx hu') fun a2 A2 c2 ho2 => ?_
  exact e_nr a2 _ fun u hu => hu
theorem wCopied (h : NOk N q n) (hq : q ≤ 880) (hu : n.up = true) (i : Int) (hn : NM w n a) : Calls Tryz.prog 43 #[nodV n a, .int .i64 i] w (GivesN (n.copied i) w) := by
  refine run (st_nm n a) hn (t_v (fun u _ => wof n a u) ?_)
  have key : ∀ (T : Tree) (K : World → Prop), (∀ u, K u → NM u n a) → T.hd = .cgrow 77 146 (wkC n a (.slice none 0 0)) [.int .i64 i] → (∀ y a2 A2 c2, ((T.nc (.bool y) (wkC (n.wipe i).1 a2 (.slice A2 0 c2))).lit 9).hd = .ret (.tuple #[nodV (n.wipe i).1 a2, .slice A2 0 c2])) → OK ⟨Tryz.prog, tyL, w, [], []⟩ (fun v _ u => GivesN ((n.wipe i).1, []) w (.returned v) u) T K := fun T K hK c1 c2 =>
    t_at (l := []) 146 n a ((n.wipe i).1, []) (.bool (n.wipe i).2) (From.refl _ _) (fun u hu => ⟨hK u hu, rw_nil w u⟩) (fun u b _ hu' hx => wwipe wt_s (h.fit (by omega)) (h.m32 hu) i rfl hx hu') (fun a3 A3 c3 ho3 => t_lit 9 (e_nr (r := ((n.wipe i).1, [])) a3 _ (fun u hu => hu) (c2 _ a3 A3 c3))) (by kernel_rfl) c1
  unfold Nod.copied
  by_cases h0 : n.rq.on = true
  · by_cases h1 : n.rq.i = i
    · rw [if_pos ⟨h0, h1⟩]
      exact t_Y (b := !(!n.rq.on)) 6 (by simpa using h0) (t_N (b := !(n.rq.i == i)) 9 (by simpa using h1) (e_n0 a fun u hu => hu))
    · rw [if_neg (fun h => h1 h.2)]
      exact t_Y (b := !(!n.rq.on)) 6 (by simpa using h0) (t_Y (b := !(n.rq.i == i)) 0 (by simpa using h1) (key _ _ (fun u hu => hu) (by kernel_rfl) (by intros; kernel_rfl)))
  · rw [if_neg (fun h => h0 h.1)]
    exact t_N (b := !(!n.rq.on)) 7 (by simpa using h0) (key _ _ (fun u hu => hu) (by kernel_rfl) (by intros; kernel_rfl))
theorem wEnded (h : NOk N q n) (hq : q ≤ 880) (hu : n.up = true) (hn : NM w n a) : Calls Tryz.prog 44 #[nodV n a] w (GivesN n.ended w) := by
  refine run (st_nm n a) hn (t_v (fun u _ => wof n a u) ?_)
  refine t_v (args := #[vecV n.t.b.c n.t.b.b n.t.b.o n.t.b.p]) (fun u _ => retire_any n.t.b.c n.t.b.b n.t.b.o n.t.b.p u) ?_
  have hw : Sup.wide { n.t.b.retired with r := n.pri } := retired_wide (b := n.t.b) (h.bw hu)
  have hs := (h.commit hu hw).ses
  unfold Nod.ended
  dsimp only
  cases hc : (n.commit { n.t.b.retired with r := n.pri }).2 with
  | true =>
    rw [if_pos rfl]
    refine t_at (l := []) 146 n a ((n.commit { n.t.b.retired with r := n.pri }).1, []) (.bool true) (From.refl _ _) (fun u hu => ⟨hu, rw_nil w u⟩) (fun u b _ hu' hx => wcommit wt_s (h.fit (by omega)) hw hc hx hu') fun a1 A1 c1 ho1 => t_lit 9 ?_
    refine t_at (l := []) 146 { (n.commit { n.t.b.retired with r := n.pri }).1 with st := 2 } a1 ({ (n.commit { n.t.b.retired with r := n.pri }).1 with st := 2 }, [] ++ [(n.commit { n.t.b.retired with r := n.pri }).1.send (pk 9)]) (.tuple #[]) ho1 (fun u hu => ⟨hu.1.like, hu.2⟩) (fun u b hz hu' hx => wsend (l := []) (n := { (n.commit { n.t.b.retired with r := n.pri }).1 with st := 2 }) wt_s hz (by simp) (pk 9) hs Hel.zero_wide hx hu') fun a2 A2 c2 ho2 => ?_
    exact e_nr a2 _ fun u hu => hu
  | false =>
    rw [if_neg (by decide)]
    exact t_at (l := []) 146 n a ((n.commit { n.t.b.retired with r := n.pri }).1, []) (.bool false) (From.refl _ _) (fun u hu => ⟨hu, rw_nil w u⟩) (fun u b _ hu' hx => wcommit wt_s (h.fit (by omega)) hw hc hx hu') fun a1 A1 c1 ho1 => t_lit 9 (e_nr (r := ((n.commit { n.t.b.retired with r := n.pri }).1, [])) a1 _ fun u hu => hu)
theorem wDone (hn : NM w n a) : Calls Tryz.prog 45 #[nodV n a] w (GivesA n.done w) :=
  run (st_nm n a) hn (e_a a fun _ h => h.like)
theorem wGot (h : NOk N q n) (hq : q ≤ 880) (hu : n.up = true) (i : Int) (h0 : 0 ≤ i) (h1 : i < 1000) (d : ByteArray) (hT : Tab w) (hn : NM w n a) : Calls Tryz.prog 42 #[nodV n a, .int .i64 i, .string d] w (GivesN (n.got i d) w) := by
  have hw1 : IntKind.i64.wrap (i + 1) = i + 1 := wrap_i64 (by omega) (by omega)
  refine run (st_nm n a) hn (t_v (fun u _ => wof n a u) ?_)
  unfold Nod.got
  by_cases hw : n.want = i + 1
  rotate_left
  · rw [if_neg hw]
    exact t_Y (b := !(n.want == IntKind.i64.wrap (i + 1))) 9 (by rw [hw1]; simpa using hw) (e_n0 a fun u hu => hu)
  rw [if_pos hw]
  refine t_N (b := !(n.want == IntKind.i64.wrap (i + 1))) 0 (by rw [hw1]; simpa using hw) ?_
  have hm := h.keep (goes_put (h.live hu) i d)
  dsimp only
  cases hk1 : (n.keep (n.t.put i d)).2 with
  | false =>
    rw [if_neg (by decide)]
    exact t_at (l := []) 146 n a ((n.keep (n.t.put i d)).1, []) (.bool false) (From.refl _ _) (fun u hu => ⟨hu, rw_nil w u⟩) (fun u b _ hu' hx => wput wt_s (h.fit (by omega)) i d hk1 hx hu') fun a1 A1 c1 ho1 => t_lit 9 (e_nr (r := ((n.keep (n.t.put i d)).1, [])) a1 _ fun u hu => hu)
  | true =>
    rw [if_pos rfl]
    have hu2 : (n.keep (n.t.put i d)).1.up = true := by rw [keep_up hk1]; exact hu
    refine t_at (l := []) 146 n a ((n.keep (n.t.put i d)).1, []) (.bool true) (From.refl _ _) (fun u hu => ⟨hu, rw_nil w u⟩) (fun u b _ hu' hx => wput wt_s (h.fit (by omega)) i d hk1 hx hu') fun a1 A1 c1 ho1 => t_lit 9 ?_
    generalize (n.keep (n.t.put i d)).1 = m at *
    have hp := hm.wipe hu2 i
    cases hk2 : (m.wipe i).2 with
    | false =>
      rw [if_neg (by decide)]
      exact t_at (l := []) 146 m a1 ((m.wipe i).1, []) (.bool false) ho1 (fun u hu => hu) (fun u b _ hu' hx => wwipe wt_s (hm.fit (by omega)) (hm.m32 hu2) i hk2 hx hu') fun a2 A2 c2 ho2 => t_lit 9 (e_nr (r := ((m.wipe i).1, [])) a2 _ fun u hu => hu)
    | true =>
      rw [if_pos rfl]
      have hu3 : (m.wipe i).1.up = true := by
        have := keep_up (n := m) (r := m.t.wipe i) hk2
        unfold Nod.wipe
        rw [this]
        exact hu2
      refine t_at (l := []) 146 m a1 ((m.wipe i).1, []) (.bool true) ho1 (fun u hu => hu) (fun u b _ hu' hx => wwipe wt_s (hm.fit (by omega)) (hm.m32 hu2) i hk2 hx hu') fun a2 A2 c2 ho2 => t_lit 9 ?_
      generalize (m.wipe i).1 = p at *
      have hz : NOk N (q + 1 + 1) { p with want := 0 } := hp.as rfl rfl hp.ses hp.peer rfl rfl
      refine t_at (l := []) 146 { p with want := 0 } a2 ({ p with want := 0 }, [] ++ [p.send (pkI 7 i)]) (.tuple #[]) ho2 (fun u hu => ⟨hu.1.like, hu.2⟩) (fun u b hz' hu' hx => wsend (l := []) (n := { p with want := 0 }) wt_s hz' (by simp) (pkI 7 i) hp.ses Hel.zero_wide hx hu') fun a3 A3 c3 ho3 => ?_
      refine t_wB (l := [] ++ [p.send (pkI 7 i)]) (v := .slice A3 ([] ++ [p.send (pkI 7 i)]).length c3) (v0 := .slice none 0 0) 146 a3 { p with want := 0 } ((Nod.seek { p with want := 0 }).1, [p.send (pkI 7 i)] ++ (Nod.seek { p with want := 0 }).2) (.tuple #[]) ho3 (fun u hu => hu.2) (fun u b hu' hb hx => wseek (l := [p.send (pkI 7 i)]) (v := .slice A3 ([] ++ [p.send (pkI 7 i)]).length c3) (n := { p with want := 0 }) (base_size hb) (by simp) (hz.fit (by omega)) (seek_ok hz hu3).1 hz.ses (seek_ok hz hu3).2 (hz.m32 hu3) (hT.below (base_below hb) hT.size) (tab_lt hT) hx ⟨hu'.1, hu'.2⟩) fun a4 A4 c4 ho4 => ?_
      exact e_nr (r := ((Nod.seek { p with want := 0 }).1, p.send (pkI 7 i) :: (Nod.seek { p with want := 0 }).2)) a4 _ fun u hu => hu
end
end Go.Proofs.YtkjikigimmchlaaGreatDoor
