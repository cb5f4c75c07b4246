/- Nodes that meet, the code's calls of layer 19: what each answers is the document's. No condition but that the node may be, and lies in memory. -/
import Derived.Test.YtkjikigimmchlaaGreatDoorWY
import Derived.Test.YtkjikigimmchlaaGreatDoorRY
import Derived.Test.YtkjikigimmchlaaGreatDoorX5
namespace Go.Proofs.YtkjikigimmchlaaGreatDoor
open Go.RowKit PX
set_option maxRecDepth 100000
section
variable {b : Nat} {wB w : World} {n : Nod} {l : List Ou} {a : Adr} {v : Value} {N q : Nat}
theorem wt_g : WT 134 := by unfold WT; simp
theorem gown (hx : BoxO w b 134 (wkC n a v)) (hk : WK wB n a v l w) : Calls Tryz.prog 112 #[.pointer (some ⟨b, 0, none⟩)] w (GivesW 134 b wB v (n, l) (helV n.own) w) :=
  runW (args := []) (by kernel_rfl) st_wk hx hk (t_v (fun u _ => kown n.t.b n.pri n.t.m) (e_w a v (fun u hu => hu) (From.refl _ _)))
theorem gboth (hid : n.id = 0 ∨ n.id = 1) (x : Hel) (hx : BoxO w b 134 (wkC n a v)) (hk : WK wB n a v l w) : Calls Tryz.prog 67 #[.pointer (some ⟨b, 0, none⟩), helV x] w (GivesW 134 b wB v (n, l) (.tuple #[helV (n.first x), helV (n.second x)]) w) := by
  refine runW (args := [helV x]) (by kernel_rfl) st_wk hx hk ?_
  unfold Nod.first Nod.second
  rcases hid with h0 | h1
  · rw [if_neg (by rw [h0]; decide), if_neg (by rw [h0]; decide)]
    refine t_Y (b := decide (n.id = 0)) 0 (by simpa using h0) ?_
    exact t_w 134 a n (n, l) (From.refl _ _) (fun u hu => hu.2) (fun u b hu _ hx => gown hx hu) fun a2 A2 c2 ho2 => e_w a2 _ (fun u hu => hu) ho2
  · rw [if_pos h1, if_pos h1]
    refine t_N (b := decide (n.id = 0)) 0 (by rw [h1]; rfl) ?_
    exact t_w 134 a n (n, l) (From.refl _ _) (fun u hu => hu.2) (fun u b hu _ hx => gown hx hu) fun a2 A2 c2 ho2 => e_w a2 _ (fun u hu => hu) ho2
theorem genter (s : Int) (x : Hel) (hx : BoxO w b 134 (wkC n a v)) (hk : WK wB n a v l w) : Calls Tryz.prog 115 #[.pointer (some ⟨b, 0, none⟩), .int .i64 s, helV x] w (GivesW 134 b wB v ({ n with st := s, ppri := x.q, peer := x }, l) (.tuple #[]) w) :=
  runW (args := [.int .i64 s, helV x]) (by kernel_rfl) st_wk hx hk (e_w a v (fun u hu => ⟨hu.1.like, hu.2⟩) (From.refl _ _))
theorem glink (hF : Fit n.t.s n.t.c n.t.f) (hw : n.t.b.wide) (x : Hel) (hx : BoxO w b 134 (wkC n a v)) (hk : WK wB n a v l w) : Calls Tryz.prog 70 #[.pointer (some ⟨b, 0, none⟩), helV x] w (GivesW 134 b wB v (if (n.commit { n.t.b.retired with r := n.pri }).2 = true then { (n.commit { n.t.b.retired with r := n.pri }).1 with st := 2, ppri := x.q, peer := x } else (n.commit { n.t.b.retired with r := n.pri }).1, l) (.tuple #[]) w) := by
  refine runW (args := [helV x]) (by kernel_rfl) st_wk hx hk ?_
  refine t_v (args := #[vecV n.t.b.c n.t.b.b n.t.b.o n.t.b.p]) (fun u _ => retire_any n.t.b.c n.t.b.b n.t.b.o n.t.b.p u) ?_
  have hw2 : Sup.wide { n.t.b.retired with r := n.pri } := retired_wide (b := n.t.b) hw
  cases hc : (n.commit { n.t.b.retired with r := n.pri }).2 with
  | true =>
    rw [if_pos rfl]
    refine t_w 134 a n ((n.commit { n.t.b.retired with r := n.pri }).1, l) (From.refl _ _) (fun u hu => hu.2) (fun u b hu _ hx => wcommit wt_g hF hw2 hc hx hu) fun a1 A1 c1 ho1 => t_lit 9 ?_
    exact t_w 134 a1 (n.commit { n.t.b.retired with r := n.pri }).1 ({ (n.commit { n.t.b.retired with r := n.pri }).1 with st := 2, ppri := x.q, peer := x }, l) ho1 (fun u hu => hu.2) (fun u b hu _ hx => genter 2 x hx hu) fun a2 A2 c2 ho2 => e_w a2 _ (fun u hu => hu) ho2
  | false =>
    rw [if_neg (by decide)]
    exact t_w 134 a n ((n.commit { n.t.b.retired with r := n.pri }).1, l) (From.refl _ _) (fun u hu => hu.2) (fun u b hu _ hx => wcommit wt_g hF hw2 hc hx hu) fun a1 A1 c1 ho1 => t_lit 9 (e_w a1 _ (fun u hu => hu) ho1)
theorem ggive (hF : Fit n.t.s n.t.c n.t.f) (hm : n.t.m < 4294967296) (k : Nat) (hk2 : k < 4294967296) (x : Hel) (hx : BoxO w b 134 (wkC n a v)) (hk : WK wB n a v l w) : Calls Tryz.prog 73 #[.pointer (some ⟨b, 0, none⟩), helV x, .int .u32 (k : Nat)] w (GivesW 134 b wB v (if (n.keep (n.t.join k)).2 = true then { (n.keep (n.t.join k)).1 with st := 3, ppri := x.q, peer := x } else (n.keep (n.t.join k)).1, l) (.tuple #[]) w) := by
  refine runW (args := [helV x, .int .u32 (k : Nat)]) (by kernel_rfl) st_wk hx hk ?_
  cases hc : (n.keep (n.t.join k)).2 with
  | true =>
    rw [if_pos rfl]
    refine t_w 134 a n ((n.keep (n.t.join k)).1, l) (From.refl _ _) (fun u hu => hu.2) (fun u b hu _ hx => wjoin wt_g hF hm k hk2 hc hx hu) fun a1 A1 c1 ho1 => t_lit 9 ?_
    exact t_w 134 a1 (n.keep (n.t.join k)).1 ({ (n.keep (n.t.join k)).1 with st := 3, ppri := x.q, peer := x }, l) ho1 (fun u hu => hu.2) (fun u b hu _ hx => genter 3 x hx hu) fun a2 A2 c2 ho2 => e_w a2 _ (fun u hu => hu) ho2
  | false =>
    rw [if_neg (by decide)]
    exact t_w 134 a n ((n.keep (n.t.join k)).1, l) (From.refl _ _) (fun u hu => hu.2) (fun u b hu _ hx => wjoin wt_g hF hm k hk2 hc hx hu) fun a1 A1 c1 ho1 => t_lit 9 (e_w a1 _ (fun u hu => hu) ho1)
def GivesO2 (T : TypeId) (b : Nat) (v0 : Value) (r : Nod × List Ou) (x : Value) (w : World) (e : Ending) (w' : World) : Prop :=
  ∃ a A c, e = .returned x ∧ BoxO w' b T (wkC r.1 a (.slice A r.2.length c)) ∧ NM w' r.1 a ∧ OM w' A c r.2 ∧ From w v0 (.slice A r.2.length c) ∧ But (b :: v0.ownBlock.toList) w.heap.size w w'
theorem runO2 {T : TypeId} {n' : Nod} {l' : List Ou} {x : Value} {f : FuncId} {args : List Value} {K : World → Prop} (hT : tyL T = true) (hs : Stab tyL K) (hx : BoxO w b T (wkC n a v)) (hK : K w)
    (h : OK ⟨Tryz.prog, tyL, w, [b], v.ownBlock.toList⟩ (fun y s u => ∃ cs', s.hp 0 = some (T, cs') ∧ ∃ a' A c, y = x ∧ cs' = wkC n' a' (.slice A l'.length c) ∧ NM u n' a' ∧ OM u A c l' ∧ From w v (.slice A l'.length c)) (treeR ⟨Tryz.prog, tyL, w, [b], v.ownBlock.toList⟩ 0 f T (wkC n a v) args) K) :
    Calls Tryz.prog f (.pointer (some ⟨b, 0, none⟩) :: args).toArray w (GivesO2 T b v (n', l') x w) :=
  runR_ok rfl hs hK hx hT (G := fun y cs' u => ∃ a' A c, y = x ∧ cs' = wkC n' a' (.slice A l'.length c) ∧ NM u n' a' ∧ OM u A c l' ∧ From w v (.slice A l'.length c)) (fun y cs' u hb hx' ⟨a', A, c, h1, h2, h3, h4, h5⟩ => ⟨a', A, c, by rw [h1], by subst h2; exact hx', h3, h4, h5, hb⟩) h
theorem rw_om {u : World} {A : Option Addr} {c : Nat} (h : Rw wB (.slice A l.length c) l u) : OM u A c l := by
  obtain ⟨A', c', e, h1, _⟩ := h.om
  injection e with e1 _ e3
  subst e1; subst e3
  exact h1
theorem fr_from {A : Option Addr} {m c : Nat} {v0 : Value} (h : Fr w A) : From w v0 (.slice A m c) := fun g e => by
  cases A with
  | none => cases e
  | some a => injection e with e; subst e; exact .inl (h a rfl)
theorem from_fr {A : Option Addr} {m c : Nat} (ho : From w (.slice none 0 0) (.slice A m c)) : Fr w A := fun a e => by
  subst e
  rcases ho a.block rfl with h | h
  · exact h
  · cases h
theorem e_O2 {T : TypeId} {t : Tree} {K : World → Prop} {bo rows : List Nat} {n' : Nod} {l' : List Ou} {x : Value} {A : Option Addr} {c : Nat} (a' : Adr) (h : ∀ u, K u → NM u n' a' ∧ OM u A c l') (hf : From w v (.slice A l'.length c)) (hd : t.hd = .ret x := by kernel_rfl) (hs : t.st.hp 0 = some (T, wkC n' a' (.slice A l'.length c)) := by kernel_rfl) :
    OK ⟨Tryz.prog, tyL, w, bo, rows⟩ (fun y s u => ∃ cs', s.hp 0 = some (T, cs') ∧ ∃ a' A c, y = x ∧ cs' = wkC n' a' (.slice A l'.length c) ∧ NM u n' a' ∧ OM u A c l' ∧ From w v (.slice A l'.length c)) t K :=
  t_ret x (fun u hu _ _ => ⟨_, hs, a', A, c, rfl, rfl, (h u hu).1, (h u hu).2, hf⟩) hd
def Nod.takeC (n : Nod) (k : Nat) (x : Hel) : Nod × List Ou :=
  if (n.keep (n.t.join k)).2 = true then (if ((n.keep (n.t.join k)).1.commit { n.t.b with i := true, r := false, b := x.c }).2 = true then Nod.seek { ((n.keep (n.t.join k)).1.commit { n.t.b with i := true, r := false, b := x.c }).1 with st := 4, ppri := x.q, peer := x } else (((n.keep (n.t.join k)).1.commit { n.t.b with i := true, r := false, b := x.c }).1, [])) else ((n.keep (n.t.join k)).1, [])
theorem gtake (h : NOk N q n) (hq : q ≤ 870) (hu : n.up = true) (k : Nat) (hk2 : k < 4294967296) {x : Hel} (hxw : x.wide) (hT : Tab w) (hg : tabG < wB.heap.size) (hx : BoxO w b 134 (wkC n a v)) (hk : WK wB n a v [] w) : Calls Tryz.prog 72 #[.pointer (some ⟨b, 0, none⟩), helV x, .int .u32 (k : Nat)] w (GivesO2 134 b v (n.takeC k x) (.tuple #[]) w) := by
  have hj := h.keep (goes_join (h.live hu) k)
  have hw2 : Sup.wide { n.t.b with i := true, r := false, b := x.c } := ⟨(h.bw hu).1, hxw.1, (h.bw hu).2.2.1, (h.bw hu).2.2.2⟩
  cases hc1 : (n.keep (n.t.join k)).2 with
  | false =>
    rw [show n.takeC k x = ((n.keep (n.t.join k)).1, []) by unfold Nod.takeC; rw [hc1, if_neg (show ¬ (false = true) by decide)]]
    refine runO2 (args := [helV x, .int .u32 (k : Nat)]) (by kernel_rfl) st_wk hx hk ?_
    refine t_v (args := #[vecV n.t.b.c n.t.b.b n.t.b.o n.t.b.p, .int .u64 x.c]) (fun u _ => from_any n.t.b.c n.t.b.b n.t.b.o n.t.b.p x.c u) ?_
    exact t_w 134 a n ((n.keep (n.t.join k)).1, []) (From.refl _ _) (fun u hu => hu.2) (fun u b hu' _ hx => wjoin wt_g (h.fit (by omega)) (h.m32 hu) k hk2 hc1 hx hu') fun a1 A1 c1 ho1 => t_lit 9 (e_O2 (l' := []) a1 (fun u hu => ⟨hu.1, rw_om (l := []) hu.2⟩) ho1)
  | true =>
    have e1 : n.takeC k x = if ((n.keep (n.t.join k)).1.commit { n.t.b with i := true, r := false, b := x.c }).2 = true then Nod.seek { ((n.keep (n.t.join k)).1.commit { n.t.b with i := true, r := false, b := x.c }).1 with st := 4, ppri := x.q, peer := x } else (((n.keep (n.t.join k)).1.commit { n.t.b with i := true, r := false, b := x.c }).1, []) := by unfold Nod.takeC; rw [hc1, if_pos (show true = true from rfl)]
    rw [e1]
    clear e1
    have hu1 : (n.keep (n.t.join k)).1.up = true := by rw [keep_up hc1]; exact hu
    have hJ := fun u b y hy hu' hx => wjoin (w := u) (b := b) (wB := wB) (v := v) (l := []) (n := n) (a := a) (y := y) wt_g (h.fit (by omega)) (h.m32 hu) k hk2 hy hx hu'
    generalize (n.keep (n.t.join k)).1 = m at *
    have hco := hj.commit hu1 hw2
    cases hc2 : (m.commit { n.t.b with i := true, r := false, b := x.c }).2 with
    | false =>
      rw [if_neg (show ¬ (false = true) by decide)]
      refine runO2 (args := [helV x, .int .u32 (k : Nat)]) (by kernel_rfl) st_wk hx hk ?_
      refine t_v (args := #[vecV n.t.b.c n.t.b.b n.t.b.o n.t.b.p, .int .u64 x.c]) (fun u _ => from_any n.t.b.c n.t.b.b n.t.b.o n.t.b.p x.c u) ?_
      refine t_w 134 a n (m, []) (From.refl _ _) (fun u hu => hu.2) (fun u b hu' _ hx => hJ u b true hc1 hu' hx) fun a1 A1 c1 ho1 => t_lit 9 ?_
      exact t_w 134 a1 m ((m.commit { n.t.b with i := true, r := false, b := x.c }).1, []) ho1 (fun u hu => hu.2) (fun u b hu' _ hx => wcommit wt_g (hj.fit (by omega)) hw2 hc2 hx hu') fun a2 A2 c2 ho2 => t_lit 9 (e_O2 (l' := []) a2 (fun u hu => ⟨hu.1, rw_om (l := []) hu.2⟩) ho2)
    | true =>
      rw [if_pos (show true = true from rfl)]
      refine runO2 (args := [helV x, .int .u32 (k : Nat)]) (by kernel_rfl) st_wk hx hk ?_
      refine t_v (args := #[vecV n.t.b.c n.t.b.b n.t.b.o n.t.b.p, .int .u64 x.c]) (fun u _ => from_any n.t.b.c n.t.b.b n.t.b.o n.t.b.p x.c u) ?_
      refine t_w 134 a n (m, []) (From.refl _ _) (fun u hu => hu.2) (fun u b hu' _ hx => hJ u b true hc1 hu' hx) fun a1 A1 c1 ho1 => t_lit 9 ?_
      have hu2 : (m.commit { n.t.b with i := true, r := false, b := x.c }).1.up = true := by rw [commit_up hc2]; exact hu1
      refine t_w 134 a1 m ((m.commit { n.t.b with i := true, r := false, b := x.c }).1, []) ho1 (fun u hu => hu.2) (fun u b hu' _ hx => wcommit wt_g (hj.fit (by omega)) hw2 hc2 hx hu') fun a2 A2 c2 ho2 => t_lit 9 ?_
      generalize (m.commit { n.t.b with i := true, r := false, b := x.c }).1 = p at *
      have hz : NOk N (q + 1 + 1) { p with st := 4, ppri := x.q, peer := x } := hco.as rfl rfl hco.ses hxw rfl rfl
      refine t_w 134 a2 p ({ p with st := 4, ppri := x.q, peer := x }, []) ho2 (fun u hu => hu.2) (fun u b hu' _ hx => genter 4 x hx hu') fun a3 A3 c3 ho3 => ?_
      refine t_call (args := #[nodV { p with st := 4, ppri := x.q, peer := x } a3]) (fun u hu' hb => wSeek hz (by omega) hu2 (tab_but hT hx hk.2 hg hb) hu'.1) ?_
      rintro u e u' hu' hb ⟨a4, O, k4, rfl, q1, q2, q3, q4⟩
      refine ⟨_, _, rfl, q3, (st_nm _ _).and (st_om _ _ _), ⟨q1, q2⟩, ?_⟩
      exact e_O2 (n' := (Nod.seek { p with st := 4, ppri := x.q, peer := x }).1) (l' := (Nod.seek { p with st := 4, ppri := x.q, peer := x }).2) a4 (fun u hu => hu.2) (fr_from (fr_up (base_size hb) q4))
theorem met_is (x : Hel) : n.met x = if n.verK x = 4 then (n, [n.close]) else if n.verK x = 1 then (if (n.commit { n.t.b.retired with r := n.pri }).2 = true then { (n.commit { n.t.b.retired with r := n.pri }).1 with st := 2, ppri := x.q, peer := x } else (n.commit { n.t.b.retired with r := n.pri }).1, []) else if n.verS x = n.id then (if (n.keep (n.t.join (n.verB x))).2 = true then { (n.keep (n.t.join (n.verB x))).1 with st := 3, ppri := x.q, peer := x } else (n.keep (n.t.join (n.verB x))).1, []) else n.takeC (n.verB x) x := by
  unfold Nod.met Nod.takeC
  split
  · rfl
  split
  · rfl
  dsimp only
  by_cases hs : n.verS x = n.id
  · rw [if_pos hs]
    split <;> rfl
  · simp only [if_neg hs]
theorem tgt_is (hid : n.id = 0 ∨ n.id = 1) (x : Hel) (h4 : n.verK x ≠ 4) (h1 : n.verK x ≠ 1) : tgtI (n.verS x) = n.id ↔ ¬ n.verS x = n.id := by
  have hs : n.verS x = 0 ∨ n.verS x = 1 := by
    rcases dec_safe (n.first x) (n.second x) with ⟨_, e | e⟩ | ⟨_, _, ⟨e, _⟩ | ⟨e, _⟩⟩
    · exact absurd e h1
    · exact absurd e h4
    · exact .inl e
    · exact .inr e
  unfold tgtI
  rcases hid with e | e <;> rcases hs with q | q <;> rw [e, q] <;> decide
theorem gmet (h : NOk N q n) (hq : q ≤ 870) (hu : n.up = true) (hid : n.id = 0 ∨ n.id = 1) {x : Hel} (hx : x.wide) (hp : Meets x) (hT : Tab w) (hn : NM w n a) : Calls Tryz.prog 37 #[nodV n a, helV x] w (GivesN (n.met x) w) := by
  have ho := own_meets h hu
  have hf : Meets (n.first x) ∧ Meets (n.second x) := by
    unfold Nod.first Nod.second
    split
    · exact ⟨hp, ho⟩
    · exact ⟨ho, hp⟩
  have hvb := ver_small h hu hp
  rw [met_is]
  have hts := tgt_is (n := n) hid x
  refine run (st_nm n a) hn (t_v (fun u _ => wof n a u) ?_)
  refine t_at (l := []) 134 n a (n, []) (.tuple #[helV (n.first x), helV (n.second x)]) (From.refl _ _) (fun u hu => ⟨hu, rw_nil w u⟩) (fun u b _ hu' hx => gboth hid x hx hu') fun a1 A1 c1 ho1 => ?_
  refine t_v (fun u _ => kdecide (n.first x) (n.second x)) ?_
  refine t_v (fun u _ => bits_any (decK (n.first x) (n.second x)) (decS (n.first x) (n.second x)) (n.first x) (n.second x) u hf.1.m hf.2.m hf.1.n) ?_
  have eK : decK (n.first x) (n.second x) = n.verK x := rfl
  have eS : decS (n.first x) (n.second x) = n.verS x := rfl
  have eB : bitsB (n.verK x) (n.first x) (n.second x) = n.verB x := rfl
  rw [eK, eS, eB]
  generalize n.verK x = K at *
  generalize n.verS x = S at *
  generalize n.verB x = B at *
  by_cases h4 : K = 4
  · rw [if_pos h4]
    refine t_Y (b := decide (K = 4)) 9 (by simpa using h4) ?_
    refine t_at (l := []) 134 n a1 (n, [] ++ [n.close]) (.tuple #[]) ho1 (fun u hu => hu) (fun u b hz hu' hx => wclose (l := []) wt_g hz (by simp) hx hu') fun a2 A2 c2 ho2 => ?_
    exact e_nr a2 _ fun u hu => hu
  rw [if_neg h4]
  refine t_N (b := decide (K = 4)) 0 (by simpa using h4) ?_
  by_cases h1 : K = 1
  · rw [if_pos h1]
    refine t_Y (b := decide (K = 1)) 9 (by simpa using h1) ?_
    refine t_at (l := []) 134 n a1 (if (n.commit { n.t.b.retired with r := n.pri }).2 = true then { (n.commit { n.t.b.retired with r := n.pri }).1 with st := 2, ppri := x.q, peer := x } else (n.commit { n.t.b.retired with r := n.pri }).1, []) (.tuple #[]) ho1 (fun u hu => hu) (fun u b _ hu' hx => glink (h.fit (by omega)) (h.bw hu) x hx hu') fun a2 A2 c2 ho2 => ?_
    exact e_nr (r := (if (n.commit { n.t.b.retired with r := n.pri }).2 = true then { (n.commit { n.t.b.retired with r := n.pri }).1 with st := 2, ppri := x.q, peer := x } else (n.commit { n.t.b.retired with r := n.pri }).1, [])) a2 _ fun u hu => hu
  rw [if_neg h1]
  refine t_N (b := decide (K = 1)) 0 (by simpa using h1) (t_v (fun u _ => ktarget K S) ?_)
  by_cases hs : S = n.id
  · rw [if_pos hs]
    refine t_N (b := decide (tgtI S = n.id)) 9 (by simp; exact fun e => (hts h4 h1).1 e hs) ?_
    refine t_at (l := []) 134 n a1 (if (n.keep (n.t.join B)).2 = true then { (n.keep (n.t.join B)).1 with st := 3, ppri := x.q, peer := x } else (n.keep (n.t.join B)).1, []) (.tuple #[]) ho1 (fun u hu => hu) (fun u b _ hu' hx => ggive (h.fit (by omega)) (h.m32 hu) B hvb x hx hu') fun a2 A2 c2 ho2 => ?_
    exact e_nr (r := (if (n.keep (n.t.join B)).2 = true then { (n.keep (n.t.join B)).1 with st := 3, ppri := x.q, peer := x } else (n.keep (n.t.join B)).1, [])) a2 _ fun u hu => hu
  · rw [if_neg hs]
    refine t_Y (b := decide (tgtI S = n.id)) 9 (by simp; exact (hts h4 h1).2 hs) ?_
    refine t_cgrow (f := 72) (T := 134) (cs := wkC n a1 (.slice A1 0 c1)) (args := [helV x, .int .u32 (B : Nat)]) (R' := fun u b => GivesO2 134 b (.slice A1 0 c1) (n.takeC B x) (.tuple #[]) u) (fun u b hu' hb hx' => gtake (wB := w) h hq hu B hvb hx (hT.below (base_below hb) hT.size) (tab_lt hT) hx' hu') (fun u b e u' hu' hb _ hx' hR => ?_)
    obtain ⟨a2, A2, c2, rfl, q1, q2, q3, q4, q5⟩ := hR
    have hsz : w.heap.size ≤ u.heap.size := base_size hb
    refine ⟨_, _, _, rfl, ⟨q5.1, q5.2.1, q5.2.2.1, q5.2.2.2.1, fun k hk hkb => ?_⟩, q1, (st_nm _ _).and (st_om _ _ _), ⟨q2, q3⟩, ?_⟩
    · by_cases e : (Value.slice A1 0 c1).ownBlock = some k
      · obtain ⟨_, h6⟩ := hu'.2.own
        rcases h6 with ⟨q, _⟩ | ⟨g', cap, cur, q, hbg, hcg, _⟩
        · have q : Value.slice A1 0 c1 = .slice none 0 0 := q
          rw [q] at e; cases e
        · have q : Value.slice A1 0 c1 = .slice (some ⟨g', 0, none⟩) _ cap := q
          rw [q] at e
          injection e with e
          subst e
          exact .inr ⟨.inl hbg, _, _, _, rfl, hcg⟩
      · exact .inl (q5.2.2.2.2 k hk (by
          simp only [List.mem_cons, Option.mem_toList, not_or]
          exact ⟨hkb, e⟩))
    · refine e_n (r := n.takeC B x) a2 A2 c2 fun u hu => ⟨hu.1, hu.2, fun ad e => ?_⟩
      subst e
      rcases q4 ad.block rfl with q | q
      · exact Nat.le_trans hsz q
      · exact from_fr (m := 0) (c := c1) (A := A1) ho1 |> fun f => by
          cases A1 with
          | none => cases q
          | some a9 => injection q with q; rw [← q]; exact f a9 rfl
end
end Go.Proofs.YtkjikigimmchlaaGreatDoor
