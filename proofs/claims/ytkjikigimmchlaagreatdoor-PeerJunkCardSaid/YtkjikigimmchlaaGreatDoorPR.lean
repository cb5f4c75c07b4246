/- What a node does with bytes of the other one: the code's calls of layer 20; what each answers is the document's. Under: the table of math/bits and the type of errors as they are laid. -/
import Derived.Test.YtkjikigimmchlaaGreatDoorGX
import Derived.Test.YtkjikigimmchlaaGreatDoorPQ
import Derived.Test.YtkjikigimmchlaaGreatDoorWX
namespace Go.Proofs.YtkjikigimmchlaaGreatDoor
open Go.RowKit PX
set_option maxRecDepth 100000
section
variable {b : Nat} {wB w : World} {n : Nod} {l : List Ou} {a : Adr} {v : Value} {N q : Nat}
section
variable {t : Sto}
theorem rthere_in (h : Whole N t) {i : Int} (h0 : 0 ≤ i) (h1 : i < (N : Int)) : thereB t.s.length i = true := by
  have hl := h.fine.len
  unfold thereB
  rw [decide_eq_true (by omega), decide_eq_true (by omega)]
  rfl
theorem rread_in (h : Whole N t) {i : Int} (h0 : 0 ≤ i) (h1 : i < (N : Int)) : t.read i = (holdsL t.c (i + 2) (t.s.getD (i.toNat + 2) e0), 0) := by
  have h8 : (blockA t.s t.c i).size = 8 := by
    have := (h.fine.holds (i := i.toNat + 2) (by omega)).rest (by omega)
    unfold blockA
    rw [show ((i.toNat + 2 : Nat) : Int) = i + 2 by omega] at this
    exact this
  unfold Sto.read readA
  rw [if_pos (rthere_in h h0 h1), if_neg (by rw [h.live]; decide), if_pos h8]
  rfl
end
theorem wt_r : WT 80 := by unfold WT; simp
theorem wcleaned (h : NOk N q n) (hq : q ≤ 880) (hu : n.up = true) (i : Int) (hn : NM w n a) : Calls Tryz.prog 40 #[nodV n a, .int .i64 i] w (GivesN (n.cleaned i) w) := by
  refine run (st_nm n a) hn (t_v (fun u _ => wof n a u) ?_)
  exact t_at (l := []) 144 n a ((n.wipe i).1, []) (.bool (n.wipe i).2) (From.refl _ _) (fun u hu => ⟨hu, rw_nil w u⟩) (fun u b _ hu' hx => wwipe wt_w (h.fit (by omega)) (h.m32 hu) i rfl hx hu') fun a3 A3 c3 ho3 => t_lit 9 (e_nr (r := ((n.wipe i).1, [])) a3 _ (fun u hu => hu))
def Nod.hasK (n : Nod) (p : Pkt) : Bool := !(decide (2 ≤ p.k ∧ p.k ≤ 7) && decide (n.t.b.n ≤ p.b))
def Nod.awaits (n : Nod) (k : Int) : Bool :=
  if k = 1 then n.st == 1
  else if k = 2 then !n.pri && (n.st == 2 || n.st == 4)
  else if k = 3 then n.st == 2 || n.st == 3
  else if k = 4 then n.st == 2 || n.st == 4
  else if k = 5 ∨ k = 7 ∨ k = 8 then n.st == 3
  else if k = 6 then n.st == 4
  else if k = 9 then n.st == 4 && !n.t.b.i
  else if k = 10 ∨ k = 13 then n.st == 2 || (n.st == 3 || n.st == 4)
  else if k = 11 ∨ k = 12 then n.ask && (n.st == 2 || (n.st == 3 || n.st == 4))
  else false
theorem pfits_is (hu : n.up = true) (p : Pkt) : n.fits p = (n.hasK p && n.awaits p.k) := by
  unfold Nod.fits Nod.hasK Nod.awaits
  by_cases h : 2 ≤ p.k ∧ p.k ≤ 7 ∧ n.t.b.n ≤ p.b
  · rw [if_pos (.inr h), decide_eq_true (show 2 ≤ p.k ∧ p.k ≤ 7 from ⟨h.1, h.2.1⟩), decide_eq_true h.2.2]
    rfl
  · rw [if_neg (by rw [hu]; simp only [Bool.true_eq_false, false_or]; exact h)]
    have : (!(decide (2 ≤ p.k ∧ p.k ≤ 7) && decide (n.t.b.n ≤ p.b))) = true := by
      simp only [Bool.not_eq_true', Bool.and_eq_false_iff, decide_eq_false_iff_not]
      by_cases h2 : 2 ≤ p.k ∧ p.k ≤ 7
      · exact .inr fun h3 => h ⟨h2.1, h2.2, h3⟩
      · exact .inl h2
    rw [this, Bool.true_and]
theorem pkinds {k : Int} (h : 1 ≤ k ∧ k ≤ 13) : k = 1 ∨ k = 2 ∨ k = 3 ∨ k = 4 ∨ k = 5 ∨ k = 6 ∨ k = 7 ∨ k = 8 ∨ k = 9 ∨ k = 10 ∨ k = 11 ∨ k = 12 ∨ k = 13 := by omega
theorem phas (p : Pkt) (hk : 1 ≤ p.k ∧ p.k ≤ 13) (w : World) : Calls Tryz.prog 27 #[nodV n a, pktV p] w fun e w' => e = .returned (.bool (n.hasK p)) ∧ Below w.heap.size w w' := by
  refine run_v ?_
  obtain ⟨k, s, hl, b, d⟩ := p
  have lt : decide (b < n.t.b.n) = !(decide (n.t.b.n ≤ b)) := by rw [Bool.eq_not, ne_eq, decide_eq_decide]; omega
  rcases pkinds hk with rfl | rfl | rfl | rfl | rfl | rfl | rfl | rfl | rfl | rfl | rfl | rfl | rfl
  · exact t_lit 40 (e_r2 (.bool true) (by kernel_rfl))
  iterate 6 exact t_lit 40 (e_r2 (.bool (decide (b < n.t.b.n))) (by rw [lt]; kernel_rfl))
  iterate 6 exact t_lit 40 (e_r2 (.bool true) (by kernel_rfl))
theorem pawaits (k : Int) (hk : 1 ≤ k ∧ k ≤ 13) (w : World) : Calls Tryz.prog 28 #[nodV n a, .int .i64 k] w fun e w' => e = .returned (.bool (n.awaits k)) ∧ Below w.heap.size w w' := by
  refine run_v ?_
  have cs : ∀ x : Bool, (!x) = true ∧ x = false ∨ (!x) = false ∧ x = true := by decide
  rcases pkinds hk with rfl | rfl | rfl | rfl | rfl | rfl | rfl | rfl | rfl | rfl | rfl | rfl | rfl
  · exact t_lit 40 (e_r2 (.bool (n.st == 1)) (by simp [Nod.awaits]))
  · refine t_lit 2 ?_
    rcases cs n.pri with ⟨h, g⟩ | ⟨h, g⟩
    · refine t_Y 1 h ?_
      rcases cs (n.st == 2) with ⟨i, j⟩ | ⟨i, j⟩
      · exact t_Y 9 i (e_r2 (.bool (n.st == 4)) (by simp [Nod.awaits, g, j]))
      · exact t_N 9 i (e_r2 (.bool true) (by simp [Nod.awaits, g, j]))
    · exact t_N 9 h (e_r2 (.bool false) (by simp [Nod.awaits, g]))
  · refine t_lit 3 ?_
    rcases cs (n.st == 2) with ⟨i, j⟩ | ⟨i, j⟩
    · exact t_Y 9 i (e_r2 (.bool (n.st == 3)) (by simp [Nod.awaits, j]))
    · exact t_N 9 i (e_r2 (.bool true) (by simp [Nod.awaits, j]))
  · refine t_lit 4 ?_
    rcases cs (n.st == 2) with ⟨i, j⟩ | ⟨i, j⟩
    · exact t_Y 9 i (e_r2 (.bool (n.st == 4)) (by simp [Nod.awaits, j]))
    · exact t_N 9 i (e_r2 (.bool true) (by simp [Nod.awaits, j]))
  · exact t_lit 40 (e_r2 (.bool (n.st == 3)) (by simp [Nod.awaits]))
  · exact t_lit 40 (e_r2 (.bool (n.st == 4)) (by simp [Nod.awaits]))
  · exact t_lit 40 (e_r2 (.bool (n.st == 3)) (by simp [Nod.awaits]))
  · exact t_lit 40 (e_r2 (.bool (n.st == 3)) (by simp [Nod.awaits]))
  · refine t_lit 9 ?_
    rcases cs (n.st == 4) with ⟨h, g⟩ | ⟨h, g⟩
    · exact t_N (b := n.st == 4) 9 g (e_r2 (.bool false) (by simp [Nod.awaits, g]))
    · exact t_Y (b := n.st == 4) 9 g (e_r2 (.bool (!n.t.b.i)) (by simp [Nod.awaits, g]))
  · refine t_lit 11 ?_
    rcases cs (n.st == 2) with ⟨h, g⟩ | ⟨h, g⟩
    · refine t_Y 0 h ?_
      rcases cs (n.st == 3) with ⟨i, j⟩ | ⟨i, j⟩
      · exact t_Y 9 i (e_r2 (.bool (n.st == 4)) (by simp [Nod.awaits, g, j]))
      · exact t_N 9 i (e_r2 (.bool true) (by simp [Nod.awaits, g, j]))
    · exact t_N 9 h (e_r2 (.bool true) (by simp [Nod.awaits, g]))
  iterate 2
    refine t_lit 13 ?_
    rcases cs n.ask with ⟨h, g⟩ | ⟨h, g⟩
    · exact t_N 9 g (e_r2 (.bool false) (by simp [Nod.awaits, g]))
    · refine t_Y 1 g ?_
      rcases cs (n.st == 2) with ⟨h, k⟩ | ⟨h, k⟩
      · refine t_Y 2 h ?_
        rcases cs (n.st == 3) with ⟨i, j⟩ | ⟨i, j⟩
        · exact t_Y 9 i (e_r2 (.bool (n.st == 4)) (by simp [Nod.awaits, g, j, k]))
        · exact t_N 9 i (e_r2 (.bool true) (by simp [Nod.awaits, g, j, k]))
      · exact t_N 9 h (e_r2 (.bool true) (by simp [Nod.awaits, g, k]))
  · refine t_lit 11 ?_
    rcases cs (n.st == 2) with ⟨h, g⟩ | ⟨h, g⟩
    · refine t_Y 0 h ?_
      rcases cs (n.st == 3) with ⟨i, j⟩ | ⟨i, j⟩
      · exact t_Y 9 i (e_r2 (.bool (n.st == 4)) (by simp [Nod.awaits, g, j]))
      · exact t_N 9 i (e_r2 (.bool true) (by simp [Nod.awaits, g, j]))
    · exact t_N 9 h (e_r2 (.bool true) (by simp [Nod.awaits, g]))
theorem pfits (hu : n.up = true) (p : Pkt) (hr : p.right = true) (hm : p.h.m < 4294967296) (w : World) : Calls Tryz.prog 12 #[nodV n a, pktV p] w fun e w' => e = .returned (.bool (n.fits p)) ∧ Below w.heap.size w w' := by
  have hk := (Pkt.right_parts hr).1
  refine run_v (t_Y (b := n.up) 9 hu (t_v (args := #[pktV p]) (fun u _ => pright_any p u hm) ?_))
  rw [hr, pfits_is hu]
  refine t_lit 9 (t_v (args := #[nodV n a, pktV p]) (fun u _ => phas p hk u) ?_)
  cases hh : n.hasK p with
  | false => exact t_lit 9 (e_r2 (.bool false) rfl)
  | true => exact t_lit 9 (t_v (args := #[nodV n a, .int .i64 p.k]) (fun u _ => pawaits p.k hk u) (t_lit 9 (e_r2 (.bool (n.awaits p.k)) (by rw [Bool.true_and]))))
theorem punask (hx : BoxO w b 80 (wkC n a v)) (hk : WK wB n a v l w) : Calls Tryz.prog 49 #[.pointer (some ⟨b, 0, none⟩)] w (GivesW 80 b wB v ({ n with ask := false, askId := 0 }, l) (.int .i64 n.askId) w) :=
  runW (args := []) (by kernel_rfl) st_wk hx hk (e_w a v (fun u hu => ⟨hu.1.like, hu.2⟩) (From.refl _ _))
theorem commit_askId {s : Sup} (h : (n.commit s).2 = true) : (n.commit s).1.askId = n.askId := by rw [commit_up h]
theorem panswer (hB : wB.heap.size ≤ w.heap.size) (hl : l.length ≤ 900) (hs : B64 n.ses) (hx : BoxO w b 80 (wkC n a v)) (hk : WK wB n a v l w) : Calls Tryz.prog 46 #[.pointer (some ⟨b, 0, none⟩)] w (GivesW 80 b wB v ((n.roles 10).1, l ++ (n.roles 10).2) (.tuple #[]) w) := by
  refine runW (args := []) (by kernel_rfl) st_wk hx hk ?_
  unfold Nod.roles
  rw [if_pos rfl]
  by_cases h0 : n.pri = true
  · rw [if_pos (.inl h0)]
    refine t_N (b := !n.pri) 9 (by simp [h0]) ?_
    exact t_w 80 a n (n, l ++ [n.send (pk 12)]) (From.refl _ _) (fun u hu => hu.2) (fun u b hu hz hx => wsend wt_r (Nat.le_trans hB hz) (by omega) (pk 12) hs Hel.zero_wide hx hu) fun a1 A1 c1 ho1 => t_lit 9 (e_w a1 _ (fun u hu => hu) ho1)
  refine t_Y (b := !n.pri) 5 (by simpa using h0) ?_
  by_cases h1 : n.ask = true
  · rw [if_pos (.inr h1)]
    refine t_Y (b := n.ask) 9 h1 ?_
    exact t_w 80 a n (n, l ++ [n.send (pk 12)]) (From.refl _ _) (fun u hu => hu.2) (fun u b hu hz hx => wsend wt_r (Nat.le_trans hB hz) (by omega) (pk 12) hs Hel.zero_wide hx hu) fun a1 A1 c1 ho1 => t_lit 9 (e_w a1 _ (fun u hu => hu) ho1)
  · rw [if_neg (by rintro (g | g); exact h0 g; exact h1 g)]
    refine t_N (b := n.ask) 9 (bfalse h1) ?_
    exact t_w 80 a { n with ppri := true } ({ n with ppri := true }, l ++ [n.send (pk 11)]) (From.refl _ _) (fun u hu => hu.2) (fun u b hu hz hx => wsend (n := { n with ppri := true }) wt_r (Nat.le_trans hB hz) (by omega) (pk 11) hs Hel.zero_wide hx ⟨hu.1.like, hu.2⟩) fun a1 A1 c1 ho1 => t_lit 9 (e_w a1 _ (fun u hu => hu) ho1)
theorem prise (hB : wB.heap.size ≤ w.heap.size) (hl : l.length ≤ 900) (hF : Fit n.t.s n.t.c n.t.f) (hw : n.t.b.wide) (hx : BoxO w b 80 (wkC n a v)) (hk : WK wB n a v l w) : Calls Tryz.prog 47 #[.pointer (some ⟨b, 0, none⟩)] w (GivesW 80 b wB v ((n.roles 11).1, l ++ (n.roles 11).2) (.tuple #[]) w) := by
  refine runW (args := []) (by kernel_rfl) st_wk hx hk ?_
  have hs2 : Sup.wide { n.t.b with r := true } := set_r hw true
  unfold Nod.roles
  rw [if_neg (by decide), if_neg (by decide), if_neg (by decide)]
  dsimp only
  cases hc : (n.commit { n.t.b with r := true }).2 with
  | false =>
    rw [if_neg (by decide), List.append_nil]
    exact t_w 80 a n ((n.commit { n.t.b with r := true }).1, l) (From.refl _ _) (fun u hu => hu.2) (fun u b hu _ hx => wcommit wt_r hF hs2 hc hx hu) fun a1 A1 c1 ho1 => t_lit 9 (e_w a1 _ (fun u hu => hu) ho1)
  | true =>
    rw [if_pos rfl]
    have hi := commit_askId hc
    refine t_w 80 a n ((n.commit { n.t.b with r := true }).1, l) (From.refl _ _) (fun u hu => hu.2) (fun u b hu _ hx => wcommit wt_r hF hs2 hc hx hu) fun a1 A1 c1 ho1 => t_lit 9 ?_
    generalize (n.commit { n.t.b with r := true }).1 = m at *
    refine t_w 80 a1 { m with pri := true } ({ m with pri := true, ask := false, askId := 0 }, l) ho1 (fun u hu => hu.2) (fun u b hu _ hx => punask (n := { m with pri := true }) hx ⟨hu.1.like, hu.2⟩) fun a2 A2 c2 ho2 => ?_
    refine t_w 80 a2 { m with pri := true, ask := false, askId := 0 } ({ m with pri := true, ask := false, askId := 0 }, l ++ [m.reply n.askId 0 e1]) ho2 (fun u hu => hu.2) (fun u b hu hz hx => wreply (n := { m with pri := true, ask := false, askId := 0 }) wt_r (Nat.le_trans hB hz) (by omega) n.askId 0 e1 hx hu) (fun a3 A3 c3 ho3 => t_lit 9 (e_w a3 _ (fun u hu => hu) ho3)) rfl (by rw [← hi]; kernel_rfl)
theorem pbecome (m : Nod) (a2 : Adr) (O : Option Addr) (k : Nat) (l2 : List Ou) (hx : BoxO w b 80 (wkC n a v)) : Calls Tryz.prog 36 #[.pointer (some ⟨b, 0, none⟩), nodV m a2, .slice O l2.length k] w fun e w' => e = .returned (.tuple #[]) ∧ BoxO w' b 80 (wkC m a2 (.slice O l2.length k)) ∧ But [b] w.heap.size w w' :=
  runR_ok (U := 0) (ap := tyL) (args := [nodV m a2, .slice O l2.length k]) (rows := []) (K := fun _ => True) rfl (st_p _) trivial hx (by kernel_rfl) (G := fun y cs' u => y = .tuple #[] ∧ cs' = wkC m a2 (.slice O l2.length k)) (fun y cs' u hb hx' ⟨h1, h2⟩ => ⟨by rw [h1], h2 ▸ hx', hb⟩) (t_ret (.tuple #[]) (fun u _ _ _ => ⟨_, by kernel_rfl, rfl, rfl⟩))
theorem t_bec {bo rows : List Nat} {F : Value → S → World → Prop} {K : World → Prop} {t : Tree} (m : Nod) (a2 : Adr) (O : Option Addr) (k : Nat) (l2 : List Ou) (hK : ∀ u, K u → NM u m a2 ∧ OM u O k l2)
    (h : OK ⟨Tryz.prog, tyL, w, bo, rows⟩ F (t.nc (.tuple #[]) (wkC m a2 (.slice O l2.length k))) fun u => NM u m a2 ∧ OM u O k l2) (hd : t.hd = .cgrow 36 80 (wkC n a v) [nodV m a2, .slice O l2.length k] := by kernel_rfl) : OK ⟨Tryz.prog, tyL, w, bo, rows⟩ F t K :=
  t_cgrow (fun u b _ _ hx => pbecome m a2 O k l2 hx) (fun u b e u' hu hb _ hx hR => by
    obtain ⟨rfl, h1, h2⟩ := hR
    have hE : Ext tyL u u' := Ext.of_but h2 (by kernel_rfl) hx h1
    exact ⟨_, _, _, rfl, ⟨h2.1, h2.2.1, h2.2.2.1, h2.2.2.2.1, fun k hk hkb => .inl (h2.2.2.2.2 k hk (by simp [hkb]))⟩, h1, (st_nm _ _).and (st_om _ _ _), ⟨(hK u hu).1.ext hE, (hK u hu).2.ext hE⟩, h⟩) (by kernel_rfl) hd
theorem t_via {bo rows : List Nat} {K : World → Prop} {t : Tree} {f : FuncId} {args : Array Value} {n0 : Nod} {a0 : Adr} {v0 : Value} (r : Nod × List Ou) (hc : ∀ u, K u → (⟨Tryz.prog, tyL, w, bo, rows⟩ : Cx).base u → Calls Tryz.prog f args u (GivesN r u)) (hd : t.hd = .call (.fn f) args.toList := by kernel_rfl)
    (hd2 : ∀ a O k, (t.nv (.tuple #[nodV r.1 a, .slice O r.2.length k])).hd = .cgrow 36 80 (wkC n0 a0 v0) [nodV r.1 a, .slice O r.2.length k] := by intro a O k; kernel_rfl)
    (hd3 : ∀ a O k, (((t.nv (.tuple #[nodV r.1 a, .slice O r.2.length k])).nc (.tuple #[]) (wkC r.1 a (.slice O r.2.length k))).lit 20).hd = .ret (.tuple #[]) := by intro a O k; kernel_rfl)
    (hs : ∀ a O k, (((t.nv (.tuple #[nodV r.1 a, .slice O r.2.length k])).nc (.tuple #[]) (wkC r.1 a (.slice O r.2.length k))).lit 20).st.hp 0 = some (80, wkC r.1 a (.slice O r.2.length k)) := by intro a O k; kernel_rfl) :
    OK ⟨Tryz.prog, tyL, w, bo, rows⟩ (fun y s u => ∃ cs', s.hp 0 = some (80, cs') ∧ ∃ a' A c, y = .tuple #[] ∧ cs' = wkC r.1 a' (.slice A r.2.length c) ∧ NM u r.1 a' ∧ OM u A c r.2 ∧ From w v (.slice A r.2.length c)) t K :=
  t_call hc (fun u e u' hu hb hR => by
    obtain ⟨a4, O, k4, rfl, q1, q2, q3, q4⟩ := hR
    exact ⟨_, _, rfl, q3, (st_nm _ _).and (st_om _ _ _), ⟨q1, q2⟩, t_bec r.1 a4 O k4 r.2 (fun u hu => hu.2) (t_lit 20 (e_O2 a4 (fun u hu => hu) (fr_from (fr_up (base_size hb) q4)) (hd3 a4 O k4) (hs a4 O k4))) (hd2 a4 O k4)⟩) hd
theorem right_meets2 {h : Hel} (hw : h.wide) (hr : h.right = true) : Meets h := ⟨(Hel.right_n hr).2.2, hw.2.2.2.2, (Hel.right_n hr).1, (Hel.right_n hr).2.1⟩
theorem ptakes (h : NOk N q n) (hq : q ≤ 870) (hu : n.up = true) (hid : n.id = 0 ∨ n.id = 1) (p : Pkt) (hr : p.right = true) (hw : p.wide) (hf : n.fits p = true) (hT : Tab w) (hg : tabG < wB.heap.size) (hB : wB.heap.size ≤ w.heap.size) (hx : BoxO w b 80 (wkC n a (.slice none 0 0))) (hk : WK wB n a (.slice none 0 0) [] w) : Calls Tryz.prog 18 #[.pointer (some ⟨b, 0, none⟩), pktV p] w (GivesO2 80 b (.slice none 0 0) (n.takes p) (.tuple #[]) w) := by
  have hkd := (Pkt.right_parts hr).1
  have hup := hu
  have hT2 : ∀ u, (⟨Tryz.prog, tyL, w, [b], (Value.slice none 0 0).ownBlock.toList⟩ : Cx).base u → Tab u := fun u hb => tab_but hT hx hk.2 hg hb
  obtain ⟨_, r1, _, ⟨b0, b1⟩, _⟩ := Pkt.right_parts hr
  rw [pfits_is hu, Bool.and_eq_true] at hf
  have hi := hf.1
  obtain ⟨k, s, hl, i, d⟩ := p
  dsimp only at hkd r1 b0 b1
  have hin : 2 ≤ k ∧ k ≤ 7 → i < (N : Int) := fun h7 => by
    have hbn := (h.live hu).bn
    unfold Nod.hasK at hi
    rw [decide_eq_true h7, Bool.true_and, Bool.not_eq_true', decide_eq_false_iff_not] at hi
    dsimp only at hi
    omega
  rcases pkinds hkd with rfl | rfl | rfl | rfl | rfl | rfl | rfl | rfl | rfl | rfl | rfl | rfl | rfl
  · rw [show n.takes ⟨1, s, hl, i, d⟩ = n.met hl from rfl]
    exact runO2 (args := [pktV ⟨1, s, hl, i, d⟩]) (by kernel_rfl) st_wk hx hk (t_lit 30 (t_via (n0 := n) (a0 := a) (v0 := .slice none 0 0) (args := #[nodV n a, helV hl]) (n.met hl) fun u hu' hb => gmet h hq hu hid hw.2 (right_meets2 hw.2 (r1 rfl)) (hT2 u hb) hu'.1))
  · rw [show n.takes ⟨2, s, hl, i, d⟩ = n.apply i d from rfl]
    exact runO2 (args := [pktV ⟨2, s, hl, i, d⟩]) (by kernel_rfl) st_wk hx hk (t_lit 30 (t_via (n0 := n) (a0 := a) (v0 := .slice none 0 0) (args := #[nodV n a, .int .i64 i, .string d]) (n.apply i d) fun u hu' hb => wapply h (by omega) hu i d hu'.1))
  · rw [show n.takes ⟨3, s, hl, i, d⟩ = n.acked i from rfl]
    exact runO2 (args := [pktV ⟨3, s, hl, i, d⟩]) (by kernel_rfl) st_wk hx hk (t_lit 30 (t_via (n0 := n) (a0 := a) (v0 := .slice none 0 0) (args := #[nodV n a, .int .i64 i]) (n.acked i) fun u hu' hb => wacked h (by omega) hu i hu'.1))
  · rw [show n.takes ⟨4, s, hl, i, d⟩ = n.cleaned i from rfl]
    exact runO2 (args := [pktV ⟨4, s, hl, i, d⟩]) (by kernel_rfl) st_wk hx hk (t_lit 30 (t_via (n0 := n) (a0 := a) (v0 := .slice none 0 0) (args := #[nodV n a, .int .i64 i]) (n.cleaned i) fun u hu' hb => wcleaned h (by omega) hu i hu'.1))
  · rw [show n.takes ⟨5, s, hl, i, d⟩ = n.give i from rfl]
    exact runO2 (args := [pktV ⟨5, s, hl, i, d⟩]) (by kernel_rfl) st_wk hx hk (t_lit 30 (t_via (n0 := n) (a0 := a) (v0 := .slice none 0 0) (args := #[nodV n a, .int .i64 i]) (n.give i) fun u hu' hb => wGive h (by omega) i (by rw [rread_in (h.live hu) b0 (hin (by decide))]) hu'.1))
  · rw [show n.takes ⟨6, s, hl, i, d⟩ = n.got i d from rfl]
    exact runO2 (args := [pktV ⟨6, s, hl, i, d⟩]) (by kernel_rfl) st_wk hx hk (t_lit 30 (t_via (n0 := n) (a0 := a) (v0 := .slice none 0 0) (args := #[nodV n a, .int .i64 i, .string d]) (n.got i d) fun u hu' hb => wGot h (by omega) hu i b0 (by omega) d (hT2 u hb) hu'.1))
  · rw [show n.takes ⟨7, s, hl, i, d⟩ = n.copied i from rfl]
    exact runO2 (args := [pktV ⟨7, s, hl, i, d⟩]) (by kernel_rfl) st_wk hx hk (t_lit 30 (t_via (n0 := n) (a0 := a) (v0 := .slice none 0 0) (args := #[nodV n a, .int .i64 i]) (n.copied i) fun u hu' hb => wCopied h (by omega) hu i hu'.1))
  · rw [show n.takes ⟨8, s, hl, i, d⟩ = n.ended from rfl]
    exact runO2 (args := [pktV ⟨8, s, hl, i, d⟩]) (by kernel_rfl) st_wk hx hk (t_lit 30 (t_via (n0 := n) (a0 := a) (v0 := .slice none 0 0) (args := #[nodV n a]) (n.ended) fun u hu' hb => wEnded h (by omega) hu hu'.1))
  · rw [show n.takes ⟨9, s, hl, i, d⟩ = (n.done, []) from rfl]
    exact runO2 (args := [pktV ⟨9, s, hl, i, d⟩]) (by kernel_rfl) st_wk hx hk (t_lit 30 (t_a (args := #[nodV n a]) (fun u hu' => wDone hu'.1) fun a2 => t_lit 30 (e_O2 (l' := []) (A := none) (c := 0) a2 (fun u hu => ⟨hu.2, om_nil u⟩) (From.refl _ _))))
  · rw [show n.takes ⟨10, s, hl, i, d⟩ = n.roles 10 from rfl]
    exact runO2 (args := [pktV ⟨10, s, hl, i, d⟩]) (by kernel_rfl) st_wk hx hk (t_lit 30 (t_w (l := []) (v := .slice none 0 0) 80 a n (n.roles 10) (From.refl _ _) (fun u hu => hu.2) (fun u b hu hz hx => panswer (l := []) (Nat.le_trans hB hz) (by simp) h.ses hx hu) fun a1 A1 c1 ho1 => t_lit 30 (e_O2 a1 (fun u hu => ⟨hu.1, rw_om hu.2⟩) ho1)))
  · rw [show n.takes ⟨11, s, hl, i, d⟩ = n.roles 11 from rfl]
    exact runO2 (args := [pktV ⟨11, s, hl, i, d⟩]) (by kernel_rfl) st_wk hx hk (t_lit 30 (t_w (l := []) (v := .slice none 0 0) 80 a n (n.roles 11) (From.refl _ _) (fun u hu => hu.2) (fun u b hu hz hx => prise (l := []) (Nat.le_trans hB hz) (by simp) (h.fit (by omega)) (h.bw hup) hx hu) fun a1 A1 c1 ho1 => t_lit 30 (e_O2 a1 (fun u hu => ⟨hu.1, rw_om hu.2⟩) ho1)))
  · rw [show n.takes ⟨12, s, hl, i, d⟩ = ({ n with ask := false, askId := 0 }, [n.reply n.askId 12 e1]) from rfl]
    refine runO2 (args := [pktV ⟨12, s, hl, i, d⟩]) (by kernel_rfl) st_wk hx hk (t_lit 30 (t_w (l := []) (v := .slice none 0 0) 80 a n ({ n with ask := false, askId := 0 }, []) (From.refl _ _) (fun u hu => hu.2) (fun u b hu hz hx => punask (l := []) hx hu) fun a1 A1 c1 ho1 => ?_))
    exact t_w (l := []) (v := .slice A1 0 c1) 80 a1 { n with ask := false, askId := 0 } ({ n with ask := false, askId := 0 }, [] ++ [n.reply n.askId 12 e1]) ho1 (fun u hu => hu.2) (fun u b hu hz hx => wreply (l := []) (n := { n with ask := false, askId := 0 }) wt_r (Nat.le_trans hB hz) (by simp) n.askId 12 e1 hx hu) fun a2 A2 c2 ho2 => t_lit 30 (e_O2 a2 (fun u hu => ⟨hu.1, rw_om hu.2⟩) ho2)
  · rw [show n.takes ⟨13, s, hl, i, d⟩ = ({ n with ppri := false }, []) from rfl]
    exact runO2 (args := [pktV ⟨13, s, hl, i, d⟩]) (by kernel_rfl) st_wk hx hk (t_lit 30 (e_O2 (l' := []) (n' := { n with ppri := false }) (A := none) (c := 0) a (fun u hu => ⟨hu.1.like, om_nil u⟩) (From.refl _ _)))
theorem preceive (h : NOk N q n) (hq : q ≤ 870) (hid : n.id = 0 ∨ n.id = 1) (s : ByteArray) (hs : (s.size : Int) ≤ 3000) (hT : Tab w) (hE : Etyp w) (hn : NM w n a) : Calls Tryz.prog 8 #[nodV n a, .string s] w (GivesN (n.receive s) w) := by
  refine run (st_nm n a) hn (t_v (fun u _ => wof n a u) ?_)
  unfold Nod.receive
  by_cases hu : n.up = true
  rotate_left
  · rw [if_pos (.inl (bfalse hu))]
    exact t_N (b := !(!n.up)) 9 (by simpa using hu) (e_n0 a fun u hu => hu)
  refine t_Y (b := !(!n.up)) 4 (by simpa using hu) ?_
  by_cases h0 : n.st = 0
  · rw [if_pos (.inr h0)]
    exact t_Y (b := decide (n.st = 0)) 9 (by simpa using h0) (e_n0 a fun u hu => hu)
  rw [if_neg (by simp [hu, h0])]
  refine t_N (b := decide (n.st = 0)) 9 (by simpa using h0) (t_vb (args := #[.string s, .int .u64 n.ses]) (fun u _ hb => pread_any s n.ses u hs (hE.up hb)) ?_)
  have hR : (readP s n.ses).2 = 0 → (readP s n.ses).1.right = true ∧ (readP s n.ses).1.wide := fun e => read_right e
  generalize readP s n.ses = z at *
  obtain ⟨p, f⟩ := z
  dsimp only at hR ⊢
  by_cases h16 : f = 16
  · rw [if_pos h16]
    exact t_Y (b := decide (f = 16)) 9 (by simpa using h16) (e_n0 a fun u hu => hu)
  rw [if_neg h16]
  refine t_N (b := decide (f = 16)) 0 (by simpa using h16) ?_
  by_cases hf : f = 0
  rotate_left
  · rw [if_pos (.inl hf)]
    exact t_N (b := !(f != 0)) 9 (by simpa using hf) (t_at (l := []) 80 n a (n, [] ++ [n.close]) (.tuple #[]) (From.refl _ _) (fun u hu => ⟨hu, rw_nil w u⟩) (fun u b hz hu' hx => wclose (l := []) wt_r hz (by simp) hx hu') fun a2 A2 c2 ho2 => t_lit 9 (e_nr a2 _ fun u hu => hu))
  subst hf
  obtain ⟨hr, hw⟩ := hR rfl
  refine t_lit 9 (t_v (args := #[nodV n a, pktV p]) (fun u _ => pfits hu p hr hw.2.2.2.2.2 u) ?_)
  cases hfit : n.fits p with
  | false =>
    rw [if_pos (.inr rfl)]
    exact t_lit 9 (t_at (l := []) 80 n a (n, [] ++ [n.close]) (.tuple #[]) (From.refl _ _) (fun u hu => ⟨hu, rw_nil w u⟩) (fun u b hz hu' hx => wclose (l := []) wt_r hz (by simp) hx hu') fun a2 A2 c2 ho2 => t_lit 9 (e_nr a2 _ fun u hu => hu))
  | true =>
    rw [if_neg (by simp)]
    refine t_lit 9 ?_
    refine t_cgrow (f := 18) (T := 80) (cs := wkC n a (.slice none 0 0)) (args := [pktV p]) (R' := fun u b => GivesO2 80 b (.slice none 0 0) (n.takes p) (.tuple #[]) u) (fun u b hu' hb hx' => ptakes (wB := w) h hq hu hid p hr hw hfit (hT.below (base_below hb) hT.size) (tab_lt hT) (base_size hb) hx' ⟨hu', rw_nil w u⟩) (fun u b e u' hu' hb _ hx' hR => ?_)
    obtain ⟨a2, A2, c2, rfl, q1, q2, q3, q4, q5⟩ := hR
    have hsz : w.heap.size ≤ u.heap.size := base_size hb
    refine ⟨_, _, _, rfl, ⟨q5.1, q5.2.1, q5.2.2.1, q5.2.2.2.1, fun k hk hkb => .inl (q5.2.2.2.2 k hk (by intro e; rcases List.mem_cons.1 e with e | e; exact hkb e; cases e))⟩, q1, (st_nm _ _).and (st_om _ _ _), ⟨q2, q3⟩, ?_⟩
    refine t_lit 9 (e_n (r := n.takes p) a2 A2 c2 fun u hu => ⟨hu.1, hu.2, fun ad e => ?_⟩)
    subst e
    rcases q4 ad.block rfl with q | q
    · exact Nat.le_trans hsz q
    · cases q
end
end Go.Proofs.YtkjikigimmchlaaGreatDoor
