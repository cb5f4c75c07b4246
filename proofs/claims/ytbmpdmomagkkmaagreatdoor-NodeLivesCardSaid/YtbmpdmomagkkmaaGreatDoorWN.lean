/- Nodes, the code's calls of layer 16: what each answers is the document's. No condition but that the node may be, and lies in memory. -/
import Derived.Test.YtbmpdmomagkkmaaGreatDoorWK
import Derived.Test.YtbmpdmomagkkmaaGreatDoorWS
import Derived.Test.YtbmpdmomagkkmaaGreatDoorX1
import Derived.Test.YtbmpdmomagkkmaaGreatDoorPC3
namespace Go.Proofs.YtbmpdmomagkkmaaGreatDoor
open Go.RowKit PX
set_option maxRecDepth 100000
section
variable {T : TypeId} {b : Nat} {wB w : World} {n : Nod} {l : List Ou} {a : Adr} {v : Value} {N q : Nat}
theorem wreply (hT : WT T) (hB : wB.heap.size ≤ w.heap.size) (hl : l.length ≤ 1000) (id e : Int) (d : ByteArray) (hx : BoxO w b T (wkC n a v)) (hk : WK wB n a v l w) : Calls Tryz.prog 53 #[.pointer (some ⟨b, 0, none⟩), .int .i64 id, .int .i64 e, .string d] w (GivesW T b wB v (n, l ++ [n.reply id e d]) (.tuple #[]) w) := by
  unfold WT at hT
  simp only [List.mem_cons, List.not_mem_nil, or_false] at hT
  rcases hT with rfl|rfl <;>
  exact runW (args := [.int .i64 id, .int .i64 e, .string d]) (by kernel_rfl) st_wk hx hk (t_wpush (n.reply id e d) n a hB (From.refl _ _) (fun u hu => hu) (by omega) fun r A c ho => e_w a _ (fun u hu => hu) ho)
theorem wsend (hT : WT T) (hB : wB.heap.size ≤ w.heap.size) (hl : l.length ≤ 1000) (p : Pkt) (hs : B64 n.ses) (hh : p.h.wide) (hx : BoxO w b T (wkC n a v)) (hk : WK wB n a v l w) : Calls Tryz.prog 62 #[.pointer (some ⟨b, 0, none⟩), pktV p] w (GivesW T b wB v (n, l ++ [n.send p]) (.tuple #[]) w) := by
  unfold WT at hT
  simp only [List.mem_cons, List.not_mem_nil, or_false] at hT
  rcases hT with rfl|rfl <;>
  exact runW (args := [pktV p]) (by kernel_rfl) st_wk hx hk (t_v (fun u _ => pencode_any { p with s := n.ses } u ⟨hs, hh⟩) (t_wpush (n.send p) n a hB (From.refl _ _) (fun u hu => hu) (by omega) fun r A c ho => e_w a _ (fun u hu => hu) ho))
theorem wcommit (hT : WT T) (hF : Fit n.t.s n.t.c n.t.f) {s : Sup} (hw : s.wide) {y : Bool} (hy : (n.commit s).2 = y) (hx : BoxO w b T (wkC n a v)) (hk : WK wB n a v l w) : Calls Tryz.prog 64 #[.pointer (some ⟨b, 0, none⟩), supV s] w (GivesW T b wB v ((n.commit s).1, l) (.bool y) w) := by
  subst hy
  have hT2 := hT
  unfold WT at hT
  simp only [List.mem_cons, List.not_mem_nil, or_false] at hT
  rcases hT with rfl|rfl <;>
  exact runW (args := [supV s]) (by kernel_rfl) st_wk hx hk (t_s (fun u hu => zcommit_any a.A a.B a.k a.m n.t.s n.t.c n.t.f n.t.x n.t.b n.t.m s u hu.1.t hF hw) fun A k B m => t_w _ a n (n.commit s |>.1, l) (From.refl _ _) (fun u hu => hu.1.2) (fun u b hu _ hx => wkeep hT2 (n.t.commit s) A B k m hx hu.1.1 hu.1.2 hu.2) fun a' A c ho => e_w a' _ (fun u hu => hu) ho)
def Nod.mayP (n : Nod) : Int := if n.up = false then 7 else if n.pri = true then 8 else if n.t.b.i = true then 9 else if n.t.b.d = true then 10 else if n.st = 1 ∨ n.st = 4 ∨ n.ask = true then 11 else if n.ppri = true then 12 else 0
def Nod.mayD (n : Nod) : Int := if n.up = false then 7 else if n.pri = false then 8 else if n.rq.on = true ∨ n.st = 1 then 11 else 0
def Nod.mayX (n : Nod) : Int := if n.up = false then 7 else if n.pri = true then 8 else if n.st ≠ 0 then 11 else 0
def Nod.mayR (n : Nod) : Int := if n.up = false then 7 else if n.pri = false then 8 else 0
theorem wmayP (hx : BoxO w b 100 (wkC n a v)) (hk : WK wB n a v l w) : Calls Tryz.prog 52 #[.pointer (some ⟨b, 0, none⟩)] w (GivesW 100 b wB v (n, l) (.int .i64 n.mayP) w) := by
  refine runW (args := []) (by kernel_rfl) st_wk hx hk ?_
  unfold Nod.mayP
  by_cases h0 : n.up = false
  · rw [if_pos h0]
    exact t_Y (b := !n.up) 30 (by simp [h0]) (e_w a v (fun u hu => hu) (From.refl _ _))
  rw [if_neg h0]
  refine t_N (b := !n.up) 0 (by simpa using h0) ?_
  by_cases h1 : n.pri = true
  · rw [if_pos h1]
    exact t_Y (b := n.pri) 30 h1 (e_w a v (fun u hu => hu) (From.refl _ _))
  rw [if_neg h1]
  refine t_N (b := n.pri) 0 (bfalse h1) ?_
  by_cases h2 : n.t.b.i = true
  · rw [if_pos h2]
    exact t_Y (b := n.t.b.i) 30 h2 (e_w a v (fun u hu => hu) (From.refl _ _))
  rw [if_neg h2]
  refine t_N (b := n.t.b.i) 0 (bfalse h2) ?_
  by_cases h3 : n.t.b.d = true
  · rw [if_pos h3]
    exact t_Y (b := n.t.b.d) 30 h3 (e_w a v (fun u hu => hu) (From.refl _ _))
  rw [if_neg h3]
  refine t_N (b := n.t.b.d) 0 (bfalse h3) ?_
  by_cases h4 : n.st = 1
  · rw [if_pos (.inl h4)]
    exact t_N (b := !(n.st == 1)) 30 (by simp [h4]) (e_w a v (fun u hu => hu) (From.refl _ _))
  refine t_Y (b := !(n.st == 1)) 6 (by simpa using h4) ?_
  by_cases h5 : n.st = 4
  · rw [if_pos (.inr (.inl h5))]
    exact t_N (b := !(n.st == 4)) 30 (by simp [h5]) (e_w a v (fun u hu => hu) (From.refl _ _))
  refine t_Y (b := !(n.st == 4)) 5 (by simpa using h5) ?_
  by_cases h6 : n.ask = true
  · rw [if_pos (.inr (.inr h6))]
    exact t_Y (b := n.ask) 30 h6 (e_w a v (fun u hu => hu) (From.refl _ _))
  rw [if_neg (by simp [h4, h5, h6])]
  refine t_N (b := n.ask) 0 (bfalse h6) ?_
  by_cases h7 : n.ppri = true
  · rw [if_pos h7]
    exact t_Y (b := n.ppri) 30 h7 (e_w a v (fun u hu => hu) (From.refl _ _))
  · rw [if_neg h7]
    exact t_N (b := n.ppri) 30 (bfalse h7) (e_w a v (fun u hu => hu) (From.refl _ _))
theorem wmayD (hx : BoxO w b 100 (wkC n a v)) (hk : WK wB n a v l w) : Calls Tryz.prog 61 #[.pointer (some ⟨b, 0, none⟩)] w (GivesW 100 b wB v (n, l) (.int .i64 n.mayD) w) := by
  refine runW (args := []) (by kernel_rfl) st_wk hx hk ?_
  unfold Nod.mayD
  by_cases h0 : n.up = false
  · rw [if_pos h0]
    exact t_Y (b := !n.up) 30 (by simp [h0]) (e_w a v (fun u hu => hu) (From.refl _ _))
  rw [if_neg h0]
  refine t_N (b := !n.up) 0 (by simpa using h0) ?_
  by_cases h1 : n.pri = false
  · rw [if_pos h1]
    exact t_Y (b := !n.pri) 30 (by simp [h1]) (e_w a v (fun u hu => hu) (From.refl _ _))
  rw [if_neg h1]
  refine t_N (b := !n.pri) 0 (by simpa using h1) ?_
  by_cases h2 : n.rq.on = true
  · rw [if_pos (.inl h2)]
    exact t_N (b := !n.rq.on) 30 (by simp [h2]) (e_w a v (fun u hu => hu) (From.refl _ _))
  refine t_Y (b := !n.rq.on) 6 (by simpa using h2) ?_
  by_cases h3 : n.st = 1
  · rw [if_pos (.inr h3)]
    exact t_Y (b := decide (n.st = 1)) 30 (by simpa using h3) (e_w a v (fun u hu => hu) (From.refl _ _))
  · rw [if_neg (by simp [h2, h3])]
    exact t_N (b := decide (n.st = 1)) 30 (by simpa using h3) (e_w a v (fun u hu => hu) (From.refl _ _))
theorem wmayX (hx : BoxO w b 100 (wkC n a v)) (hk : WK wB n a v l w) : Calls Tryz.prog 63 #[.pointer (some ⟨b, 0, none⟩)] w (GivesW 100 b wB v (n, l) (.int .i64 n.mayX) w) := by
  refine runW (args := []) (by kernel_rfl) st_wk hx hk ?_
  unfold Nod.mayX
  by_cases h0 : n.up = false
  · rw [if_pos h0]
    exact t_Y (b := !n.up) 30 (by simp [h0]) (e_w a v (fun u hu => hu) (From.refl _ _))
  rw [if_neg h0]
  refine t_N (b := !n.up) 0 (by simpa using h0) ?_
  by_cases h1 : n.pri = true
  · rw [if_pos h1]
    exact t_Y (b := n.pri) 30 h1 (e_w a v (fun u hu => hu) (From.refl _ _))
  rw [if_neg h1]
  refine t_N (b := n.pri) 0 (bfalse h1) ?_
  by_cases h2 : n.st ≠ 0
  · rw [if_pos h2]
    exact t_Y (b := !(n.st == 0)) 30 (by simpa using h2) (e_w a v (fun u hu => hu) (From.refl _ _))
  · rw [if_neg h2]
    exact t_N (b := !(n.st == 0)) 30 (by simpa using h2) (e_w a v (fun u hu => hu) (From.refl _ _))
theorem wmayR (hx : BoxO w b 100 (wkC n a v)) (hk : WK wB n a v l w) : Calls Tryz.prog 68 #[.pointer (some ⟨b, 0, none⟩)] w (GivesW 100 b wB v (n, l) (.int .i64 n.mayR) w) := by
  refine runW (args := []) (by kernel_rfl) st_wk hx hk ?_
  unfold Nod.mayR
  by_cases h0 : n.up = false
  · rw [if_pos h0]
    exact t_Y (b := !n.up) 30 (by simp [h0]) (e_w a v (fun u hu => hu) (From.refl _ _))
  rw [if_neg h0]
  refine t_N (b := !n.up) 0 (by simpa using h0) ?_
  by_cases h1 : n.pri = false
  · rw [if_pos h1]
    exact t_Y (b := !n.pri) 30 (by simp [h1]) (e_w a v (fun u hu => hu) (From.refl _ _))
  · rw [if_neg h1]
    exact t_N (b := !n.pri) 30 (by simpa using h1) (e_w a v (fun u hu => hu) (From.refl _ _))
def Nod.take (n : Nod) (p : Bool) : Nod × Bool :=
  let m := n.commit { n.t.b with r := p }
  if m.2 = true then ({ m.1 with pri := p }, true) else (m.1, false)
theorem wtake (hF : Fit n.t.s n.t.c n.t.f) (hw : n.t.b.wide) (p : Bool) {y : Bool} (hy : (n.take p).2 = y) (hx : BoxO w b 100 (wkC n a v)) (hk : WK wB n a v l w) : Calls Tryz.prog 55 #[.pointer (some ⟨b, 0, none⟩), .bool p] w (GivesW 100 b wB v ((n.take p).1, l) (.bool y) w) := by
  subst hy
  refine runW (args := [.bool p]) (by kernel_rfl) st_wk hx hk ?_
  have hT : WT 100 := by unfold WT; simp
  cases hc : (n.commit { n.t.b with r := p }).2 with
  | false =>
    refine t_w 100 a n ((n.commit { n.t.b with r := p }).1, l) (From.refl _ _) (fun u hu => hu.2) (fun u b hu _ hx => wcommit hT hF (set_r hw p) hc hx hu) fun a' A c ho => ?_
    have e : n.take p = ((n.commit { n.t.b with r := p }).1, false) := by unfold Nod.take; simp [hc]
    rw [e]
    exact t_lit 30 (e_w a' _ (fun u hu => hu) ho)
  | true =>
    refine t_w 100 a n ((n.commit { n.t.b with r := p }).1, l) (From.refl _ _) (fun u hu => hu.2) (fun u b hu _ hx => wcommit hT hF (set_r hw p) hc hx hu) fun a' A c ho => ?_
    have e : n.take p = ({ (n.commit { n.t.b with r := p }).1 with pri := p }, true) := by unfold Nod.take; simp [hc]
    rw [e]
    exact t_lit 30 (e_w a' _ (fun u hu => ⟨hu.1.like, hu.2⟩) ho)
theorem wask (hB : wB.heap.size ≤ w.heap.size) (hl : l.length ≤ 900) (hs : B64 n.ses) (id : Int) (hx : BoxO w b 100 (wkC n a v)) (hk : WK wB n a v l w) : Calls Tryz.prog 54 #[.pointer (some ⟨b, 0, none⟩), .int .i64 id] w (GivesW 100 b wB v ({ n with ask := true, askId := id }, l ++ [n.send (pk 10)]) (.tuple #[]) w) := by
  have hT : WT 100 := by unfold WT; simp
  exact runW (args := [.int .i64 id]) (by kernel_rfl) st_wk hx hk (t_w 100 a { n with ask := true, askId := id } ({ n with ask := true, askId := id }, l ++ [n.send (pk 10)]) (From.refl _ _) (fun u hu => hu.2) (fun u b hu hs2 hx => wsend hT (Nat.le_trans hB hs2) (by omega) (pk 10) hs Hel.zero_wide hx ⟨hu.1.like, hu.2⟩) fun a' A c ho => e_w a' _ (fun u hu => hu) ho)
theorem promote_is (h0 : 0 ≤ n.st) (h4 : n.st ≤ 4) (id : Int) : n.promote id = if n.mayP = 0 then (if n.st = 0 then ((n.take true).1, if (n.take true).2 = true then [(n.take true).1.reply id 0 e1] else []) else ({ n with ask := true, askId := id }, [n.send (pk 10)])) else n.refuse id n.mayP := by
  unfold Nod.promote Nod.mayP Nod.take Nod.linked
  generalize n.commit { n.t.b with r := true } = m
  obtain ⟨m, y⟩ := m
  by_cases g1 : n.st = 0
  · cases y <;> simp [g1] <;> repeat' split
    all_goals simp_all
    all_goals rfl
  · by_cases g2 : n.st = 1 ∨ n.st = 4
    · rcases g2 with g2 | g2 <;> cases y <;> simp [g2] <;> repeat' split
      all_goals simp_all
    · have g3 : n.st = 2 ∨ n.st = 3 := by omega
      rcases g3 with g2 | g2 <;> cases y <;> simp [g2] <;> repeat' split
      all_goals simp_all
theorem demote_is (id : Int) : n.demote id = if n.mayD = 0 then ((n.take false).1, if (n.take false).2 = true then (if (n.take false).1.linked = true then [(n.take false).1.send (pk 13)] else []) ++ [(n.take false).1.reply id 0 e1] else []) else n.refuse id n.mayD := by
  unfold Nod.demote Nod.mayD Nod.take Nod.linked
  generalize n.commit { n.t.b with r := false } = m
  obtain ⟨m, y⟩ := m
  cases y <;> simp only <;> repeat' split
  all_goals simp_all
  all_goals first | rfl | exact ⟨rfl, rfl⟩
theorem discard_is (id : Int) : n.discard id = if n.mayX = 0 then ((n.commit { n.t.b with d := true }).1, if (n.commit { n.t.b with d := true }).2 = true then [(n.commit { n.t.b with d := true }).1.reply id 0 e1] else []) else n.refuse id n.mayX := by
  unfold Nod.discard Nod.mayX
  repeat' split
  all_goals simp_all
theorem read_is (id i : Int) : n.read id i = (n, [n.reply id (if n.mayR = 0 then (n.t.read i).2 else n.mayR) (if n.mayR = 0 then (n.t.read i).1 else e1)]) := by
  unfold Nod.read Nod.mayR Nod.refuse
  repeat' split
  all_goals simp_all
theorem mayP_up (h : n.mayP = 0) : n.up = true := by
  unfold Nod.mayP at h
  split at h
  · cases h
  · simp_all
theorem mayD_up (h : n.mayD = 0) : n.up = true := by
  unfold Nod.mayD at h
  split at h
  · cases h
  · simp_all
theorem mayX_up (h : n.mayX = 0) : n.up = true := by
  unfold Nod.mayX at h
  split at h
  · cases h
  · simp_all
theorem t_as {bo : List Nat} {F : Value → S → World → Prop} {K : World → Prop} {t : Tree} {f : FuncId} {args : List Value} {A : Option Addr} {c : Nat} (n : Nod) (a : Adr) (r : Nod × List Ou) (x : Value) (ho : From w (.slice none 0 0) (.slice A l.length c)) (hr : ∀ u, K u → NM u n a ∧ Rw w (.slice A l.length c) l u)
    (hc : ∀ u b, w.heap.size ≤ u.heap.size → WK w n a (.slice A l.length c) l u → BoxO u b 100 (wkC n a (.slice A l.length c)) → Calls Tryz.prog f (.pointer (some ⟨b, 0, none⟩) :: args).toArray u (GivesW 100 b w (.slice A l.length c) r x u))
    (h : ∀ a' A c, From w (.slice none 0 0) (.slice A r.2.length c) → OK ⟨Tryz.prog, tyL, w, bo, []⟩ F (t.nc x (wkC r.1 a' (.slice A r.2.length c))) fun u => NM u r.1 a' ∧ Rw w (.slice A r.2.length c) r.2 u) (hd : t.hd = .cgrow f 100 (wkC n a (.slice A l.length c)) args := by kernel_rfl) : OK ⟨Tryz.prog, tyL, w, bo, []⟩ F t K :=
  t_w (v0 := .slice none 0 0) 100 a n r ho (fun u hu => (hr u hu).2) (fun u b hu hz hx => hc u b hz (hr u hu) hx) h (by kernel_rfl) hd
theorem wpromote (h : NOk N q n) (hq : q ≤ 890) (h0 : 0 ≤ n.st) (h4 : n.st ≤ 4) (id : Int) (hn : NM w n a) : Calls Tryz.prog 14 #[nodV n a, .int .i64 id] w (GivesN (n.promote id) w) := by
  have hT : WT 100 := by unfold WT; simp
  rw [promote_is h0 h4]
  refine run (st_nm n a) hn (t_v (fun u _ => wof n a u) ?_)
  refine t_as (l := []) n a (n, []) (.int .i64 n.mayP) (From.refl _ _) (fun u hu => ⟨hu, rw_nil w u⟩) (fun u b _ hu hx => wmayP hx hu) fun a1 A1 c1 ho1 => ?_
  by_cases hm : n.mayP = 0
  · rw [if_pos hm]
    refine t_N (b := n.mayP != 0) 0 (by simpa using hm) ?_
    by_cases hs : n.st = 0
    · rw [if_pos hs]
      refine t_N (b := !(n.st == 0)) 0 (by simpa using hs) ?_
      have hw := fun y (hy : (n.take true).2 = y) u b (_ : w.heap.size ≤ u.heap.size) (hu : WK w n a1 (.slice A1 0 c1) [] u) (hx : BoxO u b 100 (wkC n a1 (.slice A1 0 c1))) => wtake (h.fit (by omega)) (h.bw (mayP_up hm)) true hy hx hu
      cases hy : (n.take true).2 with
      | true =>
        rw [if_pos rfl]
        refine t_as n a1 ((n.take true).1, []) (.bool true) ho1 (fun u hu => hu) (hw _ hy) fun a2 A2 c2 ho2 => t_lit 30 ?_
        refine t_as _ a2 ((n.take true).1, [(n.take true).1.reply id 0 e1]) (.tuple #[]) ho2 (fun u hu => hu) (fun u b hz hu hx => wreply hT hz (by simp) id 0 e1 hx hu) fun a3 A3 c3 ho3 => ?_
        exact e_nr a3 _ fun u hu => hu
      | false =>
        rw [if_neg (by decide)]
        exact t_as n a1 ((n.take true).1, []) (.bool false) ho1 (fun u hu => hu) (hw _ hy) fun a2 A2 c2 ho2 => t_lit 9 (e_nr (r := ((n.take true).1, [])) a2 _ fun u hu => hu)
    · rw [if_neg hs]
      refine t_Y (b := !(n.st == 0)) 0 (by simpa using hs) ?_
      refine t_as n a1 ({ n with ask := true, askId := id }, [n.send (pk 10)]) (.tuple #[]) ho1 (fun u hu => hu) (fun u b hz hu hx => wask hz (by simp) h.ses id hx hu) fun a2 A2 c2 ho2 => ?_
      exact e_nr a2 _ fun u hu => hu
  · rw [if_neg hm]
    refine t_Y (b := n.mayP != 0) 0 (by simpa using hm) ?_
    refine t_as n a1 (n.refuse id n.mayP) (.tuple #[]) ho1 (fun u hu => hu) (fun u b hz hu hx => wreply hT hz (by simp) id n.mayP e1 hx hu) fun a2 A2 c2 ho2 => ?_
    exact e_nr a2 _ fun u hu => hu
theorem wdemote (h : NOk N q n) (hq : q ≤ 890) (id : Int) (hn : NM w n a) : Calls Tryz.prog 16 #[nodV n a, .int .i64 id] w (GivesN (n.demote id) w) := by
  have hT : WT 100 := by unfold WT; simp
  rw [demote_is]
  refine run (st_nm n a) hn (t_v (fun u _ => wof n a u) ?_)
  refine t_as (l := []) n a (n, []) (.int .i64 n.mayD) (From.refl _ _) (fun u hu => ⟨hu, rw_nil w u⟩) (fun u b _ hu hx => wmayD hx hu) fun a1 A1 c1 ho1 => ?_
  by_cases hm : n.mayD = 0
  · rw [if_pos hm]
    refine t_N (b := n.mayD != 0) 0 (by simpa using hm) ?_
    have hw := fun y (hy : (n.take false).2 = y) u b (_ : w.heap.size ≤ u.heap.size) (hu : WK w n a1 (.slice A1 0 c1) [] u) (hx : BoxO u b 100 (wkC n a1 (.slice A1 0 c1))) => wtake (h.fit (by omega)) (h.bw (mayD_up hm)) false hy hx hu
    cases hy : (n.take false).2 with
    | true =>
      have hs2 : B64 (n.take false).1.ses := by
        have := (h.commit (mayD_up hm) (b := { n.t.b with r := false }) (set_r (h.bw (mayD_up hm)) false)).ses
        unfold Nod.take
        dsimp only
        split <;> exact this
      rw [if_pos rfl]
      refine t_as n a1 ((n.take false).1, []) (.bool true) ho1 (fun u hu => hu) (hw _ hy) fun a2 A2 c2 ho2 => ?_
      generalize (n.take false).1 = m at *
      have hR := fun l (A : Option Addr) c a (hl : l.length ≤ 1000) u b (hz : w.heap.size ≤ u.heap.size) (hu : WK w m a (.slice A l.length c) l u) (hx : BoxO u b 100 (wkC m a (.slice A l.length c))) => wreply hT hz hl id 0 e1 hx hu
      have hS : ∀ u b, w.heap.size ≤ u.heap.size → WK w m a2 (.slice A2 0 c2) [] u → BoxO u b 100 (wkC m a2 (.slice A2 0 c2)) → _ := fun u b hz hu hx => wsend (l := []) hT hz (by simp) (pk 13) hs2 Hel.zero_wide hx hu
      have fin : ∀ a3 A3 c3, From w (.slice none 0 0) (.slice A3 1 c3) → ∀ t : Tree, t.hd = .cgrow 53 100 (wkC m a3 (.slice A3 1 c3)) [.int .i64 id, .int .i64 0, .string e1] → (∀ a4 A4 c4, (t.nc (.tuple #[]) (wkC m a4 (.slice A4 2 c4))).hd = .ret (.tuple #[nodV m a4, .slice A4 2 c4])) → OK ⟨Tryz.prog, tyL, w, [], []⟩ (fun v _ u => GivesN (m, [m.send (pk 13)] ++ [m.reply id 0 e1]) w (.returned v) u) t fun u => NM u m a3 ∧ Rw w (.slice A3 1 c3) [m.send (pk 13)] u := fun a3 A3 c3 ho3 t ht hr =>
        t_as (l := [m.send (pk 13)]) m a3 (m, [m.send (pk 13)] ++ [m.reply id 0 e1]) (.tuple #[]) ho3 (fun u hu => hu) (hR [m.send (pk 13)] A3 c3 a3 (by simp)) (fun a4 A4 c4 _ => e_nr a4 _ (fun u hu => hu) (hr a4 A4 c4)) ht
      by_cases g2 : m.st = 2
      · rw [if_pos (by unfold Nod.linked; simp [g2])]
        refine t_lit 1 (t_N (b := !(m.st == 2)) 5 (by simp [g2]) ?_)
        exact t_as m a2 (m, [] ++ [m.send (pk 13)]) (.tuple #[]) ho2 (fun u hu => hu) hS fun a3 A3 c3 ho3 => fin a3 A3 c3 ho3 _ (by kernel_rfl) (by intro a4 A4 c4; kernel_rfl)
      by_cases g3 : m.st = 3
      · rw [if_pos (by unfold Nod.linked; simp [g3])]
        refine t_lit 1 (t_Y (b := !(m.st == 2)) 4 (by simp [g2]) (t_Y (b := decide (m.st = 3)) 0 (by simp [g3]) ?_))
        exact t_as m a2 (m, [] ++ [m.send (pk 13)]) (.tuple #[]) ho2 (fun u hu => hu) hS fun a3 A3 c3 ho3 => fin a3 A3 c3 ho3 _ (by kernel_rfl) (by intro a4 A4 c4; kernel_rfl)
      rw [if_neg (by unfold Nod.linked; simp [g2, g3])]
      refine t_lit 1 (t_Y (b := !(m.st == 2)) 4 (by simp [g2]) (t_N (b := decide (m.st = 3)) 0 (by simp [g3]) ?_))
      exact t_as (l := []) m a2 (m, [] ++ [m.reply id 0 e1]) (.tuple #[]) ho2 (fun u hu => hu) (hR [] A2 c2 a2 (by simp)) fun a3 A3 c3 ho3 => e_nr a3 _ fun u hu => hu
    | false =>
      rw [if_neg (by decide)]
      exact t_as n a1 ((n.take false).1, []) (.bool false) ho1 (fun u hu => hu) (hw _ hy) fun a2 A2 c2 ho2 => t_lit 9 (e_nr (r := ((n.take false).1, [])) a2 _ fun u hu => hu)
  · rw [if_neg hm]
    refine t_Y (b := n.mayD != 0) 0 (by simpa using hm) ?_
    refine t_as n a1 (n.refuse id n.mayD) (.tuple #[]) ho1 (fun u hu => hu) (fun u b hz hu hx => wreply hT hz (by simp) id n.mayD e1 hx hu) fun a2 A2 c2 ho2 => ?_
    exact e_nr a2 _ fun u hu => hu
theorem wdiscard (h : NOk N q n) (hq : q ≤ 890) (id : Int) (hn : NM w n a) : Calls Tryz.prog 18 #[nodV n a, .int .i64 id] w (GivesN (n.discard id) w) := by
  have hT : WT 100 := by unfold WT; simp
  rw [discard_is]
  refine run (st_nm n a) hn (t_v (fun u _ => wof n a u) ?_)
  refine t_as (l := []) n a (n, []) (.int .i64 n.mayX) (From.refl _ _) (fun u hu => ⟨hu, rw_nil w u⟩) (fun u b _ hu hx => wmayX hx hu) fun a1 A1 c1 ho1 => ?_
  by_cases hm : n.mayX = 0
  · rw [if_pos hm]
    refine t_N (b := n.mayX != 0) 0 (by simpa using hm) ?_
    have hw := fun y (hy : (n.commit { n.t.b with d := true }).2 = y) u b (_ : w.heap.size ≤ u.heap.size) (hu : WK w n a1 (.slice A1 0 c1) [] u) (hx : BoxO u b 100 (wkC n a1 (.slice A1 0 c1))) => wcommit hT (h.fit (by omega)) (set_d (h.bw (mayX_up hm)) true) hy hx hu
    cases hy : (n.commit { n.t.b with d := true }).2 with
    | true =>
      rw [if_pos rfl]
      refine t_as n a1 ((n.commit { n.t.b with d := true }).1, []) (.bool true) ho1 (fun u hu => hu) (hw _ hy) fun a2 A2 c2 ho2 => t_lit 30 ?_
      refine t_as _ a2 ((n.commit { n.t.b with d := true }).1, [(n.commit { n.t.b with d := true }).1.reply id 0 e1]) (.tuple #[]) ho2 (fun u hu => hu) (fun u b hz hu hx => wreply hT hz (by simp) id 0 e1 hx hu) fun a3 A3 c3 ho3 => ?_
      exact e_nr a3 _ fun u hu => hu
    | false =>
      rw [if_neg (by decide)]
      exact t_as n a1 ((n.commit { n.t.b with d := true }).1, []) (.bool false) ho1 (fun u hu => hu) (hw _ hy) fun a2 A2 c2 ho2 => t_lit 9 (e_nr (r := ((n.commit { n.t.b with d := true }).1, [])) a2 _ fun u hu => hu)
  · rw [if_neg hm]
    refine t_Y (b := n.mayX != 0) 0 (by simpa using hm) ?_
    refine t_as n a1 (n.refuse id n.mayX) (.tuple #[]) ho1 (fun u hu => hu) (fun u b hz hu hx => wreply hT hz (by simp) id n.mayX e1 hx hu) fun a2 A2 c2 ho2 => ?_
    exact e_nr a2 _ fun u hu => hu
theorem wread (h : NOk N q n) (hq : q ≤ 890) (id i : Int) (hn : NM w n a) : Calls Tryz.prog 22 #[nodV n a, .int .i64 id, .int .i64 i] w (GivesN (n.read id i) w) := by
  have hT : WT 100 := by unfold WT; simp
  rw [read_is]
  refine run (st_nm n a) hn (t_v (fun u _ => wof n a u) ?_)
  refine t_as (l := []) n a (n, []) (.int .i64 n.mayR) (From.refl _ _) (fun u hu => ⟨hu, rw_nil w u⟩) (fun u b _ hu hx => wmayR hx hu) fun a1 A1 c1 ho1 => ?_
  by_cases hm : n.mayR = 0
  · rw [if_pos hm, if_pos hm]
    refine t_Y (b := n.mayR == 0) 0 (by simpa using hm) ?_
    refine t_v (fun u hu => zread_any a1.A a1.B a1.k a1.m n.t.s n.t.c n.t.f n.t.x n.t.b n.t.m i u hu.1.t (h.fit (by omega))) ?_
    refine t_as (l := []) n a1 (n, [n.reply id (n.t.read i).2 (n.t.read i).1]) (.tuple #[]) ho1 (fun u hu => hu) (fun u b hz hu hx => wreply (l := []) hT hz (by simp) id (n.t.read i).2 (n.t.read i).1 hx hu) fun a2 A2 c2 ho2 => ?_
    exact e_nr a2 _ fun u hu => hu
  · rw [if_neg hm, if_neg hm]
    refine t_N (b := n.mayR == 0) 0 (by simpa using hm) ?_
    refine t_as n a1 (n.refuse id n.mayR) (.tuple #[]) ho1 (fun u hu => hu) (fun u b hz hu hx => wreply hT hz (by simp) id n.mayR e1 hx hu) fun a2 A2 c2 ho2 => ?_
    exact e_nr a2 _ fun u hu => hu
end
end Go.Proofs.YtbmpdmomagkkmaaGreatDoor
