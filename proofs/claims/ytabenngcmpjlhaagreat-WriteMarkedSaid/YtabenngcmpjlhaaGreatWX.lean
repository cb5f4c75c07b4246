/- Nodes that write, the code's calls of layer 17: what each answers is the document's. No condition but that the node may be, and lies in memory. -/
import Derived.Test.YtabenngcmpjlhaaGreatWQ
import Derived.Test.YtabenngcmpjlhaaGreatWC
import Derived.Test.YtabenngcmpjlhaaGreatX2
import Derived.Test.YtabenngcmpjlhaaGreatSL
namespace Go.Proofs.YtabenngcmpjlhaaGreat
open Go.RowKit PX
set_option maxRecDepth 100000
section
variable {b : Nat} {wB w : World} {n : Nod} {l : List Ou} {a : Adr} {v : Value} {N q : Nat}
theorem wt_w : WT 89 := by unfold WT; simp
theorem wmayW (i : Int) (d : ByteArray) (hx : BoxO w b 89 (wkC n a v)) (hk : WK wB n a v l w) : Calls Tryz.prog 23 #[.pointer (some ⟨b, 0, none⟩), .int .i64 i, .string d] w (GivesW 89 b wB v (n, l) (.int .i64 (n.badW i d)) w) := by
  refine runW (args := [.int .i64 i, .string d]) (by kernel_rfl) st_wk hx hk ?_
  unfold Nod.badW
  by_cases h0 : n.up = false
  · rw [if_pos h0]
    exact t_Y (b := !n.up) 30 (by simp [h0]) (e_w a v (fun u hu => hu) (From.refl _ _))
  rw [if_neg h0]
  refine t_N (b := !n.up) 0 (by simpa using h0) ?_
  by_cases h1 : n.pri = false
  · rw [if_pos h1]
    exact t_Y (b := !n.pri) 30 (by simp [h1]) (e_w a v (fun u hu => hu) (From.refl _ _))
  rw [if_neg h1]
  refine t_N (b := !n.pri) 0 (by simpa using h1) ?_
  by_cases h2 : i < 0
  · rw [if_pos (.inl h2)]
    exact t_N (b := !(decide (i < 0))) 30 (by simp [h2]) (e_w a v (fun u hu => hu) (From.refl _ _))
  refine t_Y (b := !(decide (i < 0))) 9 (by simpa using h2) ?_
  by_cases h3 : n.t.b.n ≤ i
  · rw [if_pos (.inr h3)]
    exact t_Y (b := decide (n.t.b.n ≤ i)) 30 (by simpa using h3) (e_w a v (fun u hu => hu) (From.refl _ _))
  rw [if_neg (by omega)]
  refine t_N (b := decide (n.t.b.n ≤ i)) 0 (by simpa using h3) ?_
  by_cases h4 : d.size ≠ 8
  · rw [if_pos h4]
    exact t_Y (b := !((d.size : Int) == 8)) 30 (by simp; omega) (e_w a v (fun u hu => hu) (From.refl _ _))
  rw [if_neg h4]
  refine t_N (b := !((d.size : Int) == 8)) 0 (by simp; omega) ?_
  by_cases h5 : n.rq.on = true
  · rw [if_pos (.inl h5)]
    exact t_N (b := !n.rq.on) 30 (by simp [h5]) (e_w a v (fun u hu => hu) (From.refl _ _))
  refine t_Y (b := !n.rq.on) 6 (by simpa using h5) ?_
  by_cases h6 : n.st = 1
  · rw [if_pos (.inr h6)]
    exact t_Y (b := decide (n.st = 1)) 30 (by simpa using h6) (e_w a v (fun u hu => hu) (From.refl _ _))
  · rw [if_neg (by simp [h5, h6])]
    exact t_N (b := decide (n.st = 1)) 30 (by simpa using h6) (e_w a v (fun u hu => hu) (From.refl _ _))
theorem wunwait (hx : BoxO w b 89 (wkC n a v)) (hk : WK wB n a v l w) : Calls Tryz.prog 34 #[.pointer (some ⟨b, 0, none⟩)] w (GivesW 89 b wB v ({ n with rq := Req.zero }, l) (.int .i64 n.rq.id) w) :=
  runW (args := []) (by kernel_rfl) st_wk hx hk (e_w a v (fun u hu => ⟨hu.1.like, hu.2⟩) (From.refl _ _))
def Nod.parted (n : Nod) : Nod := ⟨n.id, n.up, n.t, n.pri, 0, 0, Hel.zero, false, n.rq, false, 0, 0, false, n.dr, n.mi⟩
theorem wpart (hx : BoxO w b 89 (wkC n a v)) (hk : WK wB n a v l w) : Calls Tryz.prog 33 #[.pointer (some ⟨b, 0, none⟩)] w (GivesW 89 b wB v (n.parted, l) (.tuple #[]) w) :=
  runW (args := []) (by kernel_rfl) st_wk hx hk (e_w a v (fun u hu => ⟨hu.1.like, hu.2⟩) (From.refl _ _))
theorem NM.tailD {u : World} {A B M : Option Addr} {k m p c : Nat} {D : Addr} {g : Int} {r : List Int} (h : NM u { n with dr := g :: r } ⟨A, k, B, m, some D, p, M, c⟩) : NM u { n with dr := r } ⟨A, k, B, m, if p = 1 then some D else some (D.add 1), p - 1, M, c⟩ := by
  have h2 : r.length + 1 ≤ p := h.dn.2
  refine ⟨h.t, ?_, ⟨fun e => ?_, ?_⟩, fun p' hp => ?_, h.mi, h.mn, h.mt⟩
  · exact us_tail h.d h2
  · have e : (if p = 1 then some D else some (D.add 1)) = none := e
    split at e <;> cases e
  · show r.length ≤ p - 1
    omega
  · have hp : (if p = 1 then some D else some (D.add 1)) = some p' := hp
    obtain ⟨cs, fz, hc⟩ := h.dt D rfl
    refine ⟨cs, fz, ?_⟩
    split at hp
    · injection hp with hp; rw [← hp]; exact hc
    · injection hp with hp; rw [← hp, addr_block]; exact hc
theorem ms_box {u : World} {r : Nat} {x : Mnt} (h : BoxO u r 67 [.int .u64 x.g, .int .u64 x.p, .int .i64 x.k]) : Ms u u.heap.size (some ⟨r, 0, none⟩) [x] :=
  cells_ms fun j y hj => ⟨_, rfl, h.lt, by rw [Addr.add_mid, Nat.zero_add, BoxO.cell h]; exact hj⟩
theorem wmint_some {g : Int} {r : List Int} (hr : r.length ≤ 1000) (hm : n.mi.length ≤ 1000) (hF : Fit n.t.s n.t.c n.t.f) (hw : (n.t.b.minted g).wide) (hx : BoxO w b 89 (wkC { n with dr := g :: r } a v)) (hk : WK wB { n with dr := g :: r } a v l w) : Calls Tryz.prog 35 #[.pointer (some ⟨b, 0, none⟩)] w (GivesW 89 b wB v ((Nod.mints { n with dr := g :: r }).1, l) (.tuple #[.int .i64 (if (Nod.mints { n with dr := g :: r }).2 = 6 then 0 else (Nod.mints { n with dr := g :: r }).2), .bool (decide ((Nod.mints { n with dr := g :: r }).2 ≠ 6))]) w) := by
  obtain ⟨A, k, B, m, D, p, M, c⟩ := a
  cases D with
  | none => obtain ⟨_, e, _⟩ := hk.1.d 0 g rfl; cases e
  | some D =>
  refine runW (args := []) (by kernel_rfl) st_wk hx hk ?_
  refine t_N (b := (((g :: r).length : Nat) : Int) == 0) 9 (by simp; omega) ?_
  refine t_ck (p := 0 ≤ (0 : Int) ∧ (0 : Int) < ((g :: r).length : Nat)) (by simp) ?_
  refine t_load (ty := 32) (p := D) (v := .int .u64 g) (fun u hu _ => reads1 (by kernel_rfl) ?_) ?_
  · obtain ⟨a0, e, _, h0⟩ := hu.1.d 0 g rfl
    injection e with e
    subst e
    exact h0
  refine t_ck (p := inB none p ∧ inB (some 1) (atB none (g :: r).length)) ⟨trivial, by decide, by simp [atB]; omega⟩ ?_
  refine t_v (fun u _ => mint_any n.t.b.c n.t.b.b n.t.b.o n.t.b.p g u) ?_
  by_cases hg : g = 0
  · subst hg
    have em : Nod.mints { n with dr := 0 :: r } = ({ n with dr := r }, 14) := rfl
    rw [em]
    exact t_Y (b := mintE 0 != 0) 9 (by decide) (e_w ⟨A, k, B, m, if p = 1 then some D else some (D.add 1), p - 1, M, c⟩ v (fun u hu => ⟨hu.1.tailD, hu.2⟩) (From.refl _ _))
  refine t_N (b := mintE g != 0) 0 (by unfold mintE; simp [hg]) ?_
  refine t_fresh 67 [.int .u64 g, .int .u64 n.t.b.c, .int .i64 n.id] (fun r1 hr1 => ?_)
  refine t_fresh 46 [.slice M n.mi.length c, .slice (some ⟨r1, 0, none⟩) 1 1] (fun r2 hr2 => ?_)
  refine t_call (args := #[.slice (some ⟨r2, 0, none⟩) 2 2]) (fun u hu hb => concatM_any r2 M (some ⟨r1, 0, none⟩) c 1 n.mi [⟨g, n.t.b.c, n.id⟩] u hu.2.lt ?_ ?_ hu.1.1.1.mi (ms_box (x := ⟨g, n.t.b.c, n.id⟩) hu.1.2) hu.1.1.1.mn (fun e => by cases e) (by simp; omega) (by simp)) ?_
  · have := BoxO.cell hu.2 0; exact this
  · have := BoxO.cell hu.2 1; exact this
  rintro u e u' hu hb ⟨x, rfl, ho, hbl⟩
  obtain ⟨A1, c1, rfl, _, _⟩ := own_ms ho
  refine ⟨_, fun y => y.ownsRow u.heap.size 67 3 (.slice A1 (n.mi ++ [(⟨g, n.t.b.c, n.id⟩ : Mnt)]).length c1) (n.mi ++ [(⟨g, n.t.b.c, n.id⟩ : Mnt)]).length (cellsM (n.mi ++ [⟨g, n.t.b.c, n.id⟩])), rfl, hbl, fun _ _ x q => ownsRow.ext q x rfl, ho, ?_⟩
  have hk2 : ∀ y, (((WK wB { n with dr := g :: r } ⟨A, k, B, m, some D, p, M, c⟩ v l y ∧ BoxO y r1 67 [.int .u64 g, .int .u64 n.t.b.c, .int .i64 n.id]) ∧ BoxO y r2 46 [.slice M n.mi.length c, .slice (some ⟨r1, 0, none⟩) 1 1]) ∧ y.ownsRow u.heap.size 67 3 (.slice A1 (n.mi ++ [(⟨g, n.t.b.c, n.id⟩ : Mnt)]).length c1) (n.mi ++ [(⟨g, n.t.b.c, n.id⟩ : Mnt)]).length (cellsM (n.mi ++ [⟨g, n.t.b.c, n.id⟩]))) → WK wB { n with dr := r, mi := n.mi ++ [⟨g, n.t.b.c, n.id⟩] } ⟨A, k, B, m, if p = 1 then some D else some (D.add 1), p - 1, A1, c1⟩ v l y := fun y hy =>
    ⟨NM.withM (n := { n with dr := r }) (a := ⟨A, k, B, m, if p = 1 then some D else some (D.add 1), p - 1, M, c⟩) hy.1.1.1.1.tailD hy.2, hy.1.1.1.2⟩
  have hc := fun u b (y : Bool) hy hx hv => wcommit (w := u) (b := b) (n := { n with dr := r, mi := n.mi ++ [⟨g, n.t.b.c, n.id⟩] }) (a := ⟨A, k, B, m, if p = 1 then some D else some (D.add 1), p - 1, A1, c1⟩) (v := v) (wB := wB) (l := l) wt_w hF hw (y := y) hy hx hv
  cases hq : (Nod.commit { n with dr := r, mi := n.mi ++ [⟨g, n.t.b.c, n.id⟩] } (n.t.b.minted g)).2 with
  | true =>
    have em : Nod.mints { n with dr := g :: r } = ({ (Nod.commit { n with dr := r, mi := n.mi ++ [⟨g, n.t.b.c, n.id⟩] } (n.t.b.minted g)).1 with mint := true }, 0) := by
      unfold Nod.mints
      dsimp only
      rw [if_neg hg, if_pos hq]
    rw [em]
    refine t_w 89 ⟨A, k, B, m, if p = 1 then some D else some (D.add 1), p - 1, A1, c1⟩ { n with dr := r, mi := n.mi ++ [⟨g, n.t.b.c, n.id⟩] } ((Nod.commit { n with dr := r, mi := n.mi ++ [⟨g, n.t.b.c, n.id⟩] } (n.t.b.minted g)).1, l) (From.refl _ _) (fun u hu => hu.1.1.1.2) (fun u b hu _ hx => hc u b true hq hx (hk2 u hu)) fun a' A' c' ho => ?_
    exact t_lit 9 (e_w a' _ (fun u hu => ⟨hu.1.like, hu.2⟩) ho)
  | false =>
    have em : Nod.mints { n with dr := g :: r } = ((Nod.commit { n with dr := r, mi := n.mi ++ [⟨g, n.t.b.c, n.id⟩] } (n.t.b.minted g)).1, 6) := by
      unfold Nod.mints
      dsimp only
      rw [if_neg hg, if_neg (by rw [hq]; decide)]
    rw [em]
    refine t_w 89 ⟨A, k, B, m, if p = 1 then some D else some (D.add 1), p - 1, A1, c1⟩ { n with dr := r, mi := n.mi ++ [⟨g, n.t.b.c, n.id⟩] } ((Nod.commit { n with dr := r, mi := n.mi ++ [⟨g, n.t.b.c, n.id⟩] } (n.t.b.minted g)).1, l) (From.refl _ _) (fun u hu => hu.1.1.1.2) (fun u b hu _ hx => hc u b false hq hx (hk2 u hu)) fun a' A' c' ho => ?_
    exact t_lit 9 (e_w a' _ (fun u hu => hu) ho)
theorem wmint (h : NOk N q n) (hq : q ≤ 890) (hu : n.up = true) {e : Int} (he : n.mints.2 = e) (hx : BoxO w b 89 (wkC n a v)) (hk : WK wB n a v l w) : Calls Tryz.prog 35 #[.pointer (some ⟨b, 0, none⟩)] w (GivesW 89 b wB v (n.mints.1, l) (.tuple #[.int .i64 (if e = 6 then 0 else e), .bool (decide (e ≠ 6))]) w) := by
  subst he
  cases hd : n.dr with
  | nil =>
    rw [show n.mints = (n, 14) by unfold Nod.mints; rw [hd]]
    exact runW (args := []) (by kernel_rfl) st_wk hx hk (t_Y (b := ((n.dr.length : Nat) : Int) == 0) 9 (by simp [hd]) (e_w a v (fun u hu => hu) (From.refl _ _)))
  | cons g r =>
    have e : { n with dr := g :: r } = n := by cases n; simp at hd; subst hd; rfl
    have hl := h.dl
    rw [hd] at hl
    have key := wmint_some (n := n) (g := g) (r := r) (a := a) (w := w) (b := b) (wB := wB) (v := v) (l := l) (by simp at hl; omega) (by have := h.ml; omega) (h.fit (by omega)) (minted_wide (h.bw hu) (h.dr g (by rw [hd]; simp))) (by rw [e]; exact hx) (by rw [e]; exact hk)
    rw [e] at key
    exact key
theorem wlay (h : NOk N q n) (hq : q ≤ 890) (hu : n.up = true) (i : Int) (d : ByteArray) {y : Bool} (hy : (n.lay i d).2 = y) (hx : BoxO w b 89 (wkC n a v)) (hk : WK wB n a v l w) : Calls Tryz.prog 38 #[.pointer (some ⟨b, 0, none⟩), .int .i64 i, .string d] w (GivesW 89 b wB v ((n.lay i d).1, l) (.bool y) w) := by
  subst hy
  have hm := h.keep (goes_mark (h.live hu) i)
  refine runW (args := [.int .i64 i, .string d]) (by kernel_rfl) st_wk hx hk ?_
  unfold Nod.lay
  dsimp only
  cases hk1 : (n.keep (n.t.mark i)).2 with
  | true =>
    rw [if_pos rfl]
    have hu2 : (n.keep (n.t.mark i)).1.up = true := by rw [keep_up hk1]; exact hu
    refine t_w 89 a n ((n.keep (n.t.mark i)).1, l) (From.refl _ _) (fun u hu => hu.2) (fun u b hu' _ hx => wmark wt_w (h.fit (by omega)) (h.m32 hu) i hk1 hx hu') fun a' A c ho => t_lit 9 ?_
    generalize (n.keep (n.t.mark i)).1 = m at *
    cases hk2 : (m.keep (m.t.put i d)).2 with
    | true =>
      exact t_w 89 a' m ((m.keep (m.t.put i d)).1, l) ho (fun u hu => hu.2) (fun u b hu' _ hx => wput wt_w (hm.fit (by omega)) i d hk2 hx hu') fun a2 A2 c2 ho2 => t_lit 9 (e_w a2 _ (fun u hu => hu) ho2)
    | false =>
      exact t_w 89 a' m ((m.keep (m.t.put i d)).1, l) ho (fun u hu => hu.2) (fun u b hu' _ hx => wput wt_w (hm.fit (by omega)) i d hk2 hx hu') fun a2 A2 c2 ho2 => t_lit 9 (e_w a2 _ (fun u hu => hu) ho2)
  | false =>
    rw [if_neg (by decide)]
    exact t_w 89 a n ((n.keep (n.t.mark i)).1, l) (From.refl _ _) (fun u hu => hu.2) (fun u b hu' _ hx => wmark wt_w (h.fit (by omega)) (h.m32 hu) i hk1 hx hu') fun a' A c ho => t_lit 9 (e_w a' _ (fun u hu => hu) ho)
def Nod.laidA (n : Nod) (id i : Int) (d : ByteArray) : Nod × List Ou := ((n.lay i d).1, if (n.lay i d).2 = true then [(n.lay i d).1.reply id 0 e1] else [])
def Nod.laidM (n : Nod) (id i : Int) (d : ByteArray) : Nod × List Ou := (if (n.lay i d).2 = true then { (n.lay i d).1 with rq := ⟨true, id, i, d⟩ } else (n.lay i d).1, if (n.lay i d).2 = true then [(n.lay i d).1.send (pkD 2 i d)] else [])
def Nod.wAlone (n : Nod) (id i : Int) (d : ByteArray) : Nod × List Ou :=
  if n.mint = false then (if n.mints.2 = 6 then (n.mints.1, []) else if n.mints.2 = 0 then n.mints.1.laidA id i d else (n.mints.1, [n.mints.1.reply id n.mints.2 e1])) else n.laidA id i d
theorem t_laidA {T : Tree} {K : World → Prop} {A0 : Option Addr} {c0 : Nat} (h : NOk N q n) (hq : q ≤ 890) (hu : n.up = true) (hB : wB.heap.size ≤ w.heap.size) (hl : l.length ≤ 900) (id i : Int) (d : ByteArray) (ho : From w v (.slice A0 l.length c0)) (hK : ∀ u, K u → WK wB n a (.slice A0 l.length c0) l u)
    (c1 : T.hd = .cgrow 38 89 (wkC n a (.slice A0 l.length c0)) [.int .i64 i, .string d] := by kernel_rfl)
    (c2 : ∀ a' A c, ((T.nc (.bool false) (wkC (n.lay i d).1 a' (.slice A l.length c))).lit 9).hd = .ret (.tuple #[]) := by intro a' A c; kernel_rfl)
    (c3 : ∀ a' A c, ((T.nc (.bool false) (wkC (n.lay i d).1 a' (.slice A l.length c))).lit 9).st.hp 0 = some (89, wkC (n.lay i d).1 a' (.slice A l.length c)) := by intro a' A c; kernel_rfl)
    (c4 : ∀ a' A c, ((T.nc (.bool true) (wkC (n.lay i d).1 a' (.slice A l.length c))).lit 9).hd = .cgrow 24 89 (wkC (n.lay i d).1 a' (.slice A l.length c)) [.int .i64 id, .int .i64 0, .string e1] := by intro a' A c; kernel_rfl)
    (c5 : ∀ a' A c a2 A2 c2, (((T.nc (.bool true) (wkC (n.lay i d).1 a' (.slice A l.length c))).lit 9).nc (.tuple #[]) (wkC (n.lay i d).1 a2 (.slice A2 (l ++ [(n.lay i d).1.reply id 0 e1]).length c2))).hd = .ret (.tuple #[]) := by intro a' A c a2 A2 c2; kernel_rfl)
    (c6 : ∀ a' A c a2 A2 c2, (((T.nc (.bool true) (wkC (n.lay i d).1 a' (.slice A l.length c))).lit 9).nc (.tuple #[]) (wkC (n.lay i d).1 a2 (.slice A2 (l ++ [(n.lay i d).1.reply id 0 e1]).length c2))).st.hp 0 = some (89, wkC (n.lay i d).1 a2 (.slice A2 (l ++ [(n.lay i d).1.reply id 0 e1]).length c2)) := by intro a' A c a2 A2 c2; kernel_rfl) :
    OK ⟨Tryz.prog, tyL, w, [b], v.ownBlock.toList⟩ (fun y s u => ∃ cs', s.hp 0 = some (89, cs') ∧ ∃ a' v', y = .tuple #[] ∧ cs' = wkC (n.laidA id i d).1 a' v' ∧ NM u (n.laidA id i d).1 a' ∧ Rw wB v' (l ++ (n.laidA id i d).2) u ∧ From w v v') T K := by
  unfold Nod.laidA
  cases hy : (n.lay i d).2 with
  | false =>
    rw [if_neg (by decide), List.append_nil]
    refine t_w (v0 := v) (v := .slice A0 l.length c0) 89 a n ((n.lay i d).1, l) ho (fun u hu => (hK u hu).2) (fun u b hu' _ hx => wlay h hq hu i d hy hx (hK u hu')) (fun a' A c ho2 => ?_) (by kernel_rfl) c1
    exact t_lit 9 (e_w a' _ (fun u hu => hu) ho2 (c2 a' A c) (c3 a' A c))
  | true =>
    rw [if_pos rfl]
    refine t_w (v0 := v) (v := .slice A0 l.length c0) 89 a n ((n.lay i d).1, l) ho (fun u hu => (hK u hu).2) (fun u b hu' _ hx => wlay h hq hu i d hy hx (hK u hu')) (fun a' A c ho2 => t_lit 9 ?_) (by kernel_rfl) c1
    exact t_w (v0 := v) (v := .slice A l.length c) 89 a' (n.lay i d).1 ((n.lay i d).1, l ++ [(n.lay i d).1.reply id 0 e1]) ho2 (fun u hu => hu.2) (fun u b hu' hs2 hx => wreply wt_w (Nat.le_trans hB hs2) (by omega) id 0 e1 hx hu') (fun a2 A2 c2 ho3 => e_w a2 _ (fun u hu => hu) ho3 (c5 a' A c a2 A2 c2) (c6 a' A c a2 A2 c2)) (by kernel_rfl) (c4 a' A c)
theorem wwriteA (h : NOk N q n) (hq : q ≤ 880) (hu : n.up = true) (hB : wB.heap.size ≤ w.heap.size) (hl : l.length ≤ 900) (id i : Int) (d : ByteArray) (hx : BoxO w b 89 (wkC n a v)) (hk : WK wB n a v l w) : Calls Tryz.prog 25 #[.pointer (some ⟨b, 0, none⟩), .int .i64 id, .int .i64 i, .string d] w (GivesW 89 b wB v ((n.wAlone id i d).1, l ++ (n.wAlone id i d).2) (.tuple #[]) w) := by
  obtain ⟨A0, c0, rfl, _⟩ := hk.2.om
  refine runW (args := [.int .i64 id, .int .i64 i, .string d]) (by kernel_rfl) st_wk hx hk ?_
  unfold Nod.wAlone
  by_cases hm : n.mint = false
  rotate_left
  · rw [if_neg hm]
    exact t_N (b := !n.mint) 0 (by simpa using hm) (t_laidA h (by omega) hu hB hl id i d (From.refl _ _) fun u hu => hu)
  rw [if_pos hm]
  refine t_Y (b := !n.mint) 0 (by simpa using hm) ?_
  by_cases h6 : n.mints.2 = 6
  · rw [if_pos h6, List.append_nil]
    exact t_w 89 a n (n.mints.1, l) (From.refl _ _) (fun u hu => hu.2) (fun u b hu' _ hx => wmint h (by omega) hu h6 hx hu') fun a' A c ho => t_lit 9 (e_w a' _ (fun u hu => hu) ho)
  rw [if_neg h6]
  by_cases h0 : n.mints.2 = 0
  · rw [if_pos h0]
    refine t_w 89 a n (n.mints.1, l) (From.refl _ _) (fun u hu => hu.2) (fun u b hu' _ hx => wmint h (by omega) hu h0 hx hu') fun a' A c ho => t_lit 9 ?_
    exact t_laidA (h.mints hu) (by omega) (mints_up hu h6) hB hl id i d ho fun u hu => hu
  · rw [if_neg h0]
    refine t_w 89 a n (n.mints.1, l) (x := .tuple #[.int .i64 n.mints.2, .bool true]) (From.refl _ _) (fun u hu => hu.2) (fun u b hu' _ hx => by have := wmint h (by omega) hu rfl hx hu'; rw [if_neg h6, decide_eq_true h6] at this; exact this) fun a' A c ho => t_lit 1 ?_
    refine t_Y (b := n.mints.2 != 0) 9 (by simpa using h0) ?_
    exact t_w 89 a' n.mints.1 (n.mints.1, l ++ [n.mints.1.reply id n.mints.2 e1]) ho (fun u hu => hu.2) (fun u b hu' hs2 hx => wreply wt_w (Nat.le_trans hB hs2) (by omega) id n.mints.2 e1 hx hu') fun a2 A2 c2 ho2 => e_w a2 _ (fun u hu => hu) ho2
theorem wwriteM (h : NOk N q n) (hq : q ≤ 880) (hu : n.up = true) (hB : wB.heap.size ≤ w.heap.size) (hl : l.length ≤ 900) (id i : Int) (d : ByteArray) (hx : BoxO w b 89 (wkC n a v)) (hk : WK wB n a v l w) : Calls Tryz.prog 26 #[.pointer (some ⟨b, 0, none⟩), .int .i64 id, .int .i64 i, .string d] w (GivesW 89 b wB v ((n.laidM id i d).1, l ++ (n.laidM id i d).2) (.tuple #[]) w) := by
  refine runW (args := [.int .i64 id, .int .i64 i, .string d]) (by kernel_rfl) st_wk hx hk ?_
  unfold Nod.laidM
  cases hy : (n.lay i d).2 with
  | false =>
    rw [if_neg (by decide), if_neg (by decide), List.append_nil]
    exact t_w 89 a n ((n.lay i d).1, l) (From.refl _ _) (fun u hu => hu.2) (fun u b hu' _ hx => wlay h (by omega) hu i d hy hx hu') fun a' A c ho => t_lit 9 (e_w a' _ (fun u hu => hu) ho)
  | true =>
    rw [if_pos rfl, if_pos rfl]
    have hs := (h.lay hu i d).ses
    refine t_w 89 a n ((n.lay i d).1, l) (From.refl _ _) (fun u hu => hu.2) (fun u b hu' _ hx => wlay h (by omega) hu i d hy hx hu') fun a' A c ho => t_lit 9 ?_
    exact t_w 89 a' { (n.lay i d).1 with rq := ⟨true, id, i, d⟩ } ({ (n.lay i d).1 with rq := ⟨true, id, i, d⟩ }, l ++ [(n.lay i d).1.send (pkD 2 i d)]) ho (fun u hu => hu.2) (fun u b hu' hs2 hx => wsend wt_w (Nat.le_trans hB hs2) (by omega) (pkD 2 i d) hs Hel.zero_wide hx ⟨hu'.1.like, hu'.2⟩) fun a2 A2 c2 ho2 => e_w a2 _ (fun u hu => hu) ho2
theorem laid_A (h : n.st = 0) (id i : Int) (d : ByteArray) : n.laid id i d = n.laidA id i d := by
  unfold Nod.laid Nod.laidA
  dsimp only
  cases hk : (n.lay i d).2 with
  | true => rw [if_pos rfl, if_pos rfl, if_pos ((lay_st hk).1.trans h)]
  | false => rw [if_neg (by decide), if_neg (by decide)]
theorem laid_M (h : n.st ≠ 0) (id i : Int) (d : ByteArray) : n.laid id i d = n.laidM id i d := by
  unfold Nod.laid Nod.laidM
  dsimp only
  cases hk : (n.lay i d).2 with
  | true => rw [if_pos rfl, if_pos rfl, if_pos rfl, if_neg (by rw [(lay_st hk).1]; exact h)]
  | false => rw [if_neg (by decide), if_neg (by decide), if_neg (by decide)]
theorem write_is (id i : Int) (d : ByteArray) : n.write id i d = if n.badW i d = 0 then (if n.st = 0 then n.wAlone id i d else n.laidM id i d) else n.refuse id (n.badW i d) := by
  unfold Nod.write
  split
  · by_cases hs : n.st = 0
    · rw [if_pos hs]
      unfold Nod.wAlone
      by_cases hm : n.mint = false
      · rw [if_pos ⟨hs, hm⟩, if_pos hm]
        split
        · rfl
        split
        · next h0 => exact laid_A ((mints_ok h0).1.trans hs) id i d
        · rfl
      · rw [if_neg (fun h => hm h.2), if_neg hm]
        exact laid_A hs id i d
    · rw [if_neg hs, if_neg (fun h => hs h.1)]
      exact laid_M hs id i d
  · rfl
theorem wwrite (h : NOk N q n) (hq : q ≤ 880) (id i : Int) (d : ByteArray) (hn : NM w n a) : Calls Tryz.prog 10 #[nodV n a, .int .i64 id, .int .i64 i, .string d] w (GivesN (n.write id i d) w) := by
  rw [write_is]
  refine run (st_nm n a) hn (t_v (fun u _ => wof n a u) ?_)
  refine t_at (l := []) 89 n a (n, []) (.int .i64 (n.badW i d)) (From.refl _ _) (fun u hu => ⟨hu, rw_nil w u⟩) (fun u b _ hu hx => wmayW i d hx hu) fun a1 A1 c1 ho1 => ?_
  by_cases hm : n.badW i d = 0
  · rw [if_pos hm]
    have hu := bad_up hm
    refine t_N (b := n.badW i d != 0) 0 (by simpa using hm) ?_
    by_cases hs : n.st = 0
    · rw [if_pos hs]
      refine t_Y (b := n.st == 0) 0 (by simpa using hs) ?_
      refine t_at (l := []) 89 n a1 ((n.wAlone id i d).1, [] ++ (n.wAlone id i d).2) (.tuple #[]) ho1 (fun u hu => hu) (fun u b hz hu' hx => wwriteA (l := []) h hq hu hz (by simp) id i d hx hu') fun a2 A2 c2 ho2 => ?_
      exact e_nr (r := n.wAlone id i d) a2 _ fun u hu => hu
    · rw [if_neg hs]
      refine t_N (b := n.st == 0) 0 (by simpa using hs) ?_
      refine t_at (l := []) 89 n a1 ((n.laidM id i d).1, [] ++ (n.laidM id i d).2) (.tuple #[]) ho1 (fun u hu => hu) (fun u b hz hu' hx => wwriteM (l := []) h hq hu hz (by simp) id i d hx hu') fun a2 A2 c2 ho2 => ?_
      exact e_nr (r := n.laidM id i d) a2 _ fun u hu => hu
  · rw [if_neg hm]
    refine t_Y (b := n.badW i d != 0) 0 (by simpa using hm) ?_
    refine t_at (l := []) 89 n a1 (n.refuse id (n.badW i d)) (.tuple #[]) ho1 (fun u hu => hu) (fun u b hz hu hx => wreply wt_w hz (by simp) id (n.badW i d) e1 hx hu) fun a2 A2 c2 ho2 => ?_
    exact e_nr a2 _ fun u hu => hu
theorem wapply (h : NOk N q n) (hq : q ≤ 880) (hu : n.up = true) (i : Int) (d : ByteArray) (hn : NM w n a) : Calls Tryz.prog 18 #[nodV n a, .int .i64 i, .string d] w (GivesN (n.apply i d) w) := by
  refine run (st_nm n a) hn (t_v (fun u _ => wof n a u) ?_)
  unfold Nod.apply
  dsimp only
  have hs := (h.lay hu i d).ses
  cases hy : (n.lay i d).2 with
  | true =>
    rw [if_pos rfl]
    refine t_at (l := []) 89 n a ((n.lay i d).1, []) (.bool true) (From.refl _ _) (fun u hu => ⟨hu, rw_nil w u⟩) (fun u b _ hu' hx => wlay h (by omega) hu i d hy hx hu') fun a1 A1 c1 ho1 => t_lit 9 ?_
    refine t_at (l := []) 89 (n.lay i d).1 a1 ((n.lay i d).1, [] ++ [(n.lay i d).1.send (pkI 3 i)]) (.tuple #[]) ho1 (fun u hu => hu) (fun u b hz hu' hx => wsend (l := []) wt_w hz (by simp) (pkI 3 i) hs Hel.zero_wide hx hu') fun a2 A2 c2 ho2 => ?_
    exact e_nr a2 _ fun u hu => hu
  | false =>
    rw [if_neg (by decide)]
    exact t_at (l := []) 89 n a ((n.lay i d).1, []) (.bool false) (From.refl _ _) (fun u hu => ⟨hu, rw_nil w u⟩) (fun u b _ hu' hx => wlay h (by omega) hu i d hy hx hu') fun a1 A1 c1 ho1 => t_lit 9 (e_nr (r := ((n.lay i d).1, [])) a1 _ fun u hu => hu)
theorem wacked (h : NOk N q n) (hq : q ≤ 880) (hu : n.up = true) (i : Int) (hn : NM w n a) : Calls Tryz.prog 17 #[nodV n a, .int .i64 i] w (GivesN (n.acked i) w) := by
  refine run (st_nm n a) hn (t_v (fun u _ => wof n a u) ?_)
  unfold Nod.acked
  by_cases h0 : n.rq.on = true
  rotate_left
  · rw [if_neg (fun h => h0 h.1)]
    exact t_N (b := !(!n.rq.on)) 30 (by simpa using h0) (e_n0 a fun u hu => hu)
  refine t_Y (b := !(!n.rq.on)) 6 (by simpa using h0) ?_
  by_cases h1 : n.rq.i = i
  rotate_left
  · rw [if_neg (fun h => h1 h.2)]
    exact t_Y (b := !(n.rq.i == i)) 9 (by simpa using h1) (e_n0 a fun u hu => hu)
  rw [if_pos ⟨h0, h1⟩]
  dsimp only
  refine t_N (b := !(n.rq.i == i)) 0 (by simpa using h1) ?_
  refine t_at (l := []) 89 n a ({ n with rq := Req.zero }, []) (.int .i64 n.rq.id) (From.refl _ _) (fun u hu => ⟨hu, rw_nil w u⟩) (fun u b _ hu' hx => wunwait hx hu') fun a1 A1 c1 ho1 => ?_
  refine t_at (l := []) 89 { n with rq := Req.zero } a1 ({ n with rq := Req.zero }, [] ++ [n.reply n.rq.id 0 e1]) (.tuple #[]) ho1 (fun u hu => hu) (fun u b hz hu' hx => wreply (l := []) wt_w hz (by simp) n.rq.id 0 e1 hx hu') fun a2 A2 c2 ho2 => ?_
  have h9 : NOk N q { n with rq := Req.zero } := h.as rfl rfl h.ses h.peer rfl rfl
  have hw := h9.wipe hu i
  cases hy : (Nod.wipe { n with rq := Req.zero } i).2 with
  | true =>
    rw [if_pos rfl]
    refine t_at (l := [n.reply n.rq.id 0 e1]) 89 { n with rq := Req.zero } a2 ((Nod.wipe { n with rq := Req.zero } i).1, [n.reply n.rq.id 0 e1]) (.bool true) ho2 (fun u hu => hu) (fun u b _ hu' hx => wwipe wt_w (h9.fit (by omega)) (h9.m32 hu) i hy hx hu') fun a3 A3 c3 ho3 => t_lit 9 ?_
    refine t_at (l := [n.reply n.rq.id 0 e1]) 89 (Nod.wipe { n with rq := Req.zero } i).1 a3 ((Nod.wipe { n with rq := Req.zero } i).1, [n.reply n.rq.id 0 e1] ++ [(Nod.wipe { n with rq := Req.zero } i).1.send (pkI 4 i)]) (.tuple #[]) ho3 (fun u hu => hu) (fun u b hz hu' hx => wsend (l := [n.reply n.rq.id 0 e1]) wt_w hz (by simp) (pkI 4 i) hw.ses Hel.zero_wide hx hu') fun a4 A4 c4 ho4 => ?_
    exact e_nr a4 _ fun u hu => hu
  | false =>
    rw [if_neg (by decide)]
    exact t_at (l := [n.reply n.rq.id 0 e1]) 89 { n with rq := Req.zero } a2 ((Nod.wipe { n with rq := Req.zero } i).1, [n.reply n.rq.id 0 e1]) (.bool false) ho2 (fun u hu => hu) (fun u b _ hu' hx => wwipe wt_w (h9.fit (by omega)) (h9.m32 hu) i hy hx hu') fun a3 A3 c3 ho3 => t_lit 9 (e_nr (r := ((Nod.wipe { n with rq := Req.zero } i).1, [n.reply n.rq.id 0 e1])) a3 _ fun u hu => hu)
def Nod.loseC (n : Nod) : Nod × List Ou :=
  if n.st = 0 then (n, [])
  else if n.rq.on = true then ((Nod.mints { n.parted with rq := Req.zero }).1, (if n.ask = true then [n.reply n.askId 13 e1] else []) ++ if (Nod.mints { n.parted with rq := Req.zero }).2 = 6 then [] else [(Nod.mints { n.parted with rq := Req.zero }).1.reply n.rq.id (Nod.mints { n.parted with rq := Req.zero }).2 e1])
  else (n.parted, if n.ask = true then [n.reply n.askId 13 e1] else [])
theorem t_lost {T : Tree} {K : World → Prop} {A : Option Addr} {c : Nat} (h : NOk N q n) (hq : q ≤ 880) (hu : n.up = true) (hl : l.length ≤ 900) (h0 : ¬ n.st = 0) (el : l = if n.ask = true then [n.reply n.askId 13 e1] else []) (ho : From w (.slice none 0 0) (.slice A l.length c)) (hr : ∀ u, K u → NM u n a ∧ Rw w (.slice A l.length c) l u)
    (c1 : T.hd = .cgrow 33 89 (wkC n a (.slice A l.length c)) [])
    (c2 : ∀ a1 A1 c1, (T.nc (.tuple #[]) (wkC n.parted a1 (.slice A1 l.length c1))).hd = .br n.rq.on)
    (c3 : ∀ a1 A1 c1, (T.nc (.tuple #[]) (wkC n.parted a1 (.slice A1 l.length c1))).no.hd = .ret (.tuple #[nodV n.parted a1, .slice A1 l.length c1]))
    (c4 : ∀ a1 A1 c1, (T.nc (.tuple #[]) (wkC n.parted a1 (.slice A1 l.length c1))).yes.hd = .cgrow 34 89 (wkC n.parted a1 (.slice A1 l.length c1)) [])
    (c5 : ∀ a1 A1 c1 a2 A2 c2, ((T.nc (.tuple #[]) (wkC n.parted a1 (.slice A1 l.length c1))).yes.nc (.int .i64 n.rq.id) (wkC { n.parted with rq := Req.zero } a2 (.slice A2 l.length c2))).hd = .cgrow 35 89 (wkC { n.parted with rq := Req.zero } a2 (.slice A2 l.length c2)) [])
    (c6 : ∀ a1 A1 c1 a2 A2 c2 a3 A3 c3, ((((T.nc (.tuple #[]) (wkC n.parted a1 (.slice A1 l.length c1))).yes.nc (.int .i64 n.rq.id) (wkC { n.parted with rq := Req.zero } a2 (.slice A2 l.length c2))).nc (.tuple #[.int .i64 0, .bool false]) (wkC (Nod.mints { n.parted with rq := Req.zero }).1 a3 (.slice A3 l.length c3))).lit 9).hd = .ret (.tuple #[nodV (Nod.mints { n.parted with rq := Req.zero }).1 a3, .slice A3 l.length c3]))
    (c7 : ∀ a1 A1 c1 a2 A2 c2 a3 A3 c3 e, ((((T.nc (.tuple #[]) (wkC n.parted a1 (.slice A1 l.length c1))).yes.nc (.int .i64 n.rq.id) (wkC { n.parted with rq := Req.zero } a2 (.slice A2 l.length c2))).nc (.tuple #[.int .i64 e, .bool true]) (wkC (Nod.mints { n.parted with rq := Req.zero }).1 a3 (.slice A3 l.length c3))).lit 9).hd = .cgrow 24 89 (wkC (Nod.mints { n.parted with rq := Req.zero }).1 a3 (.slice A3 l.length c3)) [.int .i64 n.rq.id, .int .i64 e, .string e1])
    (c8 : ∀ a1 A1 c1 a2 A2 c2 a3 A3 c3 e o a4 A4 c4, (((((T.nc (.tuple #[]) (wkC n.parted a1 (.slice A1 l.length c1))).yes.nc (.int .i64 n.rq.id) (wkC { n.parted with rq := Req.zero } a2 (.slice A2 l.length c2))).nc (.tuple #[.int .i64 e, .bool true]) (wkC (Nod.mints { n.parted with rq := Req.zero }).1 a3 (.slice A3 l.length c3))).lit 9).nc (.tuple #[]) (wkC (Nod.mints { n.parted with rq := Req.zero }).1 a4 (.slice A4 (l ++ [o]).length c4))).hd = .ret (.tuple #[nodV (Nod.mints { n.parted with rq := Req.zero }).1 a4, .slice A4 (l ++ [o]).length c4])) :
    OK ⟨Tryz.prog, tyL, w, [], []⟩ (fun v _ u => GivesN n.loseC w (.returned v) u) T K := by
  unfold Nod.loseC
  rw [if_neg h0, ← el]
  have h9 : NOk N q { n.parted with rq := Req.zero } := h.as rfl rfl b64_zero Hel.zero_wide rfl rfl
  refine t_at (l := l) 89 n a (n.parted, l) (.tuple #[]) ho hr (fun u b _ hu' hx => wpart hx hu') (fun a1 A1 c1 ho1 => ?_) (by kernel_rfl) c1
  by_cases hq0 : n.rq.on = true
  rotate_left
  · rw [if_neg hq0]
    exact t_no (b := n.rq.on) (by simpa using hq0) (e_nr a1 _ (fun u hu => hu) (c3 a1 A1 c1)) (c2 a1 A1 c1)
  rw [if_pos hq0]
  refine t_yes (b := n.rq.on) hq0 ?_ (c2 a1 A1 c1)
  refine t_at (l := l) 89 n.parted a1 ({ n.parted with rq := Req.zero }, l) (.int .i64 n.rq.id) ho1 (fun u hu => hu) (fun u b _ hu' hx => wunwait (n := n.parted) hx hu') (fun a2 A2 c2 ho2 => ?_) (by kernel_rfl) (c4 a1 A1 c1)
  by_cases h6 : (Nod.mints { n.parted with rq := Req.zero }).2 = 6
  · rw [if_pos h6, List.append_nil]
    refine t_at (l := l) 89 { n.parted with rq := Req.zero } a2 ((Nod.mints { n.parted with rq := Req.zero }).1, l) (.tuple #[.int .i64 0, .bool false]) ho2 (fun u hu => hu) (fun u b _ hu' hx => wmint h9 (by omega) hu h6 hx hu') (fun a3 A3 c3 ho3 => t_lit 9 ?_) (by kernel_rfl) (c5 a1 A1 c1 a2 A2 c2)
    exact e_nr (r := ((Nod.mints { n.parted with rq := Req.zero }).1, l)) a3 _ (fun u hu => hu) (c6 a1 A1 c1 a2 A2 c2 a3 A3 c3)
  · rw [if_neg h6]
    refine t_at (l := l) 89 { n.parted with rq := Req.zero } a2 ((Nod.mints { n.parted with rq := Req.zero }).1, l) (.tuple #[.int .i64 (Nod.mints { n.parted with rq := Req.zero }).2, .bool true]) ho2 (fun u hu => hu) (fun u b _ hu' hx => by have := wmint h9 (by omega) hu rfl hx hu'; rw [if_neg h6, decide_eq_true h6] at this; exact this) (fun a3 A3 c3 ho3 => t_lit 9 ?_) (by kernel_rfl) (c5 a1 A1 c1 a2 A2 c2)
    refine t_at (l := l) 89 (Nod.mints { n.parted with rq := Req.zero }).1 a3 ((Nod.mints { n.parted with rq := Req.zero }).1, l ++ [(Nod.mints { n.parted with rq := Req.zero }).1.reply n.rq.id (Nod.mints { n.parted with rq := Req.zero }).2 e1]) (.tuple #[]) ho3 (fun u hu => hu) (fun u b hz hu' hx => wreply wt_w hz (by omega) n.rq.id (Nod.mints { n.parted with rq := Req.zero }).2 e1 hx hu') (fun a4 A4 c4 ho4 => ?_) (by kernel_rfl) (c7 a1 A1 c1 a2 A2 c2 a3 A3 c3 _)
    exact e_nr (r := ((Nod.mints { n.parted with rq := Req.zero }).1, l ++ [(Nod.mints { n.parted with rq := Req.zero }).1.reply n.rq.id (Nod.mints { n.parted with rq := Req.zero }).2 e1])) a4 _ (fun u hu => hu) (c8 a1 A1 c1 a2 A2 c2 a3 A3 c3 _ _ a4 A4 c4)
theorem wlose (h : NOk N q n) (hq : q ≤ 880) (hu : n.up = true) (hn : NM w n a) : Calls Tryz.prog 16 #[nodV n a] w (GivesN n.loseC w) := by
  refine run (st_nm n a) hn (t_v (fun u _ => wof n a u) ?_)
  by_cases h0 : n.st = 0
  · unfold Nod.loseC
    rw [if_pos h0]
    exact t_Y (b := n.st == 0) 9 (by simpa using h0) (e_n0 a fun u hu => hu)
  refine t_N (b := n.st == 0) 0 (by simpa using h0) ?_
  cases ha : n.ask with
  | true =>
    refine t_Y (b := n.ask) 0 ha ?_
    refine t_at (l := []) 89 n a (n, [] ++ [n.reply n.askId 13 e1]) (.tuple #[]) (From.refl _ _) (fun u hu => ⟨hu, rw_nil w u⟩) (fun u b hz hu' hx => wreply (l := []) wt_w hz (by simp) n.askId 13 e1 hx hu') fun a1 A1 c1 ho1 => ?_
    exact t_lost (l := [n.reply n.askId 13 e1]) h hq hu (by simp) h0 (by rw [if_pos ha]) ho1 (fun u hu => hu) (by kernel_rfl) (by intros; kernel_rfl) (by intros; kernel_rfl) (by intros; kernel_rfl) (by intros; kernel_rfl) (by intros; kernel_rfl) (by intros; kernel_rfl) (by intros; kernel_rfl)
  | false =>
    refine t_N (b := n.ask) 0 ha ?_
    exact t_lost (l := []) h hq hu (by simp) h0 (by rw [if_neg (by rw [ha]; decide)]) (From.refl _ _) (fun u hu => ⟨hu, rw_nil w u⟩) (by kernel_rfl) (by intros; kernel_rfl) (by intros; kernel_rfl) (by intros; kernel_rfl) (by intros; kernel_rfl) (by intros; kernel_rfl) (by intros; kernel_rfl) (by intros; kernel_rfl)
end
end Go.Proofs.YtabenngcmpjlhaaGreat
