/- Clusters: what comes of a node that did something. -/
import Derived.Test.YtkjikigimmchlaaGreatDoorX5
namespace Go.Proofs.YtkjikigimmchlaaGreatDoor
open Go.RowKit PX
set_option maxRecDepth 100000
set_option linter.unusedSimpArgs false
structure Aft (l0 : Lnk) (g : Int) (l : List Ou) where
  k : Int
  v : Value
  cl : Bool
  lk : Lnk
  A : Option Addr
  m : Nat
  B : Option Addr
  p : Nat
  j : Nat
  hj : j ≤ l.length
  hk : k = j
  hl : lk = sendsL l0 g (l.take j)
  hc : cl = closesL (l.take j)
theorem sends_snoc (o : Ou) : ∀ (a : List Ou) (l : Lnk) (g : Int), sendsL l g (a ++ [o]) = if o.k = 1 then (if (sendsL l g a).u = true then (sendsL l g a).send g [o.d] else sendsL l g a) else sendsL l g a
  | [], l, g => by by_cases h : o.k = 1 <;> by_cases k : l.u = true <;> simp [sendsL, h, k]
  | p :: r, l, g => by
    simp only [List.cons_append, sendsL]
    split <;> exact sends_snoc o r _ g
theorem says_snoc (o : Ou) (a : List Ou) : saysL (a ++ [o]) = if o.k = 1 then saysL a else saysL a ++ [o] := by
  unfold saysL
  rw [List.filter_append]
  by_cases h : o.k = 1 <;> simp [h]
theorem closes_snoc (o : Ou) (a : List Ou) : closesL (a ++ [o]) = (closesL a || decide (o.k = 3)) := by simp [closesL]
theorem st_k {rows : List Nat} {w : World} {F : Value → S → World → Prop} {K : World → Prop} {t : Tree} {f : FuncId} {args : Array Value} {x : Lnk} {g : Value → Value} (hc : ∀ u, K u → Calls Tryz.prog f args u (GivesK x g u)) (h : ∀ A n B m, OK ⟨Tryz.prog, tyL, w, [], rows⟩ F (t.nv (g (lkV x A n B m))) fun u => K u ∧ Lk u x A n B m) (hd : t.hd = .call (.fn f) args.toList := by kernel_rfl) : OK ⟨Tryz.prog, tyL, w, [], rows⟩ F t K :=
  t_call (fun u hu _ => hc u hu) (fun u e u' hu hb hr => by
    obtain ⟨A, n, B, m, he, h1, h3⟩ := hr
    exact ⟨_, _, he, h3, st_lk _ _ _ _ _, h1, h A n B m⟩) hd
def Loses (n : Nod) : Prop := n.up = true → n.lose.2.length ≤ 1000 ∧ ∀ u a', NM u n a' → Calls Tryz.prog 143 #[nodV n a'] u (GivesN n.lose u)
section
variable {w : World} {l0 : Lnk} {g : Int} {l : List Ou}
def aftL (i : Int) (O : Option Addr) (k : Nat) (y : Aft l0 g l) : List (Nat × AV) := [(1, .v (.int .i64 i)), (3, .v (.slice O l.length k)), (4, .lp 0 0), (6, .lp 1 0), (8, .lp 2 0), (10, .v y.v), (11, .v (.bool y.cl)), (12, .v (.int .i64 y.k))]
def aftB (c : Clu) (x : CAd) (n : Nod) (a : Adr) (y : Aft l0 g l) : List (Nat × Blk) := [(0, (67, cluC ⟨c.a, c.b, y.lk, c.wa, c.wb⟩ ⟨x.a, x.b, y.A, y.m, y.B, y.p⟩)), (1, (47, nodC n a)), (2, (67, cluC Clu.zero CAd.zero))]
def aftK (w : World) (c : Clu) (x : CAd) (O : Option Addr) (k : Nat) (y : Aft l0 g l) (u : World) : Prop := Rw w y.v (saysL (l.take y.j)) u ∧ (NM u c.a x.a ∧ NM u c.b x.b) ∧ Lk u y.lk y.A y.m y.B y.p ∧ OM u O k l
theorem aft_stab (c : Clu) (x : CAd) (O : Option Addr) (k : Nat) (y : Aft l0 g l) : Stab tyL (aftK w c x O k y) := (st_rw _ _ _).and (((st_nm _ _).and (st_nm _ _)).and ((st_lk _ _ _ _ _).and (st_om _ _ _)))
theorem aft_end {F : Value → S → World → Prop} {K : World → Prop} {t : Tree} (c : Clu) (x : CAd) (n : Nod) (a : Adr) (i : Int) (O : Option Addr) (k : Nat) (y y' : Aft l0 g l) (hμ : l.length - y'.j < l.length - y.j) (hK : ∀ u, K u → aftK w c x O k y' u)
    (hL : ((aftL i O k y').map fun p => t.st.fr p.1) = (aftL i O k y').map Prod.snd := by kernel_rfl) (hB : ((aftB c x n a y').map fun p => t.st.hp p.1) = (aftB c x n a y').map (fun p => some p.2) := by kernel_rfl)
    (hd : t = .leaf t.st (loopP ⟨Tryz.prog, tyL, w, [], []⟩ (aftL i O k) (aftB c x n a) (aftK w c x O k) (fun y => l.length - y.j) y) := by kernel_rfl) : OK ⟨Tryz.prog, tyL, w, [], []⟩ F t K := t_end (aftL i O k) (aftB c x n a) (aftK w c x O k) (fun y => l.length - y.j) y y' hμ (fun u h _ => hK u h) hL hB hd
theorem om_grown {u u' : World} {v : Value} {l1 l : List Ou} {ad : Addr} {k : Nat} (h : OM u (some ad) k l) (hlt : ad.block < w.heap.size) (hr : Rw w v l1 u) (hg : u.grownBy u' v.ownBlock) : OM u' (some ad) k l := by
  obtain ⟨cs, fz, hu⟩ := h.t ad rfl
  have hb : u'.heap[ad.block]? = u.heap[ad.block]? := hg.block _ (Array.getElem?_eq_some_iff.1 hu).1 fun e => by have := own_big hr _ e.symm; omega
  refine ⟨h.o.same hg.size fun a ha _ p hp => ?_, h.n, fun a ha => ?_⟩
  · injection ha with ha
    subst ha
    exact cell_of hp hb
  · injection ha with ha
    subst ha
    exact ⟨cs, fz, by rw [hb]; exact hu⟩
theorem t_E {F : Value → S → World → Prop} {K : World → Prop} {t : Tree} (c : Clu) (x : CAd) (v : Value) (l0 : List Ou) (hK : ∀ u, K u → CM u c x ∧ Rw w v l0 u) (hl : l0.length ≤ 100000) (hA : Loses c.a) (hZ : Loses c.b)
    (h : ∀ x' v', OK ⟨Tryz.prog, tyL, w, [], []⟩ F (t.nv (.tuple #[cluV (c.ends l0).1 x', v'])) fun u => CM u (c.ends l0).1 x' ∧ Rw w v' (c.ends l0).2 u) (hd : t.hd = .app (.fn 94) [cluV c x, v] := by kernel_rfl) : OK ⟨Tryz.prog, tyL, w, [], []⟩ F t K :=
  t_grow (args := #[cluV c x, v]) (R' := fun u e u' => GivesR w v (c.ends l0) u e u') (fun u hu hb => xend (base_size hb) c x v l0 (hK u hu).1 (hK u hu).2 hl hA hZ) (fun u e u' hu hb hr => by
    obtain ⟨x', v', he, h1, h2⟩ := hr
    refine ⟨_, _, he, ⟨h2.gr.os, h2.gr.tape, h2.gr.output, h2.gr.size, fun q hq => ?_⟩, (st_cm _ _).and (st_rw _ _ _), ⟨h1, h2.rw⟩, h x' v'⟩
    by_cases e : some q = v.ownBlock
    · obtain ⟨_, q2⟩ := (hK u hu).2.own
      rcases q2 with ⟨rfl, _⟩ | ⟨g', cap, cur, rfl, hb', hc, _⟩
      · cases e
      · injection e with e
        subst e
        exact .inr ⟨.inl hb', _, _, _, rfl, hc⟩
    · exact .inl (h2.gr.block q hq e)) hd
theorem e_C {r : Clu × List Ou} {K : World → Prop} {t : Tree} (x : CAd) (v : Value) (h : ∀ u, K u → CM u r.1 x ∧ Rw w v r.2 u) (hd : t.hd = .ret (.tuple #[cluV r.1 x, v]) := by kernel_rfl) : OK ⟨Tryz.prog, tyL, w, [], []⟩ (fun y _ u => GivesC r w (.returned y) u) t K :=
  t_ret _ (fun u hu hb _ => ⟨x, v, rfl, (h u hu).1, (h u hu).2, base_below hb⟩) hd
theorem xafter0 (c : Clu) (x : CAd) (n : Nod) (a : Adr) (l : List Ou) (O : Option Addr) (k : Nat) (hc : CM w c x) (hn : NM w n a) (ho : OM w O k l) (hl : l.length ≤ 1000) (h1 : c.l.a.length ≤ 10000) (h2 : c.l.b.length ≤ 10000) (hA : Loses n) (hZ : Loses c.b) :
    Calls Tryz.prog 100 #[cluV c x, .int .i64 0, nodV n a, .slice O l.length k] w (GivesC (c.after 0 n l) w) := by
  refine run ((st_cm c x).and ((st_nm n a).and (st_om O k l))) ⟨hc, hn, ho⟩ (t_ix 0 ?_)
  refine t_loop rfl (⟨0, .slice none 0 0, false, c.l, x.A, x.n, x.B, x.m, 0, Nat.zero_le _, rfl, rfl, rfl⟩ : Aft c.l (IntKind.i64.wrap (1 - 0)) l) (aftL 0 O k) (aftB (c.withA n) (x.withA a) n a) 100 (aftK w (c.withA n) (x.withA a) O k) (fun y => l.length - y.j) (aft_stab _ _ _ _) (fun u hu _ => ⟨rw_nil w u, ⟨hu.2.1, hu.1.b⟩, hu.1.l, hu.2.2⟩) ?_
  rintro ⟨k1, v1, cl, lk, A1, m1, B1, p1, j, hj, rfl, hlk, hcl⟩ f
  by_cases hjl : j < l.length
  · obtain ⟨ad, rfl⟩ : ∃ ad, O = some ad := by
      obtain ⟨a0, e, _⟩ := ho.o j l[j] (List.getElem?_eq_getElem hjl)
      exact ⟨a0, e⟩
    refine t_Y (b := decide ((j : Int) < (l.length : Int))) 0 (by simpa using hjl) (t_ck (p := 0 ≤ (j : Int) ∧ (j : Int) < (l.length : Nat)) ⟨by omega, by omega⟩ ?_)
    obtain ⟨o, ho1⟩ : ∃ o, l[j]? = some o := ⟨l[j], List.getElem?_eq_getElem hjl⟩
    have hO : ∀ u, OM u (some ad) k l → ad.block < u.heap.size ∧ u.cell? (ad.add (j * 5)) = some (.int .i64 o.k) ∧ u.cell? ⟨(ad.add (j * 5)).block, (ad.add (j * 5)).off + 1, none⟩ = some (.int .i64 o.n) ∧ u.cell? ⟨(ad.add (j * 5)).block, (ad.add (j * 5)).off + 2, none⟩ = some (.int .i64 o.id) ∧ u.cell? ⟨(ad.add (j * 5)).block, (ad.add (j * 5)).off + 3, none⟩ = some (.int .i64 o.e) ∧ u.cell? ⟨(ad.add (j * 5)).block, (ad.add (j * 5)).off + 4, none⟩ = some (.string o.d) := fun u hu => by
      obtain ⟨a0, e, h⟩ := hu.o j o ho1
      injection e with e
      subst e
      exact h
    have ht : l.take (j + 1) = l.take j ++ [o] := by rw [List.take_add_one, ho1]; rfl
    have hw1 : IntKind.i64.wrap ((j : Int) + 1) = ((j + 1 : Nat) : Int) := by rw [wrap_i64 (by omega) (by omega)]; push_cast; rfl
    have hμ : l.length - (j + 1) < l.length - j := by omega
    have hll : LLen (10000 + (l.take j).length) lk := by rw [hlk]; exact llen_sends (l.take j) ⟨h1, h2⟩ _
    have htl : (l.take j).length ≤ l.length := by simp; omega
    have hla : lk.a.length ≤ 100000 := by have := hll.1; omega
    have hlb : lk.b.length ≤ 100000 := by have := hll.2; omega
    have hlt : ad.block < w.heap.size := (hO w ho).1
    have hlen : (saysL (l.take j)).length + [o].length ≤ 1000000 := by
      have h1 : (saysL (l.take j)).length ≤ (l.take j).length := List.length_filter_le _ _
      have h2 : (l.take j).length ≤ l.length := by simp; omega
      simp only [List.length_cons, List.length_nil]
      omega
    have hrd : ∀ u, OM u (some ad) k l → Reads Tryz.prog u 59 (ad.add (j * 5)) (ouV o) := fun u hu => by
      obtain ⟨_, q0, q1, q2, q3, q4⟩ := hO u hu
      refine readsC (ouC o) (fun i v hi => ?_) Tryz.underlying59 rfl (by kernel_rfl)
      match i, hi with
      | 0, hi => injection hi with hi; subst hi; simpa [Addr.add] using q0
      | 1, hi => injection hi with hi; subst hi; simpa [Addr.add] using q1
      | 2, hi => injection hi with hi; subst hi; simpa [Addr.add] using q2
      | 3, hi => injection hi with hi; subst hi; simpa [Addr.add] using q3
      | 4, hi => injection hi with hi; subst hi; simpa [Addr.add] using q4
    have ck : 0 ≤ (j : Int) ∧ (j : Int) < (l.length : Nat) := ⟨by omega, by omega⟩
    refine t_load (ty := 3) (p := ad.add (j * 5)) (v := .int .i64 o.k) (fun u hu _ => reads1 (by kernel_rfl) (hO u hu.2.2.2).2.1) ?_
    by_cases hk1 : o.k = 1
    · refine t_Y 0 (ieq hk1) ?_
      by_cases hu : lk.u = true
      · refine t_Y 0 hu ?_
        refine t_ck ck ?_
        refine t_load (ty := 9) (p := ⟨(ad.add (j * 5)).block, (ad.add (j * 5)).off + 4, none⟩) (v := .string o.d) (fun u hu _ => reads1 (by kernel_rfl) (hO u hu.2.2.2).2.2.2.2.2) ?_
        refine t_fresh 9 [.string o.d] fun r hr => ?_
        have hP : ∀ u, BoxO u r 9 [.string o.d] → Es Value.string u u.heap.size (some ⟨r, 0, none⟩) [o.d] := fun u hu j x hj => by
          cases j with
          | zero =>
            injection hj with hj
            subst hj
            exact ⟨_, rfl, hu.lt, hu.cell 0⟩
          | succ j => cases hj
        refine st_k (fun u hu' => rksend_any lk A1 B1 m1 p1 (IntKind.i64.wrap (1 - 0)) (some ⟨r, 0, none⟩) 1 [o.d] u hu'.1.2.2.1 (hP u hu'.2) (by simp) hla hlb (by simp)) fun A2 n2 B2 m2 => ?_
        refine aft_end (c.withA n) (x.withA a) n a 0 (some ad) k (⟨j, v1, cl, lk, A1, m1, B1, p1, j, hj, rfl, hlk, hcl⟩ : Aft c.l (IntKind.i64.wrap (1 - 0)) l) (⟨IntKind.i64.wrap ((j : Int) + 1), v1, cl, lk.send (IntKind.i64.wrap (1 - 0)) [o.d], A2, n2, B2, m2, j + 1, hjl, hw1, by rw [ht, sends_snoc, if_pos hk1, ← hlk, if_pos hu], by rw [ht, closes_snoc, ← hcl, hk1]; simp⟩ : Aft c.l (IntKind.i64.wrap (1 - 0)) l) hμ fun u hu' => ⟨by show Rw w v1 (saysL (l.take (j + 1))) u; rw [ht, says_snoc, if_pos hk1]; exact hu'.1.1.1, hu'.1.1.2.1, hu'.2, hu'.1.1.2.2.2⟩
      · exact t_N 0 (bfalse hu) (aft_end (c.withA n) (x.withA a) n a 0 (some ad) k (⟨j, v1, cl, lk, A1, m1, B1, p1, j, hj, rfl, hlk, hcl⟩ : Aft c.l (IntKind.i64.wrap (1 - 0)) l) (⟨IntKind.i64.wrap ((j : Int) + 1), v1, cl, lk, A1, m1, B1, p1, j + 1, hjl, hw1, by rw [ht, sends_snoc, if_pos hk1, ← hlk, if_neg hu], by rw [ht, closes_snoc, ← hcl, hk1]; simp⟩ : Aft c.l (IntKind.i64.wrap (1 - 0)) l) hμ fun u hu' => ⟨by show Rw w v1 (saysL (l.take (j + 1))) u; rw [ht, says_snoc, if_pos hk1]; exact hu'.1, hu'.2⟩)
    · refine t_N 0 (ine hk1) ?_
      have cs : ∀ x : Bool, (!x) = true ∧ x = false ∨ (!x) = false ∧ x = true := by decide
      rcases cs cl with ⟨h, g⟩ | ⟨h, g⟩
      · refine t_Y 2 h (t_ck ck (t_lit 2 (t_load (ty := 3) (p := ad.add (j * 5)) (v := .int .i64 o.k) (fun u hu _ => reads1 (by kernel_rfl) (hO u hu.2.2.2).2.1) (t_lit 1 (t_ck ck ?_)))))
        refine t_load (ty := 59) (p := ad.add (j * 5)) (v := ouV o) (fun u hu _ => hrd u hu.2.2.2) (t_o o fun r hr => ?_)
        exact t_ao (l0 := saysL (l.take j)) (A := some ⟨r, 0, none⟩) (k := 1) (l := [o]) (fun u => (NM u n a ∧ NM u c.b x.b) ∧ Lk u lk A1 m1 B1 p1 ∧ OM u (some ad) k l) (((st_nm _ _).and (st_nm _ _)).and ((st_lk _ _ _ _ _).and (st_om _ _ _))) (fun u hu => ⟨hu.1.1, om_box hu.2⟩) (fun u u' hu hr hg => ⟨⟨hr.nm hg hu.1.2.1.1, hr.nm hg hu.1.2.1.2⟩, hr.lk hg hu.1.2.2.1, om_grown hu.1.2.2.2 hlt hr hg⟩) hlen fun v' =>
          aft_end (c.withA n) (x.withA a) n a 0 (some ad) k (⟨j, v1, cl, lk, A1, m1, B1, p1, j, hj, rfl, hlk, hcl⟩ : Aft c.l (IntKind.i64.wrap (1 - 0)) l) (⟨IntKind.i64.wrap ((j : Int) + 1), v', (o.k == 3), lk, A1, m1, B1, p1, j + 1, hjl, hw1, by rw [ht, sends_snoc, if_neg hk1, ← hlk], by rw [ht, closes_snoc, ← hcl, g]; rfl⟩ : Aft c.l (IntKind.i64.wrap (1 - 0)) l) hμ fun u hu' => ⟨by show Rw w v' (saysL (l.take (j + 1))) u; rw [ht, says_snoc, if_neg hk1]; exact hu'.2, hu'.1⟩
      · refine t_N 5 h (t_ck ck ?_)
        refine t_load (ty := 59) (p := ad.add (j * 5)) (v := ouV o) (fun u hu _ => hrd u hu.2.2.2) (t_o o fun r hr => ?_)
        exact t_ao (l0 := saysL (l.take j)) (A := some ⟨r, 0, none⟩) (k := 1) (l := [o]) (fun u => (NM u n a ∧ NM u c.b x.b) ∧ Lk u lk A1 m1 B1 p1 ∧ OM u (some ad) k l) (((st_nm _ _).and (st_nm _ _)).and ((st_lk _ _ _ _ _).and (st_om _ _ _))) (fun u hu => ⟨hu.1.1, om_box hu.2⟩) (fun u u' hu hr hg => ⟨⟨hr.nm hg hu.1.2.1.1, hr.nm hg hu.1.2.1.2⟩, hr.lk hg hu.1.2.2.1, om_grown hu.1.2.2.2 hlt hr hg⟩) hlen fun v' =>
          aft_end (c.withA n) (x.withA a) n a 0 (some ad) k (⟨j, v1, cl, lk, A1, m1, B1, p1, j, hj, rfl, hlk, hcl⟩ : Aft c.l (IntKind.i64.wrap (1 - 0)) l) (⟨IntKind.i64.wrap ((j : Int) + 1), v', true, lk, A1, m1, B1, p1, j + 1, hjl, hw1, by rw [ht, sends_snoc, if_neg hk1, ← hlk], by rw [ht, closes_snoc, ← hcl, g]; simp⟩ : Aft c.l (IntKind.i64.wrap (1 - 0)) l) hμ fun u hu' => ⟨by show Rw w v' (saysL (l.take (j + 1))) u; rw [ht, says_snoc, if_neg hk1]; exact hu'.2, hu'.1⟩
  · refine t_N (b := decide ((j : Int) < (l.length : Int))) 0 (by simpa using hjl) ?_
    have hjl' : j = l.length := by omega
    subst hjl'
    have hlk' := hlk
    have hcl' := hcl
    rw [List.take_length] at hlk' hcl'
    have hsl : (saysL l).length ≤ 100000 := by have : (saysL l).length ≤ l.length := List.length_filter_le _ _; omega
    have hrow : ∀ u, aftK w (c.withA n) (x.withA a) O k (⟨l.length, v1, cl, lk, A1, m1, B1, p1, l.length, hj, rfl, hlk, hcl⟩ : Aft c.l (IntKind.i64.wrap (1 - 0)) l) u → Rw w v1 (saysL l) u := fun u hu => by have := hu.1; dsimp only at this; rwa [List.take_length] at this
    have cs : ∀ x : Bool, (!x) = true ∧ x = false ∨ (!x) = false ∧ x = true := by decide
    have hs1 : sendsL c.l 1 l = lk := hlk'.symm
    have hs2 : closesL l = cl := hcl'.symm
    by_cases hup : n.up = true
    · refine t_N (b := !n.up) 0 (by simp [hup]) ?_
      rcases cs lk.u with ⟨h, g⟩ | ⟨h, g⟩
      · rw [show c.after 0 n l = (⟨n, c.b, lk, c.wa, c.wb⟩, saysL l) from by simp [Clu.after, Clu.setN, Clu.setW, hs1, hs2, g, hup]]
        exact t_N (b := !(!lk.u)) 9 (by simp [g]) (e_C ⟨a, x.b, A1, m1, B1, p1⟩ v1 fun u hu => ⟨⟨hu.2.1.1, hu.2.1.2, hu.2.2.1⟩, hrow u hu⟩)
      · refine t_Y (b := !(!lk.u)) 2 (by simp [g]) ?_
        refine t_Y 2 hup ?_
        rcases cs cl with ⟨h2, g2⟩ | ⟨h2, g2⟩
        · rw [show c.after 0 n l = (⟨n, c.b, lk, c.wa, c.wb⟩, saysL l) from by simp [Clu.after, Clu.setN, Clu.setW, hs1, hs2, g, g2, hup]]
          exact t_Y 9 h2 (e_C ⟨a, x.b, A1, m1, B1, p1⟩ v1 fun u hu => ⟨⟨hu.2.1.1, hu.2.1.2, hu.2.2.1⟩, hrow u hu⟩)
        · rw [show c.after 0 n l = (⟨n, c.b, lk, false, false⟩ : Clu).ends (saysL l) from by simp [Clu.after, Clu.setN, Clu.setW, hs1, hs2, g, g2, hup]]
          refine t_N 0 h2 ?_
          exact t_Y 9 g2 (t_E (⟨n, c.b, lk, false, false⟩ : Clu) ⟨a, x.b, A1, m1, B1, p1⟩ v1 (saysL l) (fun u hu => ⟨⟨hu.2.1.1, hu.2.1.2, hu.2.2.1⟩, hrow u hu⟩) hsl hA hZ fun x' v' => e_C x' v' fun u hu => hu)
    · refine t_Y (b := !n.up) 0 (by simp [hup]) (t_ix 0 ?_)
      rcases cs lk.u with ⟨h, g⟩ | ⟨h, g⟩
      · rw [show c.after 0 n l = (⟨n, c.b, lk, false, c.wb⟩, saysL l) from by simp [Clu.after, Clu.setN, Clu.setW, hs1, hs2, g, hup]]
        exact t_N (b := !(!lk.u)) 9 (by simp [g]) (e_C ⟨a, x.b, A1, m1, B1, p1⟩ v1 fun u hu => ⟨⟨hu.2.1.1, hu.2.1.2, hu.2.2.1⟩, hrow u hu⟩)
      · refine t_Y (b := !(!lk.u)) 2 (by simp [g]) ?_
        refine t_N 3 (bfalse hup) ?_
        rcases cs cl with ⟨h2, g2⟩ | ⟨h2, g2⟩
        · rw [show c.after 0 n l = (⟨n, c.b, lk, false, c.wb⟩ : Clu).ends (saysL l) from by simp [Clu.after, Clu.setN, Clu.setW, hs1, hs2, g, g2, hup]]
          exact t_N 9 g2 (t_E (⟨n, c.b, lk, false, c.wb⟩ : Clu) ⟨a, x.b, A1, m1, B1, p1⟩ v1 (saysL l) (fun u hu => ⟨⟨hu.2.1.1, hu.2.1.2, hu.2.2.1⟩, hrow u hu⟩) hsl hA hZ fun x' v' => e_C x' v' fun u hu => hu)
        · rw [show c.after 0 n l = (⟨n, c.b, lk, false, false⟩ : Clu).ends (saysL l) from by simp [Clu.after, Clu.setN, Clu.setW, hs1, hs2, g, g2, hup]]
          exact t_Y 9 g2 (t_E (⟨n, c.b, lk, false, false⟩ : Clu) ⟨a, x.b, A1, m1, B1, p1⟩ v1 (saysL l) (fun u hu => ⟨⟨hu.2.1.1, hu.2.1.2, hu.2.2.1⟩, hrow u hu⟩) hsl hA hZ fun x' v' => e_C x' v' fun u hu => hu)
theorem xafter1 (c : Clu) (x : CAd) (n : Nod) (a : Adr) (l : List Ou) (O : Option Addr) (k : Nat) (hc : CM w c x) (hn : NM w n a) (ho : OM w O k l) (hl : l.length ≤ 1000) (h1 : c.l.a.length ≤ 10000) (h2 : c.l.b.length ≤ 10000) (hA : Loses c.a) (hZ : Loses n) :
    Calls Tryz.prog 100 #[cluV c x, .int .i64 1, nodV n a, .slice O l.length k] w (GivesC (c.after 1 n l) w) := by
  refine run ((st_cm c x).and ((st_nm n a).and (st_om O k l))) ⟨hc, hn, ho⟩ (t_ix 1 ?_)
  refine t_loop rfl (⟨0, .slice none 0 0, false, c.l, x.A, x.n, x.B, x.m, 0, Nat.zero_le _, rfl, rfl, rfl⟩ : Aft c.l (IntKind.i64.wrap (1 - 1)) l) (aftL 1 O k) (aftB (c.withB n) (x.withB a) n a) 100 (aftK w (c.withB n) (x.withB a) O k) (fun y => l.length - y.j) (aft_stab _ _ _ _) (fun u hu _ => ⟨rw_nil w u, ⟨hu.1.a, hu.2.1⟩, hu.1.l, hu.2.2⟩) ?_
  rintro ⟨k1, v1, cl, lk, A1, m1, B1, p1, j, hj, rfl, hlk, hcl⟩ f
  by_cases hjl : j < l.length
  · obtain ⟨ad, rfl⟩ : ∃ ad, O = some ad := by
      obtain ⟨a0, e, _⟩ := ho.o j l[j] (List.getElem?_eq_getElem hjl)
      exact ⟨a0, e⟩
    refine t_Y (b := decide ((j : Int) < (l.length : Int))) 0 (by simpa using hjl) (t_ck (p := 0 ≤ (j : Int) ∧ (j : Int) < (l.length : Nat)) ⟨by omega, by omega⟩ ?_)
    obtain ⟨o, ho1⟩ : ∃ o, l[j]? = some o := ⟨l[j], List.getElem?_eq_getElem hjl⟩
    have hO : ∀ u, OM u (some ad) k l → ad.block < u.heap.size ∧ u.cell? (ad.add (j * 5)) = some (.int .i64 o.k) ∧ u.cell? ⟨(ad.add (j * 5)).block, (ad.add (j * 5)).off + 1, none⟩ = some (.int .i64 o.n) ∧ u.cell? ⟨(ad.add (j * 5)).block, (ad.add (j * 5)).off + 2, none⟩ = some (.int .i64 o.id) ∧ u.cell? ⟨(ad.add (j * 5)).block, (ad.add (j * 5)).off + 3, none⟩ = some (.int .i64 o.e) ∧ u.cell? ⟨(ad.add (j * 5)).block, (ad.add (j * 5)).off + 4, none⟩ = some (.string o.d) := fun u hu => by
      obtain ⟨a0, e, h⟩ := hu.o j o ho1
      injection e with e
      subst e
      exact h
    have ht : l.take (j + 1) = l.take j ++ [o] := by rw [List.take_add_one, ho1]; rfl
    have hw1 : IntKind.i64.wrap ((j : Int) + 1) = ((j + 1 : Nat) : Int) := by rw [wrap_i64 (by omega) (by omega)]; push_cast; rfl
    have hμ : l.length - (j + 1) < l.length - j := by omega
    have hll : LLen (10000 + (l.take j).length) lk := by rw [hlk]; exact llen_sends (l.take j) ⟨h1, h2⟩ _
    have htl : (l.take j).length ≤ l.length := by simp; omega
    have hla : lk.a.length ≤ 100000 := by have := hll.1; omega
    have hlb : lk.b.length ≤ 100000 := by have := hll.2; omega
    have hlt : ad.block < w.heap.size := (hO w ho).1
    have hlen : (saysL (l.take j)).length + [o].length ≤ 1000000 := by
      have h1 : (saysL (l.take j)).length ≤ (l.take j).length := List.length_filter_le _ _
      have h2 : (l.take j).length ≤ l.length := by simp; omega
      simp only [List.length_cons, List.length_nil]
      omega
    have hrd : ∀ u, OM u (some ad) k l → Reads Tryz.prog u 59 (ad.add (j * 5)) (ouV o) := fun u hu => by
      obtain ⟨_, q0, q1, q2, q3, q4⟩ := hO u hu
      refine readsC (ouC o) (fun i v hi => ?_) Tryz.underlying59 rfl (by kernel_rfl)
      match i, hi with
      | 0, hi => injection hi with hi; subst hi; simpa [Addr.add] using q0
      | 1, hi => injection hi with hi; subst hi; simpa [Addr.add] using q1
      | 2, hi => injection hi with hi; subst hi; simpa [Addr.add] using q2
      | 3, hi => injection hi with hi; subst hi; simpa [Addr.add] using q3
      | 4, hi => injection hi with hi; subst hi; simpa [Addr.add] using q4
    have ck : 0 ≤ (j : Int) ∧ (j : Int) < (l.length : Nat) := ⟨by omega, by omega⟩
    refine t_load (ty := 3) (p := ad.add (j * 5)) (v := .int .i64 o.k) (fun u hu _ => reads1 (by kernel_rfl) (hO u hu.2.2.2).2.1) ?_
    by_cases hk1 : o.k = 1
    · refine t_Y 0 (ieq hk1) ?_
      by_cases hu : lk.u = true
      · refine t_Y 0 hu ?_
        refine t_ck ck ?_
        refine t_load (ty := 9) (p := ⟨(ad.add (j * 5)).block, (ad.add (j * 5)).off + 4, none⟩) (v := .string o.d) (fun u hu _ => reads1 (by kernel_rfl) (hO u hu.2.2.2).2.2.2.2.2) ?_
        refine t_fresh 9 [.string o.d] fun r hr => ?_
        have hP : ∀ u, BoxO u r 9 [.string o.d] → Es Value.string u u.heap.size (some ⟨r, 0, none⟩) [o.d] := fun u hu j x hj => by
          cases j with
          | zero =>
            injection hj with hj
            subst hj
            exact ⟨_, rfl, hu.lt, hu.cell 0⟩
          | succ j => cases hj
        refine st_k (fun u hu' => rksend_any lk A1 B1 m1 p1 (IntKind.i64.wrap (1 - 1)) (some ⟨r, 0, none⟩) 1 [o.d] u hu'.1.2.2.1 (hP u hu'.2) (by simp) hla hlb (by simp)) fun A2 n2 B2 m2 => ?_
        refine aft_end (c.withB n) (x.withB a) n a 1 (some ad) k (⟨j, v1, cl, lk, A1, m1, B1, p1, j, hj, rfl, hlk, hcl⟩ : Aft c.l (IntKind.i64.wrap (1 - 1)) l) (⟨IntKind.i64.wrap ((j : Int) + 1), v1, cl, lk.send (IntKind.i64.wrap (1 - 1)) [o.d], A2, n2, B2, m2, j + 1, hjl, hw1, by rw [ht, sends_snoc, if_pos hk1, ← hlk, if_pos hu], by rw [ht, closes_snoc, ← hcl, hk1]; simp⟩ : Aft c.l (IntKind.i64.wrap (1 - 1)) l) hμ fun u hu' => ⟨by show Rw w v1 (saysL (l.take (j + 1))) u; rw [ht, says_snoc, if_pos hk1]; exact hu'.1.1.1, hu'.1.1.2.1, hu'.2, hu'.1.1.2.2.2⟩
      · exact t_N 0 (bfalse hu) (aft_end (c.withB n) (x.withB a) n a 1 (some ad) k (⟨j, v1, cl, lk, A1, m1, B1, p1, j, hj, rfl, hlk, hcl⟩ : Aft c.l (IntKind.i64.wrap (1 - 1)) l) (⟨IntKind.i64.wrap ((j : Int) + 1), v1, cl, lk, A1, m1, B1, p1, j + 1, hjl, hw1, by rw [ht, sends_snoc, if_pos hk1, ← hlk, if_neg hu], by rw [ht, closes_snoc, ← hcl, hk1]; simp⟩ : Aft c.l (IntKind.i64.wrap (1 - 1)) l) hμ fun u hu' => ⟨by show Rw w v1 (saysL (l.take (j + 1))) u; rw [ht, says_snoc, if_pos hk1]; exact hu'.1, hu'.2⟩)
    · refine t_N 0 (ine hk1) ?_
      have cs : ∀ x : Bool, (!x) = true ∧ x = false ∨ (!x) = false ∧ x = true := by decide
      rcases cs cl with ⟨h, g⟩ | ⟨h, g⟩
      · refine t_Y 2 h (t_ck ck (t_lit 2 (t_load (ty := 3) (p := ad.add (j * 5)) (v := .int .i64 o.k) (fun u hu _ => reads1 (by kernel_rfl) (hO u hu.2.2.2).2.1) (t_lit 1 (t_ck ck ?_)))))
        refine t_load (ty := 59) (p := ad.add (j * 5)) (v := ouV o) (fun u hu _ => hrd u hu.2.2.2) (t_o o fun r hr => ?_)
        exact t_ao (l0 := saysL (l.take j)) (A := some ⟨r, 0, none⟩) (k := 1) (l := [o]) (fun u => (NM u c.a x.a ∧ NM u n a) ∧ Lk u lk A1 m1 B1 p1 ∧ OM u (some ad) k l) (((st_nm _ _).and (st_nm _ _)).and ((st_lk _ _ _ _ _).and (st_om _ _ _))) (fun u hu => ⟨hu.1.1, om_box hu.2⟩) (fun u u' hu hr hg => ⟨⟨hr.nm hg hu.1.2.1.1, hr.nm hg hu.1.2.1.2⟩, hr.lk hg hu.1.2.2.1, om_grown hu.1.2.2.2 hlt hr hg⟩) hlen fun v' =>
          aft_end (c.withB n) (x.withB a) n a 1 (some ad) k (⟨j, v1, cl, lk, A1, m1, B1, p1, j, hj, rfl, hlk, hcl⟩ : Aft c.l (IntKind.i64.wrap (1 - 1)) l) (⟨IntKind.i64.wrap ((j : Int) + 1), v', (o.k == 3), lk, A1, m1, B1, p1, j + 1, hjl, hw1, by rw [ht, sends_snoc, if_neg hk1, ← hlk], by rw [ht, closes_snoc, ← hcl, g]; rfl⟩ : Aft c.l (IntKind.i64.wrap (1 - 1)) l) hμ fun u hu' => ⟨by show Rw w v' (saysL (l.take (j + 1))) u; rw [ht, says_snoc, if_neg hk1]; exact hu'.2, hu'.1⟩
      · refine t_N 5 h (t_ck ck ?_)
        refine t_load (ty := 59) (p := ad.add (j * 5)) (v := ouV o) (fun u hu _ => hrd u hu.2.2.2) (t_o o fun r hr => ?_)
        exact t_ao (l0 := saysL (l.take j)) (A := some ⟨r, 0, none⟩) (k := 1) (l := [o]) (fun u => (NM u c.a x.a ∧ NM u n a) ∧ Lk u lk A1 m1 B1 p1 ∧ OM u (some ad) k l) (((st_nm _ _).and (st_nm _ _)).and ((st_lk _ _ _ _ _).and (st_om _ _ _))) (fun u hu => ⟨hu.1.1, om_box hu.2⟩) (fun u u' hu hr hg => ⟨⟨hr.nm hg hu.1.2.1.1, hr.nm hg hu.1.2.1.2⟩, hr.lk hg hu.1.2.2.1, om_grown hu.1.2.2.2 hlt hr hg⟩) hlen fun v' =>
          aft_end (c.withB n) (x.withB a) n a 1 (some ad) k (⟨j, v1, cl, lk, A1, m1, B1, p1, j, hj, rfl, hlk, hcl⟩ : Aft c.l (IntKind.i64.wrap (1 - 1)) l) (⟨IntKind.i64.wrap ((j : Int) + 1), v', true, lk, A1, m1, B1, p1, j + 1, hjl, hw1, by rw [ht, sends_snoc, if_neg hk1, ← hlk], by rw [ht, closes_snoc, ← hcl, g]; simp⟩ : Aft c.l (IntKind.i64.wrap (1 - 1)) l) hμ fun u hu' => ⟨by show Rw w v' (saysL (l.take (j + 1))) u; rw [ht, says_snoc, if_neg hk1]; exact hu'.2, hu'.1⟩
  · refine t_N (b := decide ((j : Int) < (l.length : Int))) 0 (by simpa using hjl) ?_
    have hjl' : j = l.length := by omega
    subst hjl'
    have hlk' := hlk
    have hcl' := hcl
    rw [List.take_length] at hlk' hcl'
    have hsl : (saysL l).length ≤ 100000 := by have : (saysL l).length ≤ l.length := List.length_filter_le _ _; omega
    have hrow : ∀ u, aftK w (c.withB n) (x.withB a) O k (⟨l.length, v1, cl, lk, A1, m1, B1, p1, l.length, hj, rfl, hlk, hcl⟩ : Aft c.l (IntKind.i64.wrap (1 - 1)) l) u → Rw w v1 (saysL l) u := fun u hu => by have := hu.1; dsimp only at this; rwa [List.take_length] at this
    have cs : ∀ x : Bool, (!x) = true ∧ x = false ∨ (!x) = false ∧ x = true := by decide
    have hs1 : sendsL c.l 0 l = lk := hlk'.symm
    have hs2 : closesL l = cl := hcl'.symm
    by_cases hup : n.up = true
    · refine t_N (b := !n.up) 0 (by simp [hup]) ?_
      rcases cs lk.u with ⟨h, g⟩ | ⟨h, g⟩
      · rw [show c.after 1 n l = (⟨c.a, n, lk, c.wa, c.wb⟩, saysL l) from by simp [Clu.after, Clu.setN, Clu.setW, hs1, hs2, g, hup]]
        exact t_N (b := !(!lk.u)) 9 (by simp [g]) (e_C ⟨x.a, a, A1, m1, B1, p1⟩ v1 fun u hu => ⟨⟨hu.2.1.1, hu.2.1.2, hu.2.2.1⟩, hrow u hu⟩)
      · refine t_Y (b := !(!lk.u)) 2 (by simp [g]) ?_
        refine t_Y 2 hup ?_
        rcases cs cl with ⟨h2, g2⟩ | ⟨h2, g2⟩
        · rw [show c.after 1 n l = (⟨c.a, n, lk, c.wa, c.wb⟩, saysL l) from by simp [Clu.after, Clu.setN, Clu.setW, hs1, hs2, g, g2, hup]]
          exact t_Y 9 h2 (e_C ⟨x.a, a, A1, m1, B1, p1⟩ v1 fun u hu => ⟨⟨hu.2.1.1, hu.2.1.2, hu.2.2.1⟩, hrow u hu⟩)
        · rw [show c.after 1 n l = (⟨c.a, n, lk, false, false⟩ : Clu).ends (saysL l) from by simp [Clu.after, Clu.setN, Clu.setW, hs1, hs2, g, g2, hup]]
          refine t_N 0 h2 ?_
          exact t_Y 9 g2 (t_E (⟨c.a, n, lk, false, false⟩ : Clu) ⟨x.a, a, A1, m1, B1, p1⟩ v1 (saysL l) (fun u hu => ⟨⟨hu.2.1.1, hu.2.1.2, hu.2.2.1⟩, hrow u hu⟩) hsl hA hZ fun x' v' => e_C x' v' fun u hu => hu)
    · refine t_Y (b := !n.up) 0 (by simp [hup]) (t_ix 1 ?_)
      rcases cs lk.u with ⟨h, g⟩ | ⟨h, g⟩
      · rw [show c.after 1 n l = (⟨c.a, n, lk, c.wa, false⟩, saysL l) from by simp [Clu.after, Clu.setN, Clu.setW, hs1, hs2, g, hup]]
        exact t_N (b := !(!lk.u)) 9 (by simp [g]) (e_C ⟨x.a, a, A1, m1, B1, p1⟩ v1 fun u hu => ⟨⟨hu.2.1.1, hu.2.1.2, hu.2.2.1⟩, hrow u hu⟩)
      · refine t_Y (b := !(!lk.u)) 2 (by simp [g]) ?_
        refine t_N 3 (bfalse hup) ?_
        rcases cs cl with ⟨h2, g2⟩ | ⟨h2, g2⟩
        · rw [show c.after 1 n l = (⟨c.a, n, lk, c.wa, false⟩ : Clu).ends (saysL l) from by simp [Clu.after, Clu.setN, Clu.setW, hs1, hs2, g, g2, hup]]
          exact t_N 9 g2 (t_E (⟨c.a, n, lk, c.wa, false⟩ : Clu) ⟨x.a, a, A1, m1, B1, p1⟩ v1 (saysL l) (fun u hu => ⟨⟨hu.2.1.1, hu.2.1.2, hu.2.2.1⟩, hrow u hu⟩) hsl hA hZ fun x' v' => e_C x' v' fun u hu => hu)
        · rw [show c.after 1 n l = (⟨c.a, n, lk, false, false⟩ : Clu).ends (saysL l) from by simp [Clu.after, Clu.setN, Clu.setW, hs1, hs2, g, g2, hup]]
          exact t_Y 9 g2 (t_E (⟨c.a, n, lk, false, false⟩ : Clu) ⟨x.a, a, A1, m1, B1, p1⟩ v1 (saysL l) (fun u hu => ⟨⟨hu.2.1.1, hu.2.1.2, hu.2.2.1⟩, hrow u hu⟩) hsl hA hZ fun x' v' => e_C x' v' fun u hu => hu)
end
end Go.Proofs.YtkjikigimmchlaaGreatDoor
