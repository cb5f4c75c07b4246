/- A node at work: a block of the call's own that holds a node and its outputs, lent to calls that change both; what those calls leave. No condition. -/
import Derived.Test.YtabenngcmpjlhaaGreatDoorPS
import Derived.Test.YtabenngcmpjlhaaGreatDoorNF
import Derived.Test.YtabenngcmpjlhaaGreatDoorNP
import Derived.Test.YtabenngcmpjlhaaGreatDoorRY
import Derived.Test.YtabenngcmpjlhaaGreatDoorNI
import Derived.Test.YtabenngcmpjlhaaGreatDoorNZ
namespace Go.Proofs.YtabenngcmpjlhaaGreatDoor
open Go.RowKit PX
section
variable {ap : TypeId → Bool} {w w' : World} {A : Option Addr} {T : TypeId}
theorem Ms.ext {l : List Mnt} (h : Ms w w.heap.size A l) (ht : Ty w A T) (e : Ext ap w w') (hT : ap T = false) : Ms w' w'.heap.size A l := by
  intro j x hj
  obtain ⟨a, ha, hlt, hc, hd, he⟩ := h j x hj
  have hs := ht.sameB e hT a ha
  exact ⟨a, ha, Nat.lt_of_lt_of_le hlt e.size, (cell_of (add_block ..) hs).trans hc, (cell_of (by show (a.add (j * 3)).block = _; exact add_block ..) hs).trans hd, (cell_of (by show (a.add (j * 3)).block = _; exact add_block ..) hs).trans he⟩
theorem NM.ext {n : Nod} {a : Adr} (h : NM w n a) (e : Ext tyL w w') : NM w' n a :=
  ⟨h.t.ext e, h.d.ext h.dt e rfl, h.dn, h.dt.ext e rfl, h.mi.ext h.mt e rfl, h.mn, h.mt.ext e rfl⟩
theorem OM.ext {k : Nat} {l : List Ou} (h : OM w A k l) (e : Ext tyL w w') : OM w' A k l :=
  ⟨h.o.same e.size fun a ha _ _ hp => cell_of hp (h.t.sameB e rfl a ha), h.n, h.t.ext e rfl⟩
end
theorem st_nm (n : Nod) (a : Adr) : Stab tyL fun u => NM u n a := fun _ _ e h => h.ext e
theorem st_om (A : Option Addr) (k : Nat) (l : List Ou) : Stab tyL fun u => OM u A k l := fun _ _ e h => h.ext e
theorem om_box {u : World} {r : Nat} {x : Ou} (h : BoxO u r 91 (ouC x)) : OM u (some ⟨r, 0, none⟩) 1 [x] := by
  have hc := fun j => BoxO.cell h j
  refine ⟨fun j y hj => ?_, (fun q => by cases q), fun a ha => ?_⟩
  · match j, hj with
    | 0, hj =>
      simp only [List.getElem?_cons_zero, Option.some.injEq] at hj
      subst hj
      exact ⟨_, rfl, h.lt, hc 0, hc 1, hc 2, hc 3, hc 4⟩
  · injection ha with ha
    subst ha
    exact ⟨_, _, h⟩
set_option maxRecDepth 100000
section
variable {w : World} {F : Value → S → World → Prop} {R' : Ending → World → Prop} {K : World → Prop} {t : Tree} {f : FuncId} {args : Array Value}
theorem t_n {bo rows : List Nat} {r : Nod × List Ou} (hc : ∀ u, K u → Calls Tryz.prog f args u (GivesN r u)) (h : ∀ a O k, OK ⟨Tryz.prog, tyL, w, bo, rows⟩ F (t.nv (.tuple #[nodV r.1 a, .slice O r.2.length k])) fun u => K u ∧ (NM u r.1 a ∧ OM u O k r.2 ∧ Fr w O)) (hd : t.hd = .call (.fn f) args.toList := by kernel_rfl) : OK ⟨Tryz.prog, tyL, w, bo, rows⟩ F t K :=
  t_call (fun u hu _ => hc u hu) (fun u e u' hu hb hr => by
    obtain ⟨a, O, k, he, h1, h2, h3, h4⟩ := hr
    exact ⟨_, _, he, h3, (st_nm _ _).and ((st_om _ _ _).and (st_p _)), ⟨h1, h2, fr_up (base_size hb) h4⟩, h a O k⟩) hd
theorem t_y {bo rows : List Nat} {r : Nod × Bool} (hc : ∀ u, K u → Calls Tryz.prog f args u (GivesY r u)) (h : ∀ a, OK ⟨Tryz.prog, tyL, w, bo, rows⟩ F (t.nv (.tuple #[nodV r.1 a, .bool r.2])) fun u => K u ∧ NM u r.1 a) (hd : t.hd = .call (.fn f) args.toList := by kernel_rfl) : OK ⟨Tryz.prog, tyL, w, bo, rows⟩ F t K :=
  t_call (fun u hu _ => hc u hu) (fun u e u' hu hb hr => by
    obtain ⟨a, he, h1, h3⟩ := hr
    exact ⟨_, _, he, h3, st_nm _ _, h1, h a⟩) hd
theorem t_e {bo rows : List Nat} {r : Nod × Int} (hc : ∀ u, K u → Calls Tryz.prog f args u (GivesE r u)) (h : ∀ a, OK ⟨Tryz.prog, tyL, w, bo, rows⟩ F (t.nv (.tuple #[nodV r.1 a, .int .i64 r.2])) fun u => K u ∧ NM u r.1 a) (hd : t.hd = .call (.fn f) args.toList := by kernel_rfl) : OK ⟨Tryz.prog, tyL, w, bo, rows⟩ F t K :=
  t_call (fun u hu _ => hc u hu) (fun u e u' hu hb hr => by
    obtain ⟨a, he, h1, h3⟩ := hr
    exact ⟨_, _, he, h3, st_nm _ _, h1, h a⟩) hd
theorem t_a {bo rows : List Nat} {r : Nod} (hc : ∀ u, K u → Calls Tryz.prog f args u (GivesA r u)) (h : ∀ a, OK ⟨Tryz.prog, tyL, w, bo, rows⟩ F (t.nv (nodV r a)) fun u => K u ∧ NM u r a) (hd : t.hd = .call (.fn f) args.toList := by kernel_rfl) : OK ⟨Tryz.prog, tyL, w, bo, rows⟩ F t K :=
  t_call (fun u hu _ => hc u hu) (fun u e u' hu hb hr => by
    obtain ⟨a, he, h1, h3⟩ := hr
    exact ⟨_, _, he, h3, st_nm _ _, h1, h a⟩) hd
theorem t_o {bo rows : List Nat} (x : Ou) (h : ∀ r, w.heap.size ≤ r → OK ⟨Tryz.prog, tyL, w, bo, rows⟩ F (t.nr r) fun u => K u ∧ BoxO u r 91 (ouC x)) (hd : t.hd = .fresh 91 (ouC x) := by kernel_rfl) : OK ⟨Tryz.prog, tyL, w, bo, rows⟩ F t K := t_fresh _ _ h rfl hd
theorem e_n {r : Nod × List Ou} (a : Adr) (O : Option Addr) (k : Nat) (h : ∀ u, K u → NM u r.1 a ∧ OM u O k r.2 ∧ Fr w O) (hd : t.hd = .ret (.tuple #[nodV r.1 a, .slice O r.2.length k]) := by kernel_rfl) : OK ⟨Tryz.prog, tyL, w, [], []⟩ (fun v _ u => GivesN r w (.returned v) u) t K :=
  t_ret _ (fun u hu hb _ => by
    obtain ⟨h1, h2, h3⟩ := h u hu
    exact ⟨a, O, k, rfl, h1, h2, base_below hb, h3⟩) hd
theorem e_t {r : Nod × List Ou} (hc : ∀ u, K u → Calls Tryz.prog f args u (GivesN r u)) (hd : t.hd = .call (.fn f) args.toList := by kernel_rfl) (hd2 : ∀ a O k, (t.nv (.tuple #[nodV r.1 a, .slice O r.2.length k])).hd = .ret (.tuple #[nodV r.1 a, .slice O r.2.length k]) := by intro a O k; kernel_rfl) : OK ⟨Tryz.prog, tyL, w, [], []⟩ (fun v _ u => GivesN r w (.returned v) u) t K :=
  t_n hc (fun a O k => e_n a O k (fun _ h => h.2) (hd2 a O k)) hd
theorem e_n0 {m : Nod} (a : Adr) (h : ∀ u, K u → NM u m a) (hd : t.hd = .ret (.tuple #[nodV m a, .slice none 0 0]) := by kernel_rfl) : OK ⟨Tryz.prog, tyL, w, [], []⟩ (fun v _ u => GivesN (m, []) w (.returned v) u) t K :=
  e_n a none 0 (fun u hu => ⟨h u hu, om_nil u, fr_nil w⟩) hd
theorem e_n1 {m : Nod} {x : Ou} (a : Adr) (h : ∀ u, K u → NM u m a) (hf : t.hd = .fresh 91 (ouC x) := by kernel_rfl) (hd : ∀ r, (t.nr r).hd = .ret (.tuple #[nodV m a, .slice (some ⟨r, 0, none⟩) 1 1]) := by intro r; kernel_rfl) : OK ⟨Tryz.prog, tyL, w, [], []⟩ (fun v _ u => GivesN (m, [x]) w (.returned v) u) t K :=
  t_o x (fun r hr => e_n (r := (m, [x])) a (some ⟨r, 0, none⟩) 1 (fun u hu => ⟨h u hu.1, om_box hu.2, fr_new hr⟩) (hd r)) hf
theorem e_y {m : Nod} {b : Bool} (a : Adr) (h : ∀ u, K u → NM u m a) (hd : t.hd = .ret (.tuple #[nodV m a, .bool b]) := by kernel_rfl) : OK ⟨Tryz.prog, tyL, w, [], []⟩ (fun v _ u => GivesY (m, b) w (.returned v) u) t K :=
  t_ret _ (fun u hu hb _ => ⟨a, rfl, h u hu, base_below hb⟩) hd
theorem e_e {m : Nod} {b : Int} (a : Adr) (h : ∀ u, K u → NM u m a) (hd : t.hd = .ret (.tuple #[nodV m a, .int .i64 b]) := by kernel_rfl) : OK ⟨Tryz.prog, tyL, w, [], []⟩ (fun v _ u => GivesE (m, b) w (.returned v) u) t K :=
  t_ret _ (fun u hu hb _ => ⟨a, rfl, h u hu, base_below hb⟩) hd
theorem e_a {r : Nod} (a : Adr) (h : ∀ u, K u → NM u r a) (hd : t.hd = .ret (nodV r a) := by kernel_rfl) : OK ⟨Tryz.prog, tyL, w, [], []⟩ (fun v _ u => GivesA r w (.returned v) u) t K :=
  t_ret _ (fun u hu hb _ => ⟨a, rfl, h u hu, base_below hb⟩) hd
end
theorem Rw.ext {w0 w w' : World} {v : Value} {l : List Ou} (h : Rw w0 v l w) (e : Ext tyL w w') : Rw w0 v l w' := by
  refine h.kept fun g hg hlt => ?_
  obtain ⟨_, h2⟩ := h.own
  rcases h2 with ⟨rfl, _⟩ | ⟨g', cap, cur, rfl, hb, hc, _⟩
  · cases hg
  · injection hg with hg
    subst hg
    rcases e.blk _ hlt with q | ⟨T', c1, c2, h1, h3, _⟩
    · exact q
    · unfold BoxO at h3
      rw [hc] at h3
      injection h3 with h3
      injection h3 with _ h3
      subst h3
      cases h1
theorem st_rw (w0 : World) (v : Value) (l : List Ou) : Stab tyL fun u => Rw w0 v l u := fun _ _ e h => h.ext e
theorem rw_box {w0 u : World} {r : Nat} {x : Ou} (hr : w0.heap.size ≤ r) (h : BoxO u r 91 (ouC x)) : Rw w0 (.slice (some ⟨r, 0, none⟩) 1 1) [x] u :=
  ⟨⟨cellsO_length [x], Or.inr ⟨r, 1, _, rfl, hr, h, Nat.le_refl _, by decide, rfl, rfl⟩⟩⟩
section
variable {w : World} {F : Value → S → World → Prop} {K : World → Prop} {t : Tree}
theorem t_aorF {bo rows : List Nat} {wB : World} {v : Value} {A : Option Addr} {k : Nat} {l0 l : List Ou} (hB : wB.heap.size ≤ w.heap.size) (hv : ∀ u, K u → ∀ g, v.ownBlock = some g → w.heap.size ≤ g ∨ g ∈ rows) (Kb : World → Prop) (hs : Stab tyL Kb) (hK : ∀ u, K u → Rw wB v l0 u ∧ OM u A k l) (hKb : ∀ u u', K u → Rw wB v l0 u → u.grownBy u' v.ownBlock → Kb u') (hl : l0.length + l.length ≤ 1000000)
    (h : ∀ v', (∃ A c, v' = .slice A (l0 ++ l).length c) → (v'.ownBlock = v.ownBlock ∨ ∀ g, v'.ownBlock = some g → w.heap.size ≤ g) → OK ⟨Tryz.prog, tyL, w, bo, rows⟩ F (t.nv v') fun u => Kb u ∧ Rw wB v' (l0 ++ l) u) (hd : t.hd = .app (.app #[49, 49] 49) [v, .slice A l.length k] := by kernel_rfl) : OK ⟨Tryz.prog, tyL, w, bo, rows⟩ F t K := by
  refine t_app _ _ (fun u hu hb => ?_) hd
  obtain ⟨hr, ho⟩ := hK u hu
  obtain ⟨i0, hi, hz0, hz1, hz2⟩ := info_parts infoOu
  have hsz : w.heap.size ≤ u.heap.size := base_size hb
  cases A with
  | none =>
    have hl0 : l = [] := by
      cases l with
      | nil => rfl
      | cons y t => obtain ⟨a', ha', _⟩ := ho.o 0 y rfl; cases ha'
    subst hl0
    have hn := ho.n rfl
    subst hn
    have hrun := run_append_owned_none (P := Tryz.prog) (w := u) wB.heap.size 49 49 91 i0 5 Tryz.underlying49 hi v _ _ hr.own
    refine ⟨v, u, _, hrun, ⟨rfl, rfl, rfl, Nat.le_refl _, fun _ _ => .inl rfl⟩, hs.and (st_rw _ _ _), ⟨hKb u u hu hr ⟨rfl, rfl, rfl, Nat.le_refl _, fun _ _ _ => rfl⟩, hr⟩, ?_⟩
    have := h v (by rw [List.append_nil]; obtain ⟨A, c, e, _⟩ := hr.om; exact ⟨A, c, e⟩) (.inl rfl)
    rw [List.append_nil] at this
    exact this
  | some ad =>
    obtain ⟨v', w', hrun, hown', hgrow, _, hat⟩ := run_append_own_at (P := Tryz.prog) u wB.heap.size 49 49 91 i0 (.agg #[.int .i64 0, .int .i64 0, .int .i64 0, .int .i64 0, .string ⟨#[]⟩]) 5 48 Tryz.underlying49 hi hz0 hz1 hz2 rfl (by decide) v _ _ hr.own ad l.length k (cellsO l) (cellsO_length l) (os_cells ho.o)
      (cellsO_one l) (by unfold maxLen; omega) (by omega) (by omega)
    rw [← cellsO_append, ← List.length_append] at hown'
    refine ⟨v', w', _, hrun, ⟨hgrow.os, hgrow.tape, hgrow.output, hgrow.size, fun q hq => ?_⟩, hs.and (st_rw _ _ _), ⟨hKb u w' hu hr hgrow, ⟨hown'⟩⟩, h v' (by obtain ⟨A, c, e, _⟩ := (Rw.mk hown').om; exact ⟨A, c, e⟩) (hat.imp id fun e g hg => by rw [e] at hg; injection hg with hg; omega)⟩
    by_cases e : some q = v.ownBlock
    · obtain ⟨_, h2⟩ := hr.own
      rcases h2 with ⟨rfl, _⟩ | ⟨g', cap, cur, rfl, hb', hc, _⟩
      · cases e
      · injection e with e
        subst e
        exact .inr ⟨hv u hu _ rfl, _, _, _, rfl, hc⟩
    · exact .inl (hgrow.block q hq e)
theorem t_aor {bo rows : List Nat} {wB : World} {v : Value} {A : Option Addr} {k : Nat} {l0 l : List Ou} (hB : wB.heap.size ≤ w.heap.size) (hv : ∀ u, K u → ∀ g, v.ownBlock = some g → w.heap.size ≤ g ∨ g ∈ rows) (Kb : World → Prop) (hs : Stab tyL Kb) (hK : ∀ u, K u → Rw wB v l0 u ∧ OM u A k l) (hKb : ∀ u u', K u → Rw wB v l0 u → u.grownBy u' v.ownBlock → Kb u') (hl : l0.length + l.length ≤ 1000000)
    (h : ∀ v', (v'.ownBlock = v.ownBlock ∨ ∀ g, v'.ownBlock = some g → w.heap.size ≤ g) → OK ⟨Tryz.prog, tyL, w, bo, rows⟩ F (t.nv v') fun u => Kb u ∧ Rw wB v' (l0 ++ l) u) (hd : t.hd = .app (.app #[49, 49] 49) [v, .slice A l.length k] := by kernel_rfl) : OK ⟨Tryz.prog, tyL, w, bo, rows⟩ F t K :=
  t_aorF hB hv Kb hs hK hKb hl (fun v' _ => h v') hd
theorem own_big {v : Value} {l : List Ou} {u : World} (h : Rw w v l u) : ∀ g, v.ownBlock = some g → w.heap.size ≤ g := fun g e => by
  obtain ⟨_, h2⟩ := h.own
  rcases h2 with ⟨rfl, _⟩ | ⟨g', cap, cur, rfl, hb', hc, _⟩
  · cases e
  · injection e with e
    subst e
    exact hb'
theorem t_ao {v : Value} {A : Option Addr} {k : Nat} {l0 l : List Ou} (Kb : World → Prop) (hs : Stab tyL Kb) (hK : ∀ u, K u → Rw w v l0 u ∧ OM u A k l) (hKb : ∀ u u', K u → Rw w v l0 u → u.grownBy u' v.ownBlock → Kb u') (hl : l0.length + l.length ≤ 1000000)
    (h : ∀ v', OK ⟨Tryz.prog, tyL, w, [], []⟩ F (t.nv v') fun u => Kb u ∧ Rw w v' (l0 ++ l) u) (hd : t.hd = .app (.app #[49, 49] 49) [v, .slice A l.length k] := by kernel_rfl) : OK ⟨Tryz.prog, tyL, w, [], []⟩ F t K :=
  t_aor (Nat.le_refl _) (fun u hu g e => .inl (own_big (hK u hu).1 g e)) Kb hs hK hKb hl (fun v' _ => h v') hd
theorem t_push {v : Value} {l0 : List Ou} (x : Ou) (m : Nod) (a : Adr) (hK : ∀ u, K u → NM u m a ∧ Rw w v l0 u) (h : ∀ r v', OK ⟨Tryz.prog, tyL, w, [], []⟩ F ((t.nr r).nv v') fun u => NM u m a ∧ Rw w v' (l0 ++ [x]) u) (hl : l0.length + 1 ≤ 1000000 := by simp) (hf : t.hd = .fresh 91 (ouC x) := by kernel_rfl)
    (hd : ∀ r, (t.nr r).hd = .app (.app #[49, 49] 49) [v, .slice (some ⟨r, 0, none⟩) 1 1] := by intro r; kernel_rfl) : OK ⟨Tryz.prog, tyL, w, [], []⟩ F t K :=
  t_o x (fun r _ => t_ao (A := some ⟨r, 0, none⟩) (k := 1) (l := [x]) (fun u => NM u m a) (st_nm _ _) (fun u hu => ⟨(hK u hu.1).2, om_box hu.2⟩) (fun u _ hu hr hg => hr.nm hg (hK u hu.1).1) hl (h r) (hd r)) hf
theorem e_nr {r : Nod × List Ou} (a : Adr) (v : Value) (h : ∀ u, K u → NM u r.1 a ∧ Rw w v r.2 u) (hd : t.hd = .ret (.tuple #[nodV r.1 a, v]) := by kernel_rfl) : OK ⟨Tryz.prog, tyL, w, [], []⟩ (fun v _ u => GivesN r w (.returned v) u) t K :=
  t_ret _ (fun u hu hb _ => by
    obtain ⟨h1, h2⟩ := h u hu
    obtain ⟨A, c, rfl, h3, h4⟩ := h2.om
    exact ⟨a, A, c, rfl, h1, h3, base_below hb, h4⟩) hd
end
theorem ownsRow.ext {u u' : World} {base size n : Nat} {e : TypeId} {v : Value} {xs : List Value} (h : u.ownsRow base e size v n xs) (x : Ext tyL u u') (he : tyL e = false) : u'.ownsRow base e size v n xs := by
  obtain ⟨h1, h2⟩ := h
  refine ⟨h1, ?_⟩
  rcases h2 with h2 | ⟨g, cap, cur, rfl, hb, hc, r⟩
  · exact .inl h2
  · refine .inr ⟨g, cap, cur, rfl, hb, ?_, r⟩
    rcases x.blk g (Array.getElem?_eq_some_iff.1 hc).1 with q | ⟨T', c1, c2, q1, q2, _⟩
    · exact q.trans hc
    · unfold BoxO at q2
      rw [hc] at q2
      injection q2 with q2
      injection q2 with _ q2
      subst q2
      rw [he] at q1
      cases q1
theorem ownsRow.other {u u' : World} {base size n : Nat} {e e' : TypeId} {v : Value} {xs : List Value} (h : u.ownsRow base e size v n xs) (hne : e ≠ e') (hq : ∀ q, q < u.heap.size → u'.heap[q]? = u.heap[q]? ∨ ∃ cs fz, u.heap[q]? = some (.cells cs e' fz)) : u'.ownsRow base e size v n xs := by
  obtain ⟨h1, h2⟩ := h
  refine ⟨h1, ?_⟩
  rcases h2 with h2 | ⟨g, cap, cur, rfl, hb, hc, r⟩
  · exact .inl h2
  · refine .inr ⟨g, cap, cur, rfl, hb, ?_, r⟩
    rcases hq g (Array.getElem?_eq_some_iff.1 hc).1 with q | ⟨cs, fz, q⟩
    · exact q.trans hc
    · rw [hc] at q
      injection q with q
      injection q with _ q
      exact absurd q hne
theorem t_az {w : World} {F : Value → S → World → Prop} {K : World → Prop} {t : Tree} (ts ty e : TypeId) (size bytes : Nat) (z : Value) (hu : Tryz.prog.underlying ts = some (.slice e)) (hi : (Tryz.prog.info? e).map (fun i => (i.zero, i.size, i.bytes)) = some (some z, size, bytes)) (hzs : z.cells.size = size) (hsz : 0 < size) (he : tyL e = false) (hb0 : bytes ≤ 1000)
    (r : Nat) (A : Option Addr) (k m : Nat) (news : List Value) (hr : ∀ u, K u → BoxO u r e []) (hr0 : w.heap.size ≤ r) (hn : news.length = m * size) (hA : A = none → k = 0 ∧ m = 0) (hc : ∀ u, K u → ∀ a, A = some a → ∀ j x, news[j]? = some x → u.cell? (a.add j) = some x) (h1 : ∀ x ∈ news, x.oneCell' = true) (hm : m ≤ 1000000)
    (h : ∀ A' c, OK ⟨Tryz.prog, tyL, w, [], []⟩ F (t.nv (.slice A' m c)) fun u => K u ∧ u.ownsRow w.heap.size e size (.slice A' m c) m news)
    (hd : t.hd = .call (.app #[ts, ts] ty) [.slice (some ⟨r, 0, none⟩) 0 0, .slice A m k] := by kernel_rfl) : OK ⟨Tryz.prog, tyL, w, [], []⟩ F t K := by
  refine t_appz _ _ (fun u hK hb => ?_) hd
  obtain ⟨i0, hi0, hz0, hz1, hz2⟩ := info_parts hi
  have hsz' : w.heap.size ≤ u.heap.size := (base_below hb).size
  have own0 : u.ownsRow w.heap.size e size (.slice (some ⟨r, 0, none⟩) 0 0) 0 [] := ⟨by simp, .inr ⟨r, 0, #[], rfl, hr0, hr u hK, Nat.le_refl _, by unfold maxLen; omega, by simp, by simp⟩⟩
  have fin : ∀ v' w', (Builtin.append_ #[ts, ts] ty #[.slice (some ⟨r, 0, none⟩) 0 0, .slice A m k]).run Tryz.prog u = .ok v' w' → Below u.heap.size u w' → w'.ownsRow w.heap.size e size v' m news → (∃ A' c, v' = .slice A' m c) →
      ∃ v w' K1, (Builtin.append_ #[ts, ts] ty #[.slice (some ⟨r, 0, none⟩) 0 0, .slice A m k]).run Tryz.prog u = .ok v w' ∧ Below u.heap.size u w' ∧ Stab tyL K1 ∧ K1 w' ∧ OK ⟨Tryz.prog, tyL, w, [], []⟩ F (t.nv v) fun x => K x ∧ K1 x := by
    rintro v' w' hrun hbl hown ⟨A', c, rfl⟩
    exact ⟨_, w', _, hrun, hbl, fun _ _ x q => ownsRow.ext q x he, hown, h A' c⟩
  cases A with
  | none =>
    obtain ⟨rfl, rfl⟩ := hA rfl
    have hnil : news = [] := List.length_eq_zero_iff.1 (by simpa using hn)
    subst hnil
    have hrun := run_append_owned_none (P := Tryz.prog) (w := u) w.heap.size ts ty e i0 size hu hi0 (.slice (some ⟨r, 0, none⟩) 0 0) _ _ own0
    exact fin _ u hrun (Below.refl _ _) own0 ⟨_, _, rfl⟩
  | some ad =>
    obtain ⟨v', w', hrun, hown, _, _, _⟩ := run_append_own_at (P := Tryz.prog) u w.heap.size ts ty e i0 z size bytes hu hi0 hz0 hz1 hz2 hzs hsz (.slice (some ⟨r, 0, none⟩) 0 0) 0 [] own0 ad m k news hn (hc u hK ad rfl) h1 (by unfold maxLen; omega)
      (by rw [Nat.zero_add]; exact Nat.le_trans (Nat.mul_le_mul hm hb0) (by decide)) hsz'
    rw [Nat.zero_add, List.nil_append] at hown
    by_cases h0 : m = 0
    · subst h0
      have hnil : news = [] := List.length_eq_zero_iff.1 (by simpa using hn)
      subst hnil
      have hr2 := run_append_room (P := Tryz.prog) u ts ty e i0 hu hi0 r 0 0 #[] (hr u hK) ad 0 k [] (by simp) (by simp) (by simp) (Nat.le_refl _) (by simp)
      rw [hr2] at hrun
      injection hrun with q1 q2
      subst q1; subst q2
      refine fin _ _ hr2 ⟨rfl, rfl, rfl, by simp, fun j hj => ?_⟩ hown ⟨_, _, rfl⟩
      by_cases ej : j = r
      · subst ej
        rw [setRow_heap u j #[] _ e _ (hr u hK), hr u hK]
        simp
      · exact setRow_other u r j _ ej
    · have hr2 := run_append_grow (P := Tryz.prog) u ts ty e i0 z hu hi0 hz0 ⟨r, 0, none⟩ 0 0 [] (by simp) (by simp) ad m k news (by rw [hz1]; exact hn) (hc u hK ad rfl) (by omega) (by omega) (growslice_fits (by omega) (by rw [hz2, Nat.zero_add]; exact Nat.le_trans (Nat.mul_le_mul hm hb0) (by decide)))
      rw [hr2] at hrun
      injection hrun with q1 q2
      subst q1; subst q2
      rw [Nat.zero_add] at hr2 hown
      exact fin _ _ hr2 ((Below.refl _ u).drew.alloc (Nat.le_refl _) _) hown ⟨_, _, rfl⟩
theorem t_ap {w : World} {F : Value → S → World → Prop} {K : World → Prop} {t : Tree} (ts ty e : TypeId) (size bytes : Nat) (z : Value) (hu : Tryz.prog.underlying ts = some (.slice e)) (hi : (Tryz.prog.info? e).map (fun i => (i.zero, i.size, i.bytes)) = some (some z, size, bytes)) (hzs : z.cells.size = size) (hsz : 0 < size) (he : tyL e = false) (hb0 : bytes ≤ 1000)
    (Kb : World → Prop) (hs : Stab tyL Kb) (A0 : Option Addr) (n0 k0 : Nat) (xs0 : List Value) (ad : Addr) (k m : Nat) (news : List Value) (hK : ∀ u, K u → u.ownsRow w.heap.size e size (.slice A0 n0 k0) n0 xs0 ∧ ∀ j x, news[j]? = some x → u.cell? (ad.add j) = some x) (L : Nat) (hL : L = n0 + m) (hn : news.length = m * size) (h1 : ∀ x ∈ news, x.oneCell' = true) (hm : n0 + m ≤ 1000000)
    (hKb : ∀ u u', K u → Below w.heap.size w u' → (∀ q, q < u.heap.size → u'.heap[q]? = u.heap[q]? ∨ ∃ cs fz, u.heap[q]? = some (.cells cs e fz)) → Kb u')
    (h : ∀ A' c, OK ⟨Tryz.prog, tyL, w, [], []⟩ F (t.nv (.slice A' L c)) fun u => Kb u ∧ u.ownsRow w.heap.size e size (.slice A' L c) L (xs0 ++ news))
    (hd : t.hd = .app (.app #[ts, ts] ty) [.slice A0 n0 k0, .slice (some ad) m k] := by kernel_rfl) : OK ⟨Tryz.prog, tyL, w, [], []⟩ F t K := by
  subst hL
  refine t_app _ _ (fun u hK' hb => ?_) hd
  obtain ⟨i0, hi0, hz0, hz1, hz2⟩ := info_parts hi
  have hsz' : w.heap.size ≤ u.heap.size := (base_below hb).size
  obtain ⟨own0, hc⟩ := hK u hK'
  obtain ⟨v', w', hrun, hown, hgrow, _, _⟩ := run_append_own_at (P := Tryz.prog) u w.heap.size ts ty e i0 z size bytes hu hi0 hz0 hz1 hz2 hzs hsz (.slice A0 n0 k0) n0 xs0 own0 ad m k news hn hc h1 (by unfold maxLen; omega)
    (Nat.le_trans (Nat.mul_le_mul hm hb0) (by decide)) hsz'
  have hgr : Grown ⟨Tryz.prog, tyL, w, [], []⟩ u w' := ⟨hgrow.os, hgrow.tape, hgrow.output, hgrow.size, fun q hq => by
    by_cases ej : some q = (Value.slice A0 n0 k0).ownBlock
    · obtain ⟨_, h2⟩ := own0
      rcases h2 with ⟨q1, _⟩ | ⟨g, cap, cur, q1, hbg, hcg, _⟩
      · rw [q1] at ej; cases ej
      · rw [q1] at ej
        injection ej with ej
        subst ej
        exact .inr ⟨.inl hbg, _, _, _, he, hcg⟩
    · exact .inl (hgrow.block q hq ej)⟩
  have hsl : ∃ A' c, v' = .slice A' (n0 + m) c := by
    obtain ⟨_, ⟨q1, q2⟩ | ⟨g, cap, cur, q1, _⟩⟩ := hown
    · exact ⟨none, 0, by rw [q1, q2]⟩
    · exact ⟨_, cap, q1⟩
  obtain ⟨A', c, rfl⟩ := hsl
  refine ⟨_, w', _, hrun, hgr, hs.and (fun _ _ x q => ownsRow.ext q x he), ⟨hKb u w' hK' (base_below (hgr.base hb)) (fun q hq => ?_), hown⟩, h A' c⟩
  rcases hgr.blk q hq with e1 | ⟨_, cs, T, fz, _, e2⟩
  · exact .inl e1
  · by_cases ej : some q = (Value.slice A0 n0 k0).ownBlock
    · obtain ⟨_, h2⟩ := own0
      rcases h2 with ⟨q1, _⟩ | ⟨g, cap, cur, q1, hbg, hcg, _⟩
      · rw [q1] at ej; cases ej
      · rw [q1] at ej
        injection ej with ej
        subst ej
        exact .inr ⟨_, _, hcg⟩
    · exact .inl (hgrow.block q hq ej)
theorem NM.like {w : World} {n n2 : Nod} {a : Adr} (h : NM w n a) (e1 : n2.t = n.t := by rfl) (e2 : n2.dr = n.dr := by rfl) (e3 : n2.mi = n.mi := by rfl) : NM w n2 a := by
  obtain ⟨h1, h2, h3, h4, h5, h6, h7⟩ := h
  exact ⟨by rw [e1]; exact h1, by rw [e2]; exact h2, by rw [e2]; exact h3, h4, by rw [e3]; exact h5, h6, h7⟩
end Go.Proofs.YtabenngcmpjlhaaGreatDoor
namespace Go.Proofs.YtabenngcmpjlhaaGreatDoor
open Go.RowKit PX
set_option maxRecDepth 100000
@[reducible] def wkC (n : Nod) (a : Adr) (v : Value) : List Value := nodC n a ++ [v]
@[reducible] def wkV (n : Nod) (a : Adr) (v : Value) : Value := .agg (wkC n a v).toArray
def From (w : World) (v0 v : Value) : Prop := ∀ g, v.ownBlock = some g → w.heap.size ≤ g ∨ v0.ownBlock = some g
theorem From.refl (w : World) (v : Value) : From w v v := fun _ h => .inr h
def WT (T : TypeId) : Prop := T ∈ [106, 125]
def GivesW (T : TypeId) (b : Nat) (wB : World) (v0 : Value) (r : Nod × List Ou) (x : Value) (w : World) (e : Ending) (w' : World) : Prop :=
  ∃ a v, e = .returned x ∧ BoxO w' b T (wkC r.1 a v) ∧ NM w' r.1 a ∧ Rw wB v r.2 w' ∧ But (b :: v0.ownBlock.toList) w.heap.size w w' ∧ From w v0 v
section
variable {T : TypeId} {b : Nat} {wB w : World} {v0 : Value} {n n' : Nod} {l l' : List Ou} {a : Adr} {x : Value} {f : FuncId} {args : List Value} {K : World → Prop} {t : Tree}
theorem runW {v : Value} (hT : tyL T = true) (hs : Stab tyL K) (hx : BoxO w b T (wkC n a v)) (hK : K w)
    (h : OK ⟨Tryz.prog, tyL, w, [b], v.ownBlock.toList⟩ (fun y s u => ∃ cs', s.hp 0 = some (T, cs') ∧ ∃ a' v', y = x ∧ cs' = wkC n' a' v' ∧ NM u n' a' ∧ Rw wB v' l' u ∧ From w v v') (treeR ⟨Tryz.prog, tyL, w, [b], v.ownBlock.toList⟩ 0 f T (wkC n a v) args) K) :
    Calls Tryz.prog f (.pointer (some ⟨b, 0, none⟩) :: args).toArray w (GivesW T b wB v (n', l') x w) :=
  runR_ok rfl hs hK hx hT (G := fun y cs' u => ∃ a' v', y = x ∧ cs' = wkC n' a' v' ∧ NM u n' a' ∧ Rw wB v' l' u ∧ From w v v') (fun y cs' u hb hx' ⟨a', v', h1, h2, h3, h4, h5⟩ => ⟨a', v', by rw [h1], by subst h2; exact hx', h3, h4, hb, h5⟩) h
theorem e_w {bo rows : List Nat} {v : Value} (a' : Adr) (v' : Value) (h : ∀ u, K u → NM u n' a' ∧ Rw wB v' l' u) (ho : From w v v') (hd : t.hd = .ret x := by kernel_rfl) (hs : t.st.hp 0 = some (T, wkC n' a' v') := by kernel_rfl) :
    OK ⟨Tryz.prog, tyL, w, bo, rows⟩ (fun y s u => ∃ cs', s.hp 0 = some (T, cs') ∧ ∃ a' v', y = x ∧ cs' = wkC n' a' v' ∧ NM u n' a' ∧ Rw wB v' l' u ∧ From w v v') t K :=
  t_ret x (fun u hu _ _ => ⟨_, hs, a', v', rfl, rfl, (h u hu).1, (h u hu).2, ho⟩) hd
theorem From.mem {v0 v : Value} {w : World} (h : From w v0 v) {g : Nat} (e : v.ownBlock = some g) : w.heap.size ≤ g ∨ g ∈ v0.ownBlock.toList := (h g e).imp id fun q => by simp [q]
theorem t_w {bo : List Nat} {F : Value → S → World → Prop} {v : Value} (T : TypeId) (a : Adr) (n : Nod) (r : Nod × List Ou) (ho : From w v0 v) (hr : ∀ u, K u → Rw wB v l u)
    (hc : ∀ u b, K u → w.heap.size ≤ u.heap.size → BoxO u b T (wkC n a v) → Calls Tryz.prog f (.pointer (some ⟨b, 0, none⟩) :: args).toArray u (GivesW T b wB v r x u))
    (h : ∀ a' A c, From w v0 (.slice A r.2.length c) → OK ⟨Tryz.prog, tyL, w, bo, v0.ownBlock.toList⟩ F (t.nc x (wkC r.1 a' (.slice A r.2.length c))) fun u => NM u r.1 a' ∧ Rw wB (.slice A r.2.length c) r.2 u) (hT : tyL T = true := by kernel_rfl) (hd : t.hd = .cgrow f T (wkC n a v) args := by kernel_rfl) : OK ⟨Tryz.prog, tyL, w, bo, v0.ownBlock.toList⟩ F t K := by
  refine t_cgrow (fun u b hu hb hx => hc u b hu (base_size hb) hx) (fun u b e u' hu hb _ hx hR => ?_) hT hd
  obtain ⟨a', v', rfl, h1, h2, h3, h4, h5⟩ := hR
  obtain ⟨A, c, rfl, _⟩ := h3.om
  have hsz : w.heap.size ≤ u.heap.size := base_size hb
  refine ⟨x, _, _, rfl, ⟨h4.1, h4.2.1, h4.2.2.1, h4.2.2.2.1, fun k hk hkb => ?_⟩, h1, (st_nm _ _).and (st_rw _ _ _), ⟨h2, h3⟩, h a' A c fun g hg => ?_⟩
  · by_cases e : v.ownBlock = some k
    · obtain ⟨_, h6⟩ := (hr u hu).own
      rcases h6 with ⟨q, _⟩ | ⟨g', cap, cur, q, hbg, hcg, _⟩
      · rw [q] at e; cases e
      · rw [q] at e
        injection e with e
        subst e
        exact .inr ⟨ho.mem (by rw [q]; rfl), _, _, _, rfl, hcg⟩
    · exact .inl (h4.2.2.2.2 k hk (by
        simp only [List.mem_cons, Option.mem_toList, not_or]
        exact ⟨hkb, e⟩))
  · rcases h5 g hg with q | q
    · exact .inl (Nat.le_trans hsz q)
    · exact ho g q
theorem t_wpush {bo : List Nat} {F : Value → S → World → Prop} {v : Value} (o : Ou) (n : Nod) (a : Adr) (hB : wB.heap.size ≤ w.heap.size) (ho : From w v0 v) (hK : ∀ u, K u → NM u n a ∧ Rw wB v l u) (hl : l.length + 1 ≤ 1000000)
    (h : ∀ r A c, From w v0 (.slice A (l ++ [o]).length c) → OK ⟨Tryz.prog, tyL, w, bo, v0.ownBlock.toList⟩ F ((t.nr r).nv (.slice A (l ++ [o]).length c)) fun u => NM u n a ∧ Rw wB (.slice A (l ++ [o]).length c) (l ++ [o]) u) (hf : t.hd = .fresh 91 (ouC o) := by kernel_rfl)
    (hd : ∀ r, (t.nr r).hd = .app (.app #[49, 49] 49) [v, .slice (some ⟨r, 0, none⟩) 1 1] := by intro r; kernel_rfl) : OK ⟨Tryz.prog, tyL, w, bo, v0.ownBlock.toList⟩ F t K :=
  t_o o (fun r _ => t_aorF (A := some ⟨r, 0, none⟩) (k := 1) (l := [o]) hB (fun _ _ _ e => ho.mem e) (fun u => NM u n a) (st_nm _ _) (fun u hu => ⟨(hK u hu.1).2, om_box hu.2⟩) (fun u _ hu hr hg => hr.nm hg (hK u hu.1).1) hl (fun v' hf q => by
    obtain ⟨A, c, rfl⟩ := hf
    exact h r A c fun g hg => q.elim (fun q => ho g (q ▸ hg)) fun q => .inl (q g hg)) (hd r)) hf
end
section
variable {T : TypeId} {b : Nat} {wB w : World} {n : Nod} {l : List Ou} {a : Adr} {v : Value}
def WK (wB : World) (n : Nod) (a : Adr) (v : Value) (l : List Ou) (u : World) : Prop := NM u n a ∧ Rw wB v l u
theorem st_wk : Stab tyL (WK wB n a v l) := (st_nm _ _).and (st_rw _ _ _)
theorem WK.own {rows : List Nat} (hr : v.ownBlock.toList = rows) {u : World} : ∀ g, v.ownBlock = some g → u.heap.size ≤ g ∨ g ∈ rows := fun g e => .inr (by rw [← hr, e]; simp)
theorem wdown (n : Nod) (a : Adr) (w : World) (hn : NM w n a) : Calls Tryz.prog 142 #[nodV n a] w (GivesA n.down w) :=
  run (st_nm n a) hn (t_v (fun u _ => crash_any a.A a.B n.t.s.length a.k n.t.c.length a.m n.t.f n.t.x u) (e_a a fun _ h => h.down))
theorem wof (n : Nod) (a : Adr) (w : World) : Calls Tryz.prog 47 #[nodV n a] w fun e w' => e = .returned (wkV n a (.slice none 0 0)) ∧ Below w.heap.size w w' := run_v e_r
theorem wkeep (hT : WT T) (r : Sto × Int) (A B : Option Addr) (k m : Nat) (hx : BoxO w b T (wkC n a v)) (hn : NM w n a) (hr : Rw wB v l w) (ht : Mem w A k B m r.1.s r.1.c) : Calls Tryz.prog 101 #[.pointer (some ⟨b, 0, none⟩), toV r.1 A k B m, .int .i64 r.2] w (GivesW T b wB v ((n.keep r).1, l) (.bool (n.keep r).2) w) := by
  unfold WT at hT
  simp only [List.mem_cons, List.not_mem_nil, or_false] at hT
  unfold Nod.keep
  by_cases h : r.2 = 0
  · rw [if_pos h]
    rcases hT with rfl|rfl <;>
    exact runW (args := [toV r.1 A k B m, .int .i64 r.2]) (K := fun u => NM u n a ∧ Rw wB v l u ∧ Mem u A k B m r.1.s r.1.c) (by kernel_rfl) ((st_nm _ _).and ((st_rw _ _ _).and (st_mem _ _ _ _ _ _))) hx ⟨hn, hr, ht⟩ (t_N (b := r.2 != 0) 9 (by simpa using h) (e_w (a.withT A k B m) v (fun u hu => ⟨hu.1.withT hu.2.2, hu.2.1⟩) (From.refl _ _)))
  · rw [if_neg h]
    rcases hT with rfl|rfl <;>
    exact runW (args := [toV r.1 A k B m, .int .i64 r.2]) (K := fun u => NM u n a ∧ Rw wB v l u ∧ Mem u A k B m r.1.s r.1.c) (by kernel_rfl) ((st_nm _ _).and ((st_rw _ _ _).and (st_mem _ _ _ _ _ _))) hx ⟨hn, hr, ht⟩ (t_Y (b := r.2 != 0) 9 (by simpa using h) (t_a (fun u hu => wdown { n with t := r.1 } (a.withT A k B m) u (hu.1.withT hu.2.2)) fun a2 => e_w a2 v (fun u hu => ⟨hu.2, hu.1.2.1⟩) (From.refl _ _)))
end
end Go.Proofs.YtabenngcmpjlhaaGreatDoor
