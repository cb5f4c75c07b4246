/- Calls carried out plainly that lay a row of events of their own: the steps; and how outputs are read. No condition. -/
import Derived.Test.YtabenngcmpjlhaaGreatXQ
import Derived.Test.YtabenngcmpjlhaaGreatXS17
namespace Go.Proofs.YtabenngcmpjlhaaGreat
open Go.RowKit PX
set_option maxRecDepth 100000
def tyE (T : TypeId) : Bool := !(Nat.beq T 78) && tyL T
theorem tyE_L {T : TypeId} (h : tyE T = true) : tyL T = true := by
  unfold tyE at h
  rw [Bool.and_eq_true] at h
  exact h.2
theorem stE {K : World → Prop} (h : Stab tyL K) : Stab tyE K := fun w w' e k => h w w' ⟨e.size, fun j hj => (e.blk j hj).imp id fun ⟨T, c1, c2, h1, h2, h3⟩ => ⟨T, c1, c2, tyE_L h1, h2, h3⟩⟩ k
def AOk (n : Nod) (a : Adr) : Prop := (n.dr = [] ∨ ∃ d, a.D = some d) ∧ (n.mi = [] ∨ ∃ d, a.M = some d)
theorem aok {u : World} {n : Nod} {a : Adr} (h : NM u n a) : AOk n a := by
  constructor
  · cases hd : n.dr with
    | nil => exact .inl rfl
    | cons x r =>
      obtain ⟨d, e, _⟩ := h.d 0 x (by rw [hd]; rfl)
      exact .inr ⟨d, e⟩
  · cases hd : n.mi with
    | nil => exact .inl rfl
    | cons x r =>
      obtain ⟨d, e, _⟩ := h.mi 0 x (by rw [hd]; rfl)
      exact .inr ⟨d, e⟩
theorem some_at {α β : Type} {l : List α} {j : Nat} {o : Option β} (h : l = [] ∨ ∃ d, o = some d) (hj : j < l.length) : ∃ d, o = some d := by
  rcases h with rfl | h
  · simp at hj
  · exact h
theorem d_reads {u : World} {n : Nod} {a : Adr} {d : Addr} {j : Nat} {x : Int} (h : NM u n a) (hd : a.D = some d) (hx : n.dr[j]? = some x) : Reads Tryz.prog u 32 (d.add (j * 1)) (.int .u64 x) := by
  obtain ⟨e, he, hr⟩ := n_reads h.d hx
  rw [hd] at he
  injection he with he
  subst he
  exact hr u (Below.refl _ _)
theorem m_reads {u : World} {n : Nod} {a : Adr} {d : Addr} {j : Nat} {x : Mnt} (h : NM u n a) (hd : a.M = some d) (hx : n.mi[j]? = some x) : Reads Tryz.prog u 67 (d.add (j * 3)) (mnV x) := by
  obtain ⟨e, he, hr⟩ := ms_reads h.mi hx
  rw [hd] at he
  injection he with he
  subst he
  exact hr u (Below.refl _ _)
section
variable {w : World} {F : Value → S → World → Prop} {K : World → Prop} {t : Tree} {f : FuncId} {args : Array Value}
theorem base_belowE {u : World} (h : (⟨Tryz.prog, tyE, w, [], []⟩ : Cx).base u) : Below w.heap.size w u := But.below h
theorem run_vE {v : Value} (h : OK ⟨Tryz.prog, tyE, w, [], []⟩ (fun x _ u => Ending.returned x = .returned v ∧ Below w.heap.size w u) (tree ⟨Tryz.prog, tyE, w, [], []⟩ 0 f args.toList) fun _ => True) : Calls Tryz.prog f args w fun e w' => e = .returned v ∧ Below w.heap.size w w' := run_ok rfl (st_p _) trivial h
theorem e_r2E {v : Value} (x : Value) (hx : x = v) (hd : t.hd = .ret x := by kernel_rfl) : OK ⟨Tryz.prog, tyE, w, [], []⟩ (fun x _ u => Ending.returned x = .returned v ∧ Below w.heap.size w u) t K := t_ret x (fun _ _ hb _ => ⟨by rw [hx], base_belowE hb⟩) hd
theorem t_vE {v : Value} (hc : ∀ u, K u → Below w.heap.size w u → Calls Tryz.prog f args u fun e u' => e = .returned v ∧ Below u.heap.size u u') (h : OK ⟨Tryz.prog, tyE, w, [], []⟩ F (t.nv v) K) (hd : t.hd = .call (.fn f) args.toList := by kernel_rfl) : OK ⟨Tryz.prog, tyE, w, [], []⟩ F t K :=
  t_call (fun u hu hb => hc u hu (base_belowE hb)) (fun u e u' hu hb hr => ⟨v, fun _ => True, hr.1, hr.2, st_p _, trivial, by simpa using h⟩) hd
theorem t_1E {m : Nod} {x : Ou} {r : Nod × List Ou} (e : r = (m, [x])) (hc : ∀ u, K u → Calls Tryz.prog f args u (GivesN r u)) (h : ∀ a ad k, OK ⟨Tryz.prog, tyE, w, [], []⟩ F (t.nv (.tuple #[nodV m a, .slice (some ad) 1 k])) fun u => K u ∧ NM u m a ∧ OM u (some ad) k [x]) (hd : t.hd = .call (.fn f) args.toList := by kernel_rfl) : OK ⟨Tryz.prog, tyE, w, [], []⟩ F t K :=
  t_call (fun u hu _ => hc u hu) (fun u e' u' hu hb hr => by
    subst e
    obtain ⟨a, O, k, he, h1, h2, h3, h4⟩ := hr
    obtain ⟨ad, rfl, _⟩ := h2.o 0 x rfl
    exact ⟨_, _, he, h3, (stE (st_nm _ _)).and (stE (st_om _ _ _)), ⟨h1, h2⟩, h a ad k⟩) hd
theorem t_2E {m : Nod} {x y : Ou} {r : Nod × List Ou} (e : r = (m, [x, y])) (hc : ∀ u, K u → Calls Tryz.prog f args u (GivesN r u)) (h : ∀ a ad k, OK ⟨Tryz.prog, tyE, w, [], []⟩ F (t.nv (.tuple #[nodV m a, .slice (some ad) 2 k])) fun u => K u ∧ NM u m a ∧ OM u (some ad) k [x, y]) (hd : t.hd = .call (.fn f) args.toList := by kernel_rfl) : OK ⟨Tryz.prog, tyE, w, [], []⟩ F t K :=
  t_call (fun u hu _ => hc u hu) (fun u e' u' hu hb hr => by
    subst e
    obtain ⟨a, O, k, he, h1, h2, h3, h4⟩ := hr
    obtain ⟨ad, rfl, _⟩ := h2.o 0 x rfl
    exact ⟨_, _, he, h3, (stE (st_nm _ _)).and (stE (st_om _ _ _)), ⟨h1, h2⟩, h a ad k⟩) hd
theorem t_nO {r : Nod × List Ou} (hc : ∀ u, K u → Calls Tryz.prog f args u (GivesN r u)) (h : ∀ a O k, (r.2 = [] ∨ ∃ ad, O = some ad) → AOk r.1 a → OK ⟨Tryz.prog, tyL, w, [], []⟩ F (t.nv (.tuple #[nodV r.1 a, .slice O r.2.length k])) fun u => K u ∧ (NM u r.1 a ∧ OM u O k r.2)) (hd : t.hd = .call (.fn f) args.toList := by kernel_rfl) : OK ⟨Tryz.prog, tyL, w, [], []⟩ F t K :=
  t_call (fun u hu _ => hc u hu) (fun u e u' hu hb hr => by
    obtain ⟨a, O, k, he, h1, h2, h3, h4⟩ := hr
    refine ⟨_, _, he, h3, (st_nm _ _).and (st_om _ _ _), ⟨h1, h2⟩, h a O k ?_ (aok h1)⟩
    cases hl : r.2 with
    | nil => exact .inl rfl
    | cons x l =>
      rw [hl] at h2
      obtain ⟨ad, e, _⟩ := h2.o 0 x rfl
      exact .inr ⟨ad, e⟩) hd
theorem flat7 : ∀ (l : List Evt) (j i : Nat) (v : Evt) (y : Value), l[j]? = some v → (evC v none 0)[i]? = some y → (l.flatMap fun v => evC v none 0)[j * 7 + i]? = some y
  | [], j, _, _, _, h, _ => by simp at h
  | v0 :: l, 0, i, v, y, h, hi => by
    simp only [List.getElem?_cons_zero, Option.some.injEq] at h
    subst h
    rw [List.flatMap_cons, Nat.zero_mul, Nat.zero_add, List.getElem?_append_left (List.getElem?_eq_some_iff.1 hi).1]
    exact hi
  | v0 :: l, j + 1, i, v, y, h, hi => by
    rw [List.flatMap_cons, List.getElem?_append_right (by show 7 ≤ _; omega), show (j + 1) * 7 + i - (evC v0 none 0).length = j * 7 + i by show _ - 7 = _; omega]
    exact flat7 l j i v y (by simpa using h) hi
theorem evs_box {u : World} {r : Nat} {l : List Evt} (h : BoxO u r 78 (l.flatMap fun v => evC v none 0)) (hk : ∀ v ∈ l, v.keeps = []) : Evs u (some ⟨r, 0, none⟩) l := fun j v hj => by
  have hv := hk v (List.mem_of_getElem? hj)
  refine ⟨_, none, 0, rfl, h.lt, by rw [hv]; exact es_nil _ _ _ _, by rw [hv]; exact Nat.zero_le _, fun i y hy => ?_⟩
  rw [Addr.add_mid, Addr.add_mid, Nat.zero_add, BoxO.cell h]
  exact flat7 l j i v y hj hy
theorem t_reachE (l : List Evt) (b : Int) (n : Nat) (cs : List Value) (hcs : cs = l.flatMap fun v => evC v none 0) (hn : n = l.length) (h0 : 0 ≤ b) (h1 : b < 256) (hl : l.length ≤ 60) (hw : ∀ v ∈ l, (v.wide ∧ (v.d.size : Int) ≤ 3000) ∧ v.keeps = []) (h : ∀ r x, OK ⟨Tryz.prog, tyE, w, [], []⟩ F ((t.nr r).nv (cluV (reachC (blks b) l) x)) fun u => (K u ∧ BoxO u r 78 cs) ∧ CM u (reachC (blks b) l) x)
    (hf : t.hd = .fresh 78 cs := by kernel_rfl) (hd : ∀ r, (t.nr r).hd = .call (.fn 15) [.int .u8 b, .slice (some ⟨r, 0, none⟩) n n] := by intro r; kernel_rfl) : OK ⟨Tryz.prog, tyE, w, [], []⟩ F t K := by
  subst hcs; subst hn
  refine t_fresh 78 _ (fun r hr => ?_) (by kernel_rfl) hf
  refine t_call (args := #[.int .u8 b, .slice (some ⟨r, 0, none⟩) l.length l.length]) (fun u hu _ => xreach h0 h1 (some ⟨r, 0, none⟩) l l.length hl (fun v hv => (hw v hv).1) (evs_box hu.2 fun v hv => (hw v hv).2)) ?_ (hd r)
  rintro u e u' hu _ ⟨x, rfl, hc, hb⟩
  exact ⟨_, fun u => CM u (reachC (blks b) l) x, rfl, hb, stE (st_cm _ _), hc, h r x⟩
end
theorem o_reads {u : World} {ad : Addr} {k : Nat} {x : Ou} (h : OM u (some ad) k [x]) : Reads Tryz.prog u 64 ad (ouV x) := by
  obtain ⟨a, e, hr⟩ := om_reads h (x := x) (j := 0) rfl
  injection e with e
  subst e
  exact hr u (Below.refl _ _)
theorem eql_ouS (a b : Operand) (x y : Ou) (w : World) : (do Go.eqGuard .eql 64 a b (ouV x) (ouV y); Go.binOp .eql 64 (ouV x) (ouV y) : Sem Value).run Tryz.prog w = .ok (.bool (eqO x y)) w := by
  simp [go_sem, eql_ou]
theorem neq_ouS (a b : Operand) (x y : Ou) (w : World) : (do Go.eqGuard .neq 64 a b (ouV x) (ouV y); Go.binOp .neq 64 (ouV x) (ouV y) : Sem Value).run Tryz.prog w = .ok (.bool (!eqO x y)) w := by
  simp [go_sem, eql_ou]
theorem o_field {u : World} {A : Option Addr} {ad : Addr} {k : Nat} {l : List Ou} {x : Ou} (h : OM u A k (x :: l)) (hA : A = some ad) : u.cell? ad = some (.int .i64 x.k) ∧ u.cell? ⟨ad.block, ad.off + 1, none⟩ = some (.int .i64 x.n) ∧ u.cell? ⟨ad.block, ad.off + 2, none⟩ = some (.int .i64 x.id) ∧ u.cell? ⟨ad.block, ad.off + 3, none⟩ = some (.int .i64 x.e) ∧ u.cell? ⟨ad.block, ad.off + 4, none⟩ = some (.string x.d) := by
  obtain ⟨a, e, _, h0, h1, h2, h3, h4⟩ := h.o 0 x rfl
  rw [hA] at e
  injection e with e
  subst e
  exact ⟨h0, h1, h2, h3, h4⟩
end Go.Proofs.YtabenngcmpjlhaaGreat
