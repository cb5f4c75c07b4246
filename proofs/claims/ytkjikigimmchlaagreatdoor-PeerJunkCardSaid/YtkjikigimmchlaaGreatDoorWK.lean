/- A node at work: a block of the call's own that holds a node and its outputs, lent to calls that change both; what those calls leave. No condition. -/
import Derived.Test.YtkjikigimmchlaaGreatDoorPN
namespace Go.Proofs.YtkjikigimmchlaaGreatDoor
open Go.RowKit PX
set_option maxRecDepth 100000
@[reducible] def wkC (n : Nod) (a : Adr) (v : Value) : List Value := nodC n a ++ [v]
@[reducible] def wkV (n : Nod) (a : Adr) (v : Value) : Value := .agg (wkC n a v).toArray
def From (w : World) (v0 v : Value) : Prop := ∀ g, v.ownBlock = some g → w.heap.size ≤ g ∨ v0.ownBlock = some g
theorem From.refl (w : World) (v : Value) : From w v v := fun _ h => .inr h
def WT (T : TypeId) : Prop := T ∈ [144, 146, 134, 80]
def GivesW (T : TypeId) (b : Nat) (wB : World) (v0 : Value) (r : Nod × List Ou) (x : Value) (w : World) (e : Ending) (w' : World) : Prop :=
  ∃ a v, e = .returned x ∧ BoxO w' b T (wkC r.1 a v) ∧ NM w' r.1 a ∧ Rw wB v r.2 w' ∧ But (b :: v0.ownBlock.toList) w.heap.size w w' ∧ From w v0 v
section
variable {T : TypeId} {b : Nat} {wB w : World} {v0 : Value} {n n' : Nod} {l l' : List Ou} {a : Adr} {x : Value} {f : FuncId} {args : List Value} {K : World → Prop} {t : Tree}
theorem runW {v : Value} (hT : tyL T = true) (hs : Stab tyL K) (hx : BoxO w b T (wkC n a v)) (hK : K w)
    (h : OK ⟨Tryz.prog, tyL, w, [b], v.ownBlock.toList⟩ (fun y s u => ∃ cs', s.hp 0 = some (T, cs') ∧ ∃ a' v', y = x ∧ cs' = wkC n' a' v' ∧ NM u n' a' ∧ Rw wB v' l' u ∧ From w v v') (treeR ⟨Tryz.prog, tyL, w, [b], v.ownBlock.toList⟩ 0 f T (wkC n a v) args) K) :
    Calls Tryz.prog f (.pointer (some ⟨b, 0, none⟩) :: args).toArray w (GivesW T b wB v (n', l') x w) :=
  runR_ok rfl hs hK hx hT (G := fun y cs' u => ∃ a' v', y = x ∧ cs' = wkC n' a' v' ∧ NM u n' a' ∧ Rw wB v' l' u ∧ From w v v') (fun y cs' u hb hx' ⟨a', v', h1, h2, h3, h4, h5⟩ => ⟨a', v', by rw [h1], by subst h2; exact hx', h3, h4, hb, h5⟩) h
theorem e_w {bo rows : List Nat} {v : Value} (a' : Adr) (v' : Value) (h : ∀ u, K u → NM u n' a' ∧ Rw wB v' l' u) (ho : From w v v') (hd : t.hd = .ret x := by kernel_rfl) (hs : t.st.hp 0 = some (T, wkC n' a' v') := by kernel_rfl) :
    OK ⟨Tryz.prog, tyL, w, bo, rows⟩ (fun y s u => ∃ cs', s.hp 0 = some (T, cs') ∧ ∃ a' v', y = x ∧ cs' = wkC n' a' v' ∧ NM u n' a' ∧ Rw wB v' l' u ∧ From w v v') t K :=
  t_ret x (fun u hu _ _ => ⟨_, hs, a', v', rfl, rfl, (h u hu).1, (h u hu).2, ho⟩) hd
theorem From.mem {v0 v : Value} {w : World} (h : From w v0 v) {g : Nat} (e : v.ownBlock = some g) : w.heap.size ≤ g ∨ g ∈ v0.ownBlock.toList := (h g e).imp id fun q => by simp [q]
theorem t_w {bo : List Nat} {F : Value → S → World → Prop} {v : Value} (T : TypeId) (a : Adr) (n : Nod) (r : Nod × List Ou) (ho : From w v0 v) (hr : ∀ u, K u → Rw wB v l u)
    (hc : ∀ u b, K u → w.heap.size ≤ u.heap.size → BoxO u b T (wkC n a v) → Calls Tryz.prog f (.pointer (some ⟨b, 0, none⟩) :: args).toArray u (GivesW T b wB v r x u))
    (h : ∀ a' A c, From w v0 (.slice A r.2.length c) → OK ⟨Tryz.prog, tyL, w, bo, v0.ownBlock.toList⟩ F (t.nc x (wkC r.1 a' (.slice A r.2.length c))) fun u => NM u r.1 a' ∧ Rw wB (.slice A r.2.length c) r.2 u) (hT : tyL T = true := by kernel_rfl) (hd : t.hd = .cgrow f T (wkC n a v) args := by kernel_rfl) : OK ⟨Tryz.prog, tyL, w, bo, v0.ownBlock.toList⟩ F t K := by
  refine t_cgrow (fun u b hu hb hx => hc u b hu (base_size hb) hx) (fun u b e u' hu hb _ hx hR => ?_) hT hd
  obtain ⟨a', v', rfl, h1, h2, h3, h4, h5⟩ := hR
  obtain ⟨A, c, rfl, _⟩ := h3.om
  have hsz : w.heap.size ≤ u.heap.size := base_size hb
  refine ⟨x, _, _, rfl, ⟨h4.1, h4.2.1, h4.2.2.1, h4.2.2.2.1, fun k hk hkb => ?_⟩, h1, (st_nm _ _).and (st_rw _ _ _), ⟨h2, h3⟩, h a' A c fun g hg => ?_⟩
  · by_cases e : v.ownBlock = some k
    · obtain ⟨_, h6⟩ := (hr u hu).own
      rcases h6 with ⟨q, _⟩ | ⟨g', cap, cur, q, hbg, hcg, _⟩
      · rw [q] at e; cases e
      · rw [q] at e
        injection e with e
        subst e
        exact .inr ⟨ho.mem (by rw [q]; rfl), _, _, _, rfl, hcg⟩
    · exact .inl (h4.2.2.2.2 k hk (by
        simp only [List.mem_cons, Option.mem_toList, not_or]
        exact ⟨hkb, e⟩))
  · rcases h5 g hg with q | q
    · exact .inl (Nat.le_trans hsz q)
    · exact ho g q
theorem t_wpush {bo : List Nat} {F : Value → S → World → Prop} {v : Value} (o : Ou) (n : Nod) (a : Adr) (hB : wB.heap.size ≤ w.heap.size) (ho : From w v0 v) (hK : ∀ u, K u → NM u n a ∧ Rw wB v l u) (hl : l.length + 1 ≤ 1000000)
    (h : ∀ r A c, From w v0 (.slice A (l ++ [o]).length c) → OK ⟨Tryz.prog, tyL, w, bo, v0.ownBlock.toList⟩ F ((t.nr r).nv (.slice A (l ++ [o]).length c)) fun u => NM u n a ∧ Rw wB (.slice A (l ++ [o]).length c) (l ++ [o]) u) (hf : t.hd = .fresh 59 (ouC o) := by kernel_rfl)
    (hd : ∀ r, (t.nr r).hd = .app (.app #[54, 54] 54) [v, .slice (some ⟨r, 0, none⟩) 1 1] := by intro r; kernel_rfl) : OK ⟨Tryz.prog, tyL, w, bo, v0.ownBlock.toList⟩ F t K :=
  t_o o (fun r _ => t_aorF (A := some ⟨r, 0, none⟩) (k := 1) (l := [o]) hB (fun _ _ _ e => ho.mem e) (fun u => NM u n a) (st_nm _ _) (fun u hu => ⟨(hK u hu.1).2, om_box hu.2⟩) (fun u _ hu hr hg => hr.nm hg (hK u hu.1).1) hl (fun v' hf q => by
    obtain ⟨A, c, rfl⟩ := hf
    exact h r A c fun g hg => q.elim (fun q => ho g (q ▸ hg)) fun q => .inl (q g hg)) (hd r)) hf
end
section
variable {T : TypeId} {b : Nat} {wB w : World} {n : Nod} {l : List Ou} {a : Adr} {v : Value}
def WK (wB : World) (n : Nod) (a : Adr) (v : Value) (l : List Ou) (u : World) : Prop := NM u n a ∧ Rw wB v l u
theorem st_wk : Stab tyL (WK wB n a v l) := (st_nm _ _).and (st_rw _ _ _)
theorem WK.own {rows : List Nat} (hr : v.ownBlock.toList = rows) {u : World} : ∀ g, v.ownBlock = some g → u.heap.size ≤ g ∨ g ∈ rows := fun g e => .inr (by rw [← hr, e]; simp)
theorem wdown (n : Nod) (a : Adr) (w : World) (hn : NM w n a) : Calls Tryz.prog 177 #[nodV n a] w (GivesA n.down w) :=
  run (st_nm n a) hn (t_v (fun u _ => crash_any a.A a.B n.t.s.length a.k n.t.c.length a.m n.t.f n.t.x u) (e_a a fun _ h => h.down))
theorem wof (n : Nod) (a : Adr) (w : World) : Calls Tryz.prog 15 #[nodV n a] w fun e w' => e = .returned (wkV n a (.slice none 0 0)) ∧ Below w.heap.size w w' := run_v e_r
theorem wkeep (hT : WT T) (r : Sto × Int) (A B : Option Addr) (k m : Nat) (hx : BoxO w b T (wkC n a v)) (hn : NM w n a) (hr : Rw wB v l w) (ht : Mem w A k B m r.1.s r.1.c) : Calls Tryz.prog 120 #[.pointer (some ⟨b, 0, none⟩), toV r.1 A k B m, .int .i64 r.2] w (GivesW T b wB v ((n.keep r).1, l) (.bool (n.keep r).2) w) := by
  unfold WT at hT
  simp only [List.mem_cons, List.not_mem_nil, or_false] at hT
  unfold Nod.keep
  by_cases h : r.2 = 0
  · rw [if_pos h]
    rcases hT with rfl|rfl|rfl|rfl <;>
    exact runW (args := [toV r.1 A k B m, .int .i64 r.2]) (K := fun u => NM u n a ∧ Rw wB v l u ∧ Mem u A k B m r.1.s r.1.c) (by kernel_rfl) ((st_nm _ _).and ((st_rw _ _ _).and (st_mem _ _ _ _ _ _))) hx ⟨hn, hr, ht⟩ (t_N (b := r.2 != 0) 9 (by simpa using h) (e_w (a.withT A k B m) v (fun u hu => ⟨hu.1.withT hu.2.2, hu.2.1⟩) (From.refl _ _)))
  · rw [if_neg h]
    rcases hT with rfl|rfl|rfl|rfl <;>
    exact runW (args := [toV r.1 A k B m, .int .i64 r.2]) (K := fun u => NM u n a ∧ Rw wB v l u ∧ Mem u A k B m r.1.s r.1.c) (by kernel_rfl) ((st_nm _ _).and ((st_rw _ _ _).and (st_mem _ _ _ _ _ _))) hx ⟨hn, hr, ht⟩ (t_Y (b := r.2 != 0) 9 (by simpa using h) (t_a (fun u hu => wdown { n with t := r.1 } (a.withT A k B m) u (hu.1.withT hu.2.2)) fun a2 => e_w a2 v (fun u hu => ⟨hu.2, hu.1.2.1⟩) (From.refl _ _)))
end
end Go.Proofs.YtkjikigimmchlaaGreatDoor
