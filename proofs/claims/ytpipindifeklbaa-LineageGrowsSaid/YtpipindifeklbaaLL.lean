/- Lineage: rows that grow within a region that draws its order; lists beside rows; a list of mints with one more. No condition. -/
import Derived.Test.YtpipindifeklbaaLJ
import Derived.Test.YtpipindifeklbaaR0
namespace Go.Proofs.Ytpipindifeklbaa
open Go.RowKit

set_option maxRecDepth 100000 in
/-- Mints behind mints, one operation. -/
theorem app_msW {o : Oper} {a : Act} {K : Act → World → Prop} {Q : Exit → Act → World → Prop} (s x : Operand)
    (ho : o.op = .call { callee := .builtin .append, args := #[s, x], argTypes := #[22, 22] }) (w : World) (base : Nat) (hbase : base ≤ w.heap.size) (v : Value) (l0 : List Mnt) (hs : a.eval s = v)
    (hown : w.ownsRow base 32 3 v l0.length (cellsM l0)) (A : Option Addr) (n : Nat) (l : List Mnt) (hA : A = none → n = 0) (hx : a.eval x = .slice A l.length n) (hc : Ms w w.heap.size A l) (hl : l0.length + l.length ≤ 1000000)
    (h : ∀ v' w', w'.ownsRow base 32 3 v' (l0 ++ l).length (cellsM (l0 ++ l)) → w.grownBy w' v.ownBlock → K (a.put o.dst v') w') :
    o.wp Try.prog a w K Q := by
  obtain ⟨i0, hi, hz0, hz1, hz2⟩ := info_parts info32
  cases A with
  | none =>
    have hl0 : l = [] := by
      cases l with
      | nil => rfl
      | cons y t => obtain ⟨a', ha', _⟩ := hc 0 y rfl; cases ha'
    subst hl0
    rw [hA rfl] at hx
    rw [List.append_nil] at h
    have hrun := run_append_owned_none (P := Try.prog) (w := w) base 22 o.type 32 i0 3 Try.underlying22 hi v _ _ hown
    unfold Oper.wp
    simp [execOp, ho, resolve, invoke, builtin, hs, hx, hrun, Result.andThen]
    exact h _ _ hown ⟨rfl, rfl, rfl, Nat.le_refl _, fun _ _ _ => rfl⟩
  | some ad =>
    refine wp_append_own _ s x 22 ho base 32 i0 (.agg #[.int .u64 0, .int .u64 0, .int .i64 0]) 3 24 Try.underlying22 hi hz0 hz1 hz2 rfl (by decide) v _ _ hs hown ad l.length n (cellsM l) hx (cellsM_length l) (ms_cells hc)
      (cellsM_one l) (by unfold maxLen; omega) (by omega) hbase fun v' w' hown' hgrow _ => ?_
    rw [← cellsM_append, ← List.length_append] at hown'
    exact h v' w' hown' hgrow

theorem us_cells {w : World} {D : Nat} {a : Addr} {l : List Int} (h : Es (Value.int .u64) w D (some a) l) : ∀ j u, (l.map (Value.int .u64))[j]? = some u → w.cell? (a.add j) = some u := by
  intro j u hu
  rw [List.getElem?_map] at hu
  obtain ⟨y, hy, rfl⟩ := Option.map_eq_some_iff.1 hu
  obtain ⟨a', ha', _, hcell⟩ := h j y hy
  injection ha' with ha'
  subst ha'
  exact hcell

set_option maxRecDepth 100000 in
/-- Numbers behind numbers, one operation. -/
theorem app_usW {o : Oper} {a : Act} {K : Act → World → Prop} {Q : Exit → Act → World → Prop} (s x : Operand)
    (ho : o.op = .call { callee := .builtin .append, args := #[s, x], argTypes := #[27, 27] }) (w : World) (base : Nat) (hbase : base ≤ w.heap.size) (v : Value) (l0 : List Int) (hs : a.eval s = v)
    (hown : w.ownsRow base 23 1 v l0.length (l0.map (Value.int .u64))) (A : Option Addr) (n : Nat) (l : List Int) (hA : A = none → n = 0) (hx : a.eval x = .slice A l.length n) (hc : Es (Value.int .u64) w w.heap.size A l) (hl : l0.length + l.length ≤ 1000000)
    (h : ∀ v' w', w'.ownsRow base 23 1 v' (l0 ++ l).length ((l0 ++ l).map (Value.int .u64)) → w.grownBy w' v.ownBlock → K (a.put o.dst v') w') :
    o.wp Try.prog a w K Q := by
  obtain ⟨i0, hi, hz0, hz1, hz2⟩ := info_parts info23
  cases A with
  | none =>
    have hl0 : l = [] := by
      cases l with
      | nil => rfl
      | cons y t => obtain ⟨a', ha', _⟩ := hc 0 y rfl; cases ha'
    subst hl0
    rw [hA rfl] at hx
    rw [List.append_nil] at h
    have hrun := run_append_owned_none (P := Try.prog) (w := w) base 27 o.type 23 i0 1 Try.underlying27 hi v _ _ hown
    unfold Oper.wp
    simp [execOp, ho, resolve, invoke, builtin, hs, hx, hrun, Result.andThen]
    exact h _ _ hown ⟨rfl, rfl, rfl, Nat.le_refl _, fun _ _ _ => rfl⟩
  | some ad =>
    refine wp_append_own _ s x 27 ho base 23 i0 (.int .u64 0) 1 8 Try.underlying27 hi hz0 hz1 hz2 rfl (by decide) v _ _ hs hown ad l.length n (l.map (Value.int .u64)) hx (by simp) (us_cells hc)
      (fun u hu => by obtain ⟨y, _, rfl⟩ := List.mem_map.1 hu; rfl) (by unfold maxLen; omega) (by omega) hbase fun v' w' hown' hgrow _ => ?_
    rw [← List.map_append, ← List.length_append] at hown'
    exact h v' w' hown' hgrow

theorem own_one {e : TypeId} (w : World) (base : Nat) (hb : base ≤ w.heap.size) (x : Value) : (w.alloc (.cells #[x] e)).ownsRow base e 1 (.slice (some ⟨w.heap.size, 0, none⟩) 1 1) 1 [x] :=
  ⟨by simp, Or.inr ⟨w.heap.size, 1, #[x], rfl, hb, heap_alloc_new w _, Nat.le_refl _, by unfold maxLen; omega, by simp, by simp⟩⟩

theorem own_us {w : World} {base : Nat} {v : Value} {l : List Int} (h : w.ownsRow base 23 1 v l.length (l.map (Value.int .u64))) : ∃ A c, v = .slice A l.length c ∧ (A = none → c = 0) ∧ Es (Value.int .u64) w w.heap.size A l := by
  obtain ⟨A, c, hv, hA, hc⟩ := own_slice h
  exact ⟨A, c, hv, hA, fun j x hj => hc j (.int .u64 x) (by simp [hj])⟩

theorem own_lift {w w' : World} {base size n : Nat} {e : TypeId} {v : Value} {xs : List Value} (h : w.ownsRow base e size v n xs) (hb : Below w.heap.size w w') : w'.ownsRow base e size v n xs := by
  obtain ⟨h0, h2 | ⟨g, cap, cur, rfl, hbg, hh, r⟩⟩ := h
  · exact ⟨h0, Or.inl h2⟩
  · have hlt : g < w.heap.size := by
      rcases Nat.lt_or_ge g w.heap.size with q | q
      · exact q
      · rw [Array.getElem?_eq_none q] at hh; cases hh
    exact ⟨h0, Or.inr ⟨g, cap, cur, rfl, hbg, (hb.block g hlt).trans hh, r⟩⟩

theorem Held.grown0 {W0 w w' : World} {row : Option Nat} (h : Held W0 [] [] w) (hg : w.grownBy w' row) (h1 : ∀ g, row = some g → W0.heap.size ≤ g) : Held W0 [] [] w' :=
  ⟨h.below.grown hg h.below.size h1, Boxs.nil _, by simp, by simp, by simp⟩

theorem Box.grownB {X Y : World} {row : Option Nat} {b : Nat} {vs : List Value} (h : Box X b vs) (hg : X.grownBy Y row) (hn : row ≠ some b) : Box Y b vs := by
  have hl := h.lt
  obtain ⟨t, h⟩ := h
  exact ⟨t, (hg.block b hl fun e => hn e.symm).trans h⟩

/-- A list of numbers stays where a row grows that isn't its own. -/
theorem Es.grownU {X Y : World} {row : Option Nat} {A : Option Addr} {l : List Int} (h : Es (Value.int .u64) X X.heap.size A l) (hg : X.grownBy Y row) (hn : ∀ a, A = some a → row ≠ some a.block) : Es (Value.int .u64) Y Y.heap.size A l := by
  intro j t hj
  obtain ⟨a, ha, hlt, hc⟩ := h j t hj
  refine ⟨a, ha, Nat.lt_of_lt_of_le hlt hg.size, ?_⟩
  rw [World.cell?_of_block (a := a.add j) (hg.block _ (by rw [add_block]; exact hlt) (by rw [add_block]; exact fun e => hn a ha e.symm))]
  exact hc

/-- A block of a mint, as a list of one. -/
theorem ms_one {w : World} {b : Nat} {m : Mnt} (h : Box w b [.int .u64 m.g, .int .u64 m.p, .int .i64 m.k]) : Ms w w.heap.size (some ⟨b, 0, none⟩) [m] := by
  refine cells_ms fun j u hu => ⟨_, rfl, h.lt, ?_⟩
  have e : (⟨b, 0, none⟩ : Addr).add j = ⟨b, j, none⟩ := by unfold Addr.add; split <;> simp_all
  rw [e, h.cell]
  exact hu

theorem wide_more {l : List Mnt} {m : Mnt} (h : Wide l) (hg : U64 m.g) (hp : U64 m.p) : Wide (l ++ [m]) := by
  intro x hx
  rcases List.mem_append.1 hx with hx | hx
  · exact h x hx
  · rw [List.mem_singleton.1 hx]; exact ⟨hg, hp⟩

/-- Nobody knows it so far. -/
def News (l : List Mnt) (g : Int) (k : Nat) : Prop := ∀ x ∈ l.take k, x.g ≠ g ∧ x.p ≠ g
theorem news_zero (l : List Mnt) (g : Int) : News l g 0 := by intro x hx; simp at hx
theorem news_on {l : List Mnt} {g : Int} {k : Nat} (h : k < l.length) (hn : News l g k) (h1 : ¬ l[k].g = g) (h2 : ¬ l[k].p = g) : News l g (k + 1) := by
  intro x hx
  rw [take_snoc l k h] at hx
  rcases List.mem_append.1 hx with hx | hx
  · exact hn x hx
  · rw [List.mem_singleton.1 hx]; exact ⟨h1, h2⟩
theorem news_end {l : List Mnt} {g : Int} (h : News l g l.length) : g ∉ l.map Mnt.g ∧ g ∉ l.map Mnt.p := by
  unfold News at h
  rw [List.take_length] at h
  refine ⟨fun q => ?_, fun q => ?_⟩
  · obtain ⟨x, hx, e⟩ := List.mem_map.1 q
    exact (h x hx).1 e
  · obtain ⟨x, hx, e⟩ := List.mem_map.1 q
    exact (h x hx).2 e
end Go.Proofs.Ytpipindifeklbaa
