/- Lineage: mints cell by cell, rows of them, equal lists of numbers told alike, and the law's own example. No condition. -/
import Derived.Test.YtpipindifeklbaaLG
import Derived.Laws.AppendOwnNone
namespace Go.Proofs.Ytpipindifeklbaa
open Go.RowKit

def cellsM (c : List Mnt) : List Value := c.flatMap fun x => [.int .u64 x.g, .int .u64 x.p, .int .i64 x.k]
theorem cellsM_append (c d : List Mnt) : cellsM (c ++ d) = cellsM c ++ cellsM d := by unfold cellsM; rw [List.flatMap_append]
theorem cellsM_length (c : List Mnt) : (cellsM c).length = c.length * 3 := by
  induction c with
  | nil => rfl
  | cons x c ih => show (cellsM c).length + 3 = (c.length + 1) * 3; rw [ih]; omega
theorem cellsM_at : ∀ (c : List Mnt) (j : Nat) (x : Mnt), c[j]? = some x → (cellsM c)[j * 3]? = some (.int .u64 x.g) ∧ (cellsM c)[j * 3 + 1]? = some (.int .u64 x.p) ∧ (cellsM c)[j * 3 + 2]? = some (.int .i64 x.k) := by
  intro c
  induction c with
  | nil => intro j x h; simp at h
  | cons y c ih =>
    intro j x h
    cases j with
    | zero => simp at h; subst h; exact ⟨rfl, rfl, rfl⟩
    | succ j =>
      obtain ⟨h1, h2, h3⟩ := ih j x (by simpa using h)
      have e : (j + 1) * 3 = j * 3 + 1 + 1 + 1 := by omega
      rw [e]
      exact ⟨h1, h2, h3⟩
theorem cellsM_one (c : List Mnt) : ∀ u ∈ cellsM c, u.oneCell' = true := by
  intro u hu
  obtain ⟨x, _, h⟩ := List.mem_flatMap.1 hu
  simp at h
  rcases h with rfl | rfl | rfl <;> rfl

theorem add_two (a : Addr) (m : Nat) : (⟨(a.add m).block, (a.add m).off + 2, none⟩ : Addr) = a.add (m + 2) := by
  have e1 : (a.add m).block = a.block := add_block a m
  have e2 : (a.add m).off = a.off + m := by unfold Addr.add; split <;> simp_all
  rw [e1, e2]
  unfold Addr.add
  rw [if_neg (by omega)]
  rfl

theorem ms_cells {w : World} {D : Nat} {a : Addr} {c : List Mnt} (h : Ms w D (some a) c) : ∀ j u, (cellsM c)[j]? = some u → w.cell? (a.add j) = some u := by
  intro j u hu
  have hj : j / 3 < c.length := by
    have := (List.getElem?_eq_some_iff.1 hu).1
    rw [cellsM_length] at this
    omega
  obtain ⟨a', ha, _, h1, h2, h3⟩ := h (j / 3) c[j / 3] (List.getElem?_eq_getElem hj)
  injection ha with ha
  subst ha
  obtain ⟨g1, g2, g3⟩ := cellsM_at c (j / 3) c[j / 3] (List.getElem?_eq_getElem hj)
  have hcases : j % 3 = 0 ∨ j % 3 = 1 ∨ j % 3 = 2 := by omega
  rcases hcases with e | e | e
  · have e' : j = j / 3 * 3 := by omega
    rw [e'] at hu ⊢
    rw [g1] at hu
    rw [h1, hu]
  · have e' : j = j / 3 * 3 + 1 := by omega
    rw [e'] at hu ⊢
    rw [g2] at hu
    rw [← add_succ, h2, hu]
  · have e' : j = j / 3 * 3 + 2 := by omega
    rw [e'] at hu ⊢
    rw [g3] at hu
    rw [← add_two, h3, hu]

theorem cells_ms {w : World} {A : Option Addr} {c : List Mnt} (hc : ∀ j u, (cellsM c)[j]? = some u → ∃ a, A = some a ∧ a.block < w.heap.size ∧ w.cell? (a.add j) = some u) : Ms w w.heap.size A c := by
  intro j x hj
  obtain ⟨g1, g2, g3⟩ := cellsM_at c j x hj
  obtain ⟨a, ha, hlt, h1⟩ := hc _ _ g1
  obtain ⟨a', ha', _, h2⟩ := hc _ _ g2
  rw [ha] at ha'
  injection ha' with ha'
  subst ha'
  obtain ⟨a', ha', _, h3⟩ := hc _ _ g3
  rw [ha] at ha'
  injection ha' with ha'
  subst ha'
  exact ⟨a, ha, hlt, h1, by rw [add_succ]; exact h2, by rw [add_two]; exact h3⟩

theorem own_ms {w : World} {base : Nat} {v : Value} {c : List Mnt} (h : w.ownsRow base 32 3 v c.length (cellsM c)) : ∃ A cap, v = .slice A c.length cap ∧ (A = none → cap = 0) ∧ Ms w w.heap.size A c := by
  obtain ⟨A, cap, hv, hA, hc⟩ := own_slice h
  exact ⟨A, cap, hv, hA, cells_ms hc⟩

/-- A list of mints that is laid. -/
theorem ms_new (w : World) (l : List Mnt) (t : TypeId) : Ms (w.alloc (.cells (cellsM l).toArray t)) (w.alloc (.cells (cellsM l).toArray t)).heap.size (some ⟨w.heap.size, 0, none⟩) l := by
  refine cells_ms fun j u hu => ⟨_, rfl, by simp, ?_⟩
  have e : (⟨w.heap.size, 0, none⟩ : Addr).add j = ⟨w.heap.size, j, none⟩ := by unfold Addr.add; split <;> simp_all
  rw [e, (Box.new w (cellsM l) t).cell, hu]

set_option maxHeartbeats 1000000 in
theorem rsamen_any (A1 A2 : Option Addr) (c1 c2 : Nat) (l : List Int) (w : World) (h1 : Es (Value.int .u64) w w.heap.size A1 l) (h2 : Es (Value.int .u64) w w.heap.size A2 l) (hm : l.length ≤ maxLen) :
    Calls Try.prog 9 #[.slice A1 l.length c1, .slice A2 l.length c2] w fun e w' => e = .returned (.bool true) ∧ Below w.heap.size w w' := by
  unfold maxLen at hm
  have H1 := Lib.hid h1; clear h1
  have H2 := Lib.hid h2; clear h2
  go_enter Try.func9, Try.ntmps9
  go_wp2
  go_loopw [5] (fun i wr => ∃ k n : Nat, k ≤ l.length ∧ i = .int .i64 k ∧ wr = w.drewN n) (fun i _ => l.length - (intOf i).toNat)
  case atStart => exact ⟨0, 0, by omega, rfl, rfl⟩
  case round =>
    obtain ⟨k, n, hk, rfl, rfl⟩ := hrel
    by_cases hlt : k < l.length
    · obtain ⟨a1, rfl, hb1, hc1⟩ := H1.out k l[k] (List.getElem?_eq_getElem hlt)
      obtain ⟨a2, rfl, hb2, hc2⟩ := H2.out k l[k] (List.getElem?_eq_getElem hlt)
      generalize l[k] = x at *
      go_wp2
      go_quiet (fail)
      go_wp2
      go_roundw
      case rel => exact ⟨k + 1, _, by omega, by go_num, rfl⟩
      case measure => simp [intOf]; omega
    · go_wp2
      go_ret
      exact ⟨rfl, below_drewN (Below.refl _ _) _⟩

theorem info32 : (Try.prog.info? 32).map (fun i => (i.zero, i.size, i.bytes)) = some (some (.agg #[.int .u64 0, .int .u64 0, .int .i64 0]), 3, 24) := by kernel_rfl

set_option maxRecDepth 100000 in
/-- Mints behind mints. -/
theorem app_ms {ops : Array Oper} {rest : List Oper} {o : Oper} {a : Act} {Q : Exit → Act → World → Prop} (hgd : o.guard = none) (s x : Operand)
    (ho : o.op = .call { callee := .builtin .append, args := #[s, x], argTypes := #[22, 22] }) (w : World) (base : Nat) (hbase : base ≤ w.heap.size) (v : Value) (l0 : List Mnt) (hs : a.eval s = v)
    (hown : w.ownsRow base 32 3 v l0.length (cellsM l0)) (A : Option Addr) (n : Nat) (l : List Mnt) (hA : A = none → n = 0) (hx : a.eval x = .slice A l.length n) (hc : Ms w w.heap.size A l) (hl : l0.length + l.length ≤ 1000000)
    (h : ∀ v' w', w'.ownsRow base 32 3 v' (l0 ++ l).length (cellsM (l0 ++ l)) → w.grownBy w' v.ownBlock → wpList Try.prog ops Q rest (a.put o.dst v') w') :
    wpList Try.prog ops Q (o :: rest) a w := by
  obtain ⟨i0, hi, hz0, hz1, hz2⟩ := info_parts info32
  cases A with
  | none =>
    have hl0 : l = [] := by
      cases l with
      | nil => rfl
      | cons y t => obtain ⟨a', ha', _⟩ := hc 0 y rfl; cases ha'
    subst hl0
    rw [hA rfl] at hx
    rw [List.append_nil] at h
    exact wpList_append_own_none hgd s x 22 ho base 32 i0 3 Try.underlying22 hi v _ _ hs hown hx (h _ _ hown ⟨rfl, rfl, rfl, Nat.le_refl _, fun _ _ _ => rfl⟩)
  | some ad =>
    refine wpList_append_own _ hgd s x 22 ho base 32 i0 (.agg #[.int .u64 0, .int .u64 0, .int .i64 0]) 3 24 Try.underlying22 hi hz0 hz1 hz2 rfl (by decide) v _ _ hs hown ad l.length n (cellsM l) hx (cellsM_length l) (ms_cells hc)
      (cellsM_one l) (by unfold maxLen; omega) (by omega) hbase fun v' w' hown' hgrow _ => ?_
    rw [← cellsM_append, ← List.length_append] at hown'
    exact h v' w' hown' hgrow

theorem own_bare {e : TypeId} {size : Nat} (w : World) (base : Nat) (hb : base ≤ w.heap.size) : (w.alloc (.cells #[] e)).ownsRow base e size (.slice (some ⟨w.heap.size, 0, none⟩) 0 0) 0 [] :=
  ⟨by simp, Or.inr ⟨w.heap.size, 0, #[], rfl, hb, heap_alloc_new w _, Nat.le_refl _, by unfold maxLen; omega, by simp, by simp⟩⟩
end Go.Proofs.Ytpipindifeklbaa
