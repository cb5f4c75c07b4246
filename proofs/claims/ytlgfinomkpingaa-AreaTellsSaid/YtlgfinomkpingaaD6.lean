/- Disks: what a sector holds, what is sure once writes have come to it, what is kept: plainly; and rows of texts and of writes in memory of the call's own. No condition. -/
import Derived.Test.YtlgfinomkpingaaD4
namespace Go.Proofs.Ytlgfinomkpingaa
open Go.RowKit

abbrev Wr := Int × ByteArray
/-- What sector i holds, d being what it surely holds. -/
def holdsL (c : List Wr) (i : Int) (d : ByteArray) : ByteArray := c.foldl (fun t x => if x.1 = i then x.2 else t) d
/-- What is sure once writes have come to it, one by one. -/
def layL (s : List ByteArray) (c : List Wr) : List ByteArray := c.foldl (fun t x => t.set x.1.toNat x.2) s
/-- Of the first k writes those that are kept. -/
def keptL (c : List Wr) (keeps : List Bool) : Nat → List Wr
  | 0 => []
  | k + 1 => keptL c keeps k ++ (match c[k]? with | some x => if keeps.getD k false = true then [x] else [] | none => [])

theorem holds_nil (i : Int) (d : ByteArray) : holdsL [] i d = d := rfl
theorem holds_snoc (c : List Wr) (x : Wr) (i : Int) (d : ByteArray) : holdsL (c ++ [x]) i d = if x.1 = i then x.2 else holdsL c i d := by unfold holdsL; rw [List.foldl_append]; rfl
theorem lay_nil (s : List ByteArray) : layL s [] = s := rfl
theorem lay_snoc (s : List ByteArray) (c : List Wr) (x : Wr) : layL s (c ++ [x]) = (layL s c).set x.1.toNat x.2 := by unfold layL; rw [List.foldl_append]; rfl
theorem lay_append (s : List ByteArray) (c d : List Wr) : layL s (c ++ d) = layL (layL s c) d := by unfold layL; rw [List.foldl_append]
theorem lay_length (c : List Wr) : ∀ s : List ByteArray, (layL s c).length = s.length := by
  induction c with
  | nil => intro s; rfl
  | cons x c ih => intro s; show (layL (s.set x.1.toNat x.2) c).length = _; rw [ih, List.length_set]
theorem kept_zero (c : List Wr) (keeps : List Bool) : keptL c keeps 0 = [] := rfl
theorem kept_yes {c : List Wr} {keeps : List Bool} {k : Nat} (h : k < c.length) (hk : keeps.getD k false = true) : keptL c keeps (k + 1) = keptL c keeps k ++ [c[k]] := by
  simp only [keptL]; rw [List.getElem?_eq_getElem h]; simp only [hk, if_true]
theorem kept_no {c : List Wr} {keeps : List Bool} {k : Nat} (hk : keeps.getD k false = false) : keptL c keeps (k + 1) = keptL c keeps k := by
  simp only [keptL]
  cases c[k]? with
  | none => simp
  | some x => simp only [hk]; simp
theorem kept_over (c : List Wr) (keeps : List Bool) : ∀ k, keeps.length ≤ k → keptL c keeps k = keptL c keeps keeps.length := by
  intro k h
  induction k with
  | zero => have : keeps.length = 0 := by omega
            rw [this]
  | succ k ih =>
    by_cases e : keeps.length = k + 1
    · rw [e]
    · rw [kept_no (by rw [List.getD_eq_getElem?_getD, List.getElem?_eq_none (by omega)]; rfl), ih (by omega)]
theorem kept_mem (c : List Wr) (keeps : List Bool) : ∀ k x, x ∈ keptL c keeps k → x ∈ c := by
  intro k
  induction k with
  | zero => intro x h; cases h
  | succ k ih =>
    intro x h
    simp only [keptL, List.mem_append] at h
    rcases h with h | h
    · exact ih x h
    · cases hc : c[k]? with
      | none => rw [hc] at h; cases h
      | some y =>
        rw [hc] at h
        simp only at h
        split at h
        · rw [List.mem_singleton] at h
          subst h
          exact List.mem_of_getElem? hc
        · cases h
theorem kept_length (c : List Wr) (keeps : List Bool) : ∀ k, (keptL c keeps k).length ≤ k := by
  intro k
  induction k with
  | zero => exact Nat.le_refl _
  | succ k ih =>
    simp only [keptL, List.length_append]
    cases c[k]? with
    | none => simp; omega
    | some x => simp only; split <;> simp <;> omega

theorem fits {n : Nat} {c : List Wr} (h : c.any (misfitW n) = false) : ∀ x ∈ c, 0 ≤ x.1 ∧ x.1 < n ∧ x.2.size ≤ 64 := by
  intro x hx
  have := List.any_eq_false.1 h x hx
  unfold misfitW longS at this
  simp only [Bool.or_eq_true, decide_eq_true_eq, not_or] at this
  omega

/-- Sector j, once the writes have come to it, holds what the last of them says. -/
theorem lay_at : ∀ (c : List Wr) (s : List ByteArray) (j : Nat) (h : j < s.length), (∀ x ∈ c, 0 ≤ x.1) → (layL s c)[j]? = some (holdsL c j s[j]) := by
  intro c
  induction c with
  | nil => intro s j h _; rw [lay_nil, holds_nil, List.getElem?_eq_getElem h]
  | cons x c ih =>
    intro s j h hx
    show (layL (s.set x.1.toNat x.2) c)[j]? = _
    rw [ih (s.set x.1.toNat x.2) j (by rw [List.length_set]; exact h) fun y hy => hx y (List.mem_cons_of_mem _ hy)]
    congr 1
    show _ = holdsL c j (if x.1 = (j : Int) then x.2 else s[j])
    have h0 := hx x (List.mem_cons_self ..)
    rw [List.getElem_set]
    by_cases e : x.1 = (j : Int)
    · rw [if_pos e, if_pos (by omega)]
    · rw [if_neg e, if_neg (by omega)]

theorem lay_is (c : List Wr) (s t : List ByteArray) (hx : ∀ x ∈ c, 0 ≤ x.1) (hl : t.length = s.length) (h : ∀ j (hj : j < s.length), t[j]? = some (holdsL c j s[j])) : t = layL s c := by
  apply List.ext_getElem?
  intro j
  by_cases hj : j < s.length
  · rw [h j hj, lay_at c s j hj hx]
  · rw [List.getElem?_eq_none (by omega), List.getElem?_eq_none (by rw [lay_length]; omega)]

/-- Behind a crash a sector holds what it held, or one of its writes. -/
theorem holds_one (c : List Wr) (i : Int) (d : ByteArray) : holdsL c i d = d ∨ ∃ x ∈ c, x.1 = i ∧ x.2 = holdsL c i d := by
  induction c generalizing d with
  | nil => exact .inl rfl
  | cons x c ih =>
    show holdsL c i (if x.1 = i then x.2 else d) = d ∨ _
    rcases ih (if x.1 = i then x.2 else d) with h | ⟨y, hy, e1, e2⟩
    · by_cases e : x.1 = i
      · right
        refine ⟨x, List.mem_cons_self .., e, ?_⟩
        show x.2 = holdsL c i (if x.1 = i then x.2 else d)
        rw [h, if_pos e]
      · left; rw [h, if_neg e]
    · right; exact ⟨y, List.mem_cons_of_mem _ hy, e1, e2⟩

/-- The cells of a row of writes. -/
def cellsW (c : List Wr) : List Value := c.flatMap fun x => [.int .i64 x.1, .string x.2]
theorem cellsW_nil : cellsW [] = [] := rfl
theorem cellsW_append (c d : List Wr) : cellsW (c ++ d) = cellsW c ++ cellsW d := by unfold cellsW; rw [List.flatMap_append]
theorem cellsW_length (c : List Wr) : (cellsW c).length = c.length * 2 := by
  induction c with
  | nil => rfl
  | cons x c ih => show (cellsW c).length + 2 = (c.length + 1) * 2; rw [ih]; omega
theorem cellsW_at : ∀ (c : List Wr) (j : Nat) (x : Wr), c[j]? = some x → (cellsW c)[j * 2]? = some (.int .i64 x.1) ∧ (cellsW c)[j * 2 + 1]? = some (.string x.2) := by
  intro c
  induction c with
  | nil => intro j x h; simp at h
  | cons y c ih =>
    intro j x h
    cases j with
    | zero => simp at h; subst h; exact ⟨rfl, rfl⟩
    | succ j =>
      obtain ⟨h1, h2⟩ := ih j x (by simpa using h)
      have e : (j + 1) * 2 = j * 2 + 1 + 1 := by omega
      rw [e]
      exact ⟨h1, h2⟩
theorem cellsW_one (c : List Wr) : ∀ u ∈ cellsW c, u.oneCell' = true := by
  intro u hu
  obtain ⟨x, _, h⟩ := List.mem_flatMap.1 hu
  simp at h
  rcases h with rfl | rfl <;> rfl
theorem ws_cells {w : World} {D : Nat} {a : Addr} {c : List Wr} (h : Ws w D (some a) c) : ∀ j u, (cellsW c)[j]? = some u → w.cell? (a.add j) = some u := by
  intro j u hu
  have hj : j / 2 < c.length := by
    have := (List.getElem?_eq_some_iff.1 hu).1
    rw [cellsW_length] at this
    omega
  obtain ⟨a', ha, _, h1, h2⟩ := h (j / 2) c[j / 2] (List.getElem?_eq_getElem hj)
  injection ha with ha
  subst ha
  obtain ⟨g1, g2⟩ := cellsW_at c (j / 2) c[j / 2] (List.getElem?_eq_getElem hj)
  rcases Nat.mod_two_eq_zero_or_one j with e | e
  · have e' : j = j / 2 * 2 := by omega
    rw [e'] at hu ⊢
    rw [g1] at hu
    rw [h1, hu]
  · have e' : j = j / 2 * 2 + 1 := by omega
    rw [e'] at hu ⊢
    rw [g2] at hu
    rw [← add_succ, h2, hu]

theorem own_ws {w : World} {base : Nat} {v : Value} {c : List Wr} (h : w.ownsRow base 43 2 v c.length (cellsW c)) : ∃ A cap, v = .slice A c.length cap ∧ (A = none → cap = 0) ∧ Ws w w.heap.size A c := by
  obtain ⟨A, cap, hv, hA, hc⟩ := own_slice h
  refine ⟨A, cap, hv, hA, fun j x hj => ?_⟩
  obtain ⟨g1, g2⟩ := cellsW_at c j x hj
  obtain ⟨a, ha, hlt, h1⟩ := hc _ _ g1
  obtain ⟨a', ha', _, h2⟩ := hc _ _ g2
  rw [ha] at ha'
  injection ha' with ha'
  subst ha'
  exact ⟨a, ha, hlt, h1, by rw [add_succ]; exact h2⟩
end Go.Proofs.Ytlgfinomkpingaa
