/- Lineage, plainly: mints as a list, a generation's line, and what becomes of it. No program, no condition but what each sentence names. -/
import Derived.WalkKit
namespace Go.Proofs.Ytpipindifeklbaa

/-- A mint: its generation, its parent, its node. -/
structure Mnt where
  g : Int
  p : Int
  k : Int

/-- The parent: of the first mint of a generation; 0: none. -/
def par : List Mnt → Int → Int
  | [], _ => 0
  | m :: t, g => if m.g = g then m.p else par t g

/-- A line, from a generation on, what stands in it already at hand. -/
def lineF (l : List Mnt) : Nat → List Int → Int → List Int
  | 0, out, _ => out
  | f + 1, out, g => if g = 0 ∨ g ∈ out then out else lineF l f (out ++ [g]) (par l g)

/-- As many steps as there may be. -/
def lineL (l : List Mnt) (g : Int) : List Int := lineF l (l.length + 2) [] g

theorem par_in {l : List Mnt} {g : Int} (h : par l g ≠ 0) : g ∈ l.map Mnt.g := by
  induction l with
  | nil => exact absurd rfl h
  | cons m t ih =>
    unfold par at h
    by_cases e : m.g = g
    · simp [e]
    · rw [if_neg e] at h
      exact List.mem_cons_of_mem _ (ih h)

/-- Numbers that are all different, each among others, are no more than those. -/
theorem few {s : List Int} : ∀ {t : List Int}, s.Nodup → (∀ x ∈ s, x ∈ t) → s.length ≤ t.length := by
  induction s with
  | nil => intro t _ _; simp
  | cons a s ih =>
    intro t hn hs
    have ha : a ∈ t := hs a (by simp)
    rw [List.nodup_cons] at hn
    have := ih (t := t.erase a) hn.2 fun x hx => (List.mem_erase_of_ne (fun (e : x = a) => hn.1 (by rw [← e]; exact hx))).2 (hs x (by simp [hx]))
    rw [List.length_erase_of_mem ha] at this
    have := List.length_pos_of_mem ha
    simp only [List.length_cons]
    omega

/-- What a line under way keeps: no two alike, none 0, and each has a parent but the last one. -/
def Under (l : List Mnt) (out : List Int) : Prop := out.Nodup ∧ (∀ x ∈ out, x ∈ l.map Mnt.g)

theorem under_few {l : List Mnt} {out : List Int} (h : Under l out) : out.length ≤ l.length := by
  have := few h.1 h.2
  simpa using this

/-- A step more: either the line goes on, or it ends at the next. -/
theorem under_step {l : List Mnt} {out : List Int} {g : Int} (h : Under l out) (hg : g ∉ out) (hp : par l g ≠ 0) : Under l (out ++ [g]) := by
  refine ⟨?_, fun x hx => ?_⟩
  · rw [List.nodup_append]
    exact ⟨h.1, by simp, fun a ha b hb e => by simp at hb; subst hb; subst e; exact hg ha⟩
  · rcases List.mem_append.1 hx with hx | hx
    · exact h.2 x hx
    · simp at hx; subst hx; exact par_in hp

/-- More steps than there are mints behind what stands there change nothing. -/
theorem lineF_more (l : List Mnt) : ∀ (f : Nat) (out : List Int) (g : Int), Under l out → l.length + 2 ≤ f + out.length → lineF l (f + 1) out g = lineF l f out g
  | 0, out, g, h, hf => by
    have := under_few h
    omega
  | f + 1, out, g, h, hf => by
    unfold lineF
    by_cases e : g = 0 ∨ g ∈ out
    · rw [if_pos e, if_pos e]
    · rw [if_neg e, if_neg e]
      have hg : g ∉ out := fun q => e (Or.inr q)
      by_cases hp : par l g = 0
      · rw [hp]
        cases f with
        | zero => simp [lineF]
        | succ f => simp [lineF]
      · exact lineF_more l f _ _ (under_step h hg hp) (by simp; omega)

theorem lineF_enough (l : List Mnt) (out : List Int) (g : Int) (h : Under l out) : ∀ (k f : Nat), l.length + 2 ≤ f + out.length → lineF l (f + k) out g = lineF l f out g
  | 0, _, _ => rfl
  | k + 1, f, hf => by
    rw [show f + (k + 1) = (f + k) + 1 from by omega, lineF_more l (f + k) out g h (by omega)]
    exact lineF_enough l out g h k f hf

theorem under_nil (l : List Mnt) : Under l [] := ⟨by simp, by simp⟩

/-- What stands in the line at the start stays ahead in it. -/
theorem lineF_ahead (l : List Mnt) : ∀ (f : Nat) (out : List Int) (g : Int), ∃ r, lineF l f out g = out ++ r
  | 0, out, _ => ⟨[], by simp [lineF]⟩
  | f + 1, out, g => by
    unfold lineF
    by_cases e : g = 0 ∨ g ∈ out
    · rw [if_pos e]; exact ⟨[], by simp⟩
    · rw [if_neg e]
      obtain ⟨r, h⟩ := lineF_ahead l f (out ++ [g]) (par l g)
      exact ⟨g :: r, by rw [h]; simp⟩

/-- A line begins with its generation. -/
theorem line_first (l : List Mnt) {g : Int} (h : g ≠ 0) : ∃ r, lineL l g = g :: r := by
  unfold lineL
  obtain ⟨r, e⟩ := lineF_ahead l (l.length + 1) ([] ++ [g]) (par l g)
  refine ⟨r, ?_⟩
  rw [show l.length + 2 = (l.length + 1) + 1 from rfl]
  unfold lineF
  rw [if_neg (by simp [h]), e]
  simp

/-- The first one of a list that stands in another one; 0, if there is none. -/
def firstIn : List Int → List Int → Int
  | [], _ => 0
  | a :: t, y => if a ∈ y then a else firstIn t y

theorem firstIn_mem {x y : List Int} (h : firstIn x y ≠ 0) : firstIn x y ∈ x ∧ firstIn x y ∈ y := by
  induction x with
  | nil => exact absurd rfl h
  | cons a t ih =>
    unfold firstIn at h ⊢
    by_cases e : a ∈ y
    · rw [if_pos e]; exact ⟨by simp, e⟩
    · rw [if_neg e] at h ⊢
      exact ⟨List.mem_cons_of_mem _ (ih h).1, (ih h).2⟩

theorem firstIn_some {x y : List Int} (h0 : ∀ a ∈ x, a ≠ 0) {a : Int} (hx : a ∈ x) (hy : a ∈ y) : firstIn x y ≠ 0 := by
  induction x with
  | nil => simp at hx
  | cons b t ih =>
    unfold firstIn
    by_cases e : b ∈ y
    · rw [if_pos e]; exact h0 b (by simp)
    · rw [if_neg e]
      rcases List.mem_cons.1 hx with rfl | hx
      · exact absurd hy e
      · exact ih (fun c hc => h0 c (List.mem_cons_of_mem _ hc)) hx

theorem lineF_nonzero (l : List Mnt) : ∀ (f : Nat) (out : List Int) (g : Int), (∀ x ∈ out, x ≠ 0) → ∀ x ∈ lineF l f out g, x ≠ 0
  | 0, out, _, h => by unfold lineF; exact h
  | f + 1, out, g, h => by
    unfold lineF
    by_cases e : g = 0 ∨ g ∈ out
    · rw [if_pos e]; exact h
    · rw [if_neg e]
      refine lineF_nonzero l f _ _ fun x hx => ?_
      rcases List.mem_append.1 hx with hx | hx
      · exact h x hx
      · simp at hx; subst hx; exact fun q => e (Or.inl q)

theorem line_nonzero (l : List Mnt) (g : Int) : ∀ x ∈ lineL l g, x ≠ 0 := lineF_nonzero l _ _ _ (by simp)

/-- Neither in the other one's line. -/
def apartB (l : List Mnt) (a b : Int) : Bool := !decide (a ∈ lineL l b) && !decide (b ∈ lineL l a)
def commonI (l : List Mnt) (a b : Int) : Int := firstIn (lineL l a) (lineL l b)

/-- Where nothing is common, they are apart. -/
theorem common_none (l : List Mnt) {a b : Int} (ha : a ≠ 0) (hb : b ≠ 0) (h : commonI l a b = 0) : apartB l a b = true := by
  obtain ⟨r, hr⟩ := line_first l ha
  obtain ⟨s, hs⟩ := line_first l hb
  have h1 : a ∉ lineL l b := fun q => firstIn_some (line_nonzero l a) (a := a) (by rw [hr]; simp) q h
  have h2 : b ∉ lineL l a := fun q => firstIn_some (line_nonzero l a) (a := b) q (by rw [hs]; simp) h
  simp [apartB, h1, h2]

/-- Where two are apart, each has something ahead of what is common. -/
theorem common_apart (l : List Mnt) {a b : Int} (h : commonI l a b ≠ 0) (hq : apartB l a b = true) : commonI l a b ≠ a ∧ commonI l a b ≠ b := by
  obtain ⟨h1, h2⟩ := firstIn_mem h
  unfold apartB at hq
  simp at hq
  exact ⟨fun e => hq.1 (e ▸ h2), fun e => hq.2 (e ▸ h1)⟩

/-! A generation that nobody knows yet. -/

theorem par_more {l : List Mnt} {m : Mnt} {g : Int} (h : g ≠ m.g) : par (l ++ [m]) g = par l g := by
  induction l with
  | nil =>
    have e : ¬ m.g = g := fun e => h e.symm
    simp [par, e]
  | cons x t ih => simp only [List.cons_append, par, ih]

theorem par_new {l : List Mnt} {m : Mnt} (h : m.g ∉ l.map Mnt.g) : par (l ++ [m]) m.g = m.p := by
  induction l with
  | nil => simp [par]
  | cons x t ih =>
    simp only [List.map_cons, List.mem_cons, not_or] at h
    simp only [List.cons_append, par]
    rw [if_neg (fun e => h.1 e.symm), ih h.2]

theorem par_parent {l : List Mnt} {g : Int} (h : par l g ≠ 0) : par l g ∈ l.map Mnt.p := by
  induction l with
  | nil => exact absurd rfl h
  | cons x t ih =>
    unfold par at h ⊢
    by_cases e : x.g = g
    · rw [if_pos e]; simp
    · rw [if_neg e] at h ⊢
      exact List.mem_cons_of_mem _ (ih h)

/-- No other line is changed. -/
theorem lineF_old {l : List Mnt} {m : Mnt} (h0 : m.g ≠ 0) (hp : m.g ∉ l.map Mnt.p) : ∀ (f : Nat) (out : List Int) (g : Int), g ≠ m.g → lineF (l ++ [m]) f out g = lineF l f out g
  | 0, _, _, _ => rfl
  | f + 1, out, g, hg => by
    unfold lineF
    by_cases e : g = 0 ∨ g ∈ out
    · rw [if_pos e, if_pos e]
    · rw [if_neg e, if_neg e, par_more hg]
      refine lineF_old h0 hp f _ _ fun q => ?_
      exact hp (q ▸ par_parent (fun z => h0 (q ▸ z)))

theorem line_old {l : List Mnt} {m : Mnt} (h0 : m.g ≠ 0) (hp : m.g ∉ l.map Mnt.p) {g : Int} (hg : g ≠ m.g) : lineL (l ++ [m]) g = lineL l g := by
  unfold lineL
  rw [lineF_old h0 hp _ _ _ hg]
  have := lineF_enough l [] g (under_nil l) 1 (l.length + 2) (by simp)
  simpa using this

/-- What stands ahead of a line and isn't met again changes nothing behind it. -/
theorem lineF_front {l : List Mnt} {a : Int} (ha : a ≠ 0) (hp : a ∉ l.map Mnt.p) : ∀ (f : Nat) (out : List Int) (g : Int), g ≠ a → lineF l f (a :: out) g = a :: lineF l f out g
  | 0, _, _, _ => rfl
  | f + 1, out, g, hg => by
    unfold lineF
    by_cases e : g = 0 ∨ g ∈ out
    · rw [if_pos e, if_pos (by rcases e with e | e <;> simp [e])]
    · rw [if_neg e, if_neg (by simp only [List.mem_cons, not_or] at e ⊢; exact ⟨e.1, hg, e.2⟩)]
      refine lineF_front ha hp f _ _ fun q => ?_
      exact hp (q ▸ par_parent (fun z => ha (q ▸ z)))

/-- The line of the new one: itself, and its parent's line behind it. -/
theorem line_new {l : List Mnt} {m : Mnt} (h0 : m.g ≠ 0) (hg : m.g ∉ l.map Mnt.g) (hp : m.g ∉ l.map Mnt.p) (hq : m.p ≠ m.g) : lineL (l ++ [m]) m.g = m.g :: lineL l m.p := by
  unfold lineL
  simp only [List.length_append, List.length_cons, List.length_nil]
  rw [show l.length + (0 + 1) + 2 = (l.length + 2) + 1 from by omega]
  conv => lhs; unfold lineF
  rw [if_neg (by simp [h0]), par_new hg, lineF_old h0 hp _ _ _ hq]
  exact lineF_front h0 hp _ [] _ hq

/-- May they be? -/
def rightL : List Mnt → Bool
  | [] => true
  | m :: t => !decide (m.g = 0) && !decide (m.g ∈ t.map Mnt.g) && rightL t

theorem right_more {l : List Mnt} {m : Mnt} (h0 : m.g ≠ 0) (hg : m.g ∉ l.map Mnt.g) : rightL (l ++ [m]) = rightL l := by
  induction l with
  | nil => simp [rightL, h0]
  | cons x t ih =>
    simp only [List.map_cons, List.mem_cons, not_or] at hg
    simp only [List.cons_append, rightL, ih hg.2, List.map_append, List.map_cons, List.map_nil]
    congr 2
    simp only [List.mem_append, List.mem_cons, List.not_mem_nil, or_false]
    have e : ¬ x.g = m.g := fun e => hg.1 e.symm
    simp [e]

end Go.Proofs.Ytpipindifeklbaa
