/- Rule: the verdict by the document's way is the code's; and what a verdict keeps: plain facts about numbers. No condition but that currents aren't 0. -/
import Derived.Test.YtkjikigimmchlaaGreatDoorRX
namespace Go.Proofs.YtkjikigimmchlaaGreatDoor
open Go.RowKit
theorem place_zero (c b o p g : Int) (h : g ≠ 0) : placeI c b o p g = 0 ↔ c = g := by
  constructor
  · intro e
    by_cases hc : c = g
    · exact hc
    · rcases place_range c b o p g hc with h | h | h | h <;> omega
  · intro e
    unfold placeI
    rw [if_neg h]
    simp [idxF, e]
theorem place_five (c b o p g : Int) : placeI c b o p g = -1 ∨ placeI c b o p g = 0 ∨ placeI c b o p g = 1 ∨ placeI c b o p g = 2 ∨ placeI c b o p g = 3 := by
  by_cases hc : c = g
  · by_cases h0 : g = 0
    · left; unfold placeI; rw [if_pos h0]
    · right; left; exact (place_zero c b o p g h0).2 hc
  · rcases place_range c b o p g hc with h | h | h | h <;> simp [h]
theorem dec_none {x y : Hel} (h : srcI x y = -1) : decK x y = 4 ∧ decS x y = -1 := by
  unfold decS decK; simp [h]
theorem dec_first {x y : Hel} (h : srcI x y = 0) : decK x y = kindI x y ∧ decS x y = if kindI x y = 4 then -1 else if kindI x y = 1 then -1 else 0 := by
  unfold decS decK; simp [h]
theorem dec_second {x y : Hel} (h : srcI x y = 1) : decK x y = kindI y x ∧ decS x y = if kindI y x = 4 then -1 else if kindI y x = 1 then -1 else 1 := by
  unfold decS decK; simp [h]
theorem neg_le (u : Int) : decide (u < 0) = !decide (0 ≤ u) := by
  by_cases h : 0 ≤ u
  · rw [decide_eq_true h, decide_eq_false (by omega)]; rfl
  · rw [decide_eq_false h, decide_eq_true (by omega)]; rfl
theorem kind_half {s t : Hel} (k : Int) (hi : t.i = true) (hd : s.d = false) : ontoP (rhalfI s t) k t.q = (kindI s t, if kindI s t = 4 then -1 else if kindI s t = 1 then -1 else k) := by
  unfold kindI ontoP rhalfI byPlace
  have h5 : plH s t.c = -1 ∨ plH s t.c = 0 ∨ plH s t.c = 1 ∨ plH s t.c = 2 ∨ plH s t.c = 3 := place_five s.c s.b s.o s.p t.c
  simp only [hi, hd, neg_le]
  generalize plH s t.c = v at *
  generalize plH s t.b = u at *
  cases t.q <;> cases t.d <;> by_cases hu : 0 ≤ u <;> rcases h5 with rfl | rfl | rfl | rfl | rfl <;> simp [hu]
theorem kind_half_dis {s t : Hel} (k : Int) (hi : t.i = true) (hd : s.d = true) : ontoP (rhalfI s t) k t.q = (kindI s t, if kindI s t = 4 then -1 else if kindI s t = 1 then -1 else k) := by
  unfold kindI ontoP rhalfI
  simp only [hi, hd]
  cases t.q <;> simp
theorem kind_half_any {s t : Hel} (k : Int) (hi : t.i = true) : ontoP (rhalfI s t) k t.q = (kindI s t, if kindI s t = 4 then -1 else if kindI s t = 1 then -1 else k) := by
  cases hd : s.d
  · exact kind_half k hi hd
  · exact kind_half_dis k hi hd
theorem kind_dis {s t : Hel} (k : Int) (hi : t.i = false) (hd : t.d = true) : ontoP 3 k t.q = (kindI s t, if kindI s t = 4 then -1 else if kindI s t = 1 then -1 else k) := by
  unfold kindI ontoP
  simp only [hi, hd]
  cases t.q <;> simp
theorem kind_like {s t : Hel} (hi : t.i = false) (hd : t.d = false) (hp : plH s t.c = 0) (hq : t.q = false) : kindI s t = (if s.m = 0 ∧ t.m = 0 then 1 else 2) := by
  unfold kindI byPlace
  simp [hi, hd, hp, hq]
theorem kind_place {s t : Hel} (k : Int) (hi : t.i = false) (hd : t.d = false) (hp : 0 < plH s t.c) : ontoP (tabI (plH s t.c)) k t.q = (kindI s t, if kindI s t = 4 then -1 else if kindI s t = 1 then -1 else k) := by
  have h5 : plH s t.c = -1 ∨ plH s t.c = 0 ∨ plH s t.c = 1 ∨ plH s t.c = 2 ∨ plH s t.c = 3 := place_five s.c s.b s.o s.p t.c
  unfold kindI ontoP tabI byPlace
  simp only [hi, hd]
  generalize plH s t.c = v at *
  cases t.q <;> rcases h5 with rfl | rfl | rfl | rfl | rfl <;> first | omega | simp
theorem dec_eq (x y : Hel) (hx : x.c ≠ 0) (hy : y.c ≠ 0) : rdP x y = (decK x y, decS x y) := by
  have p0 : plH x y.c = 0 ↔ x.c = y.c := place_zero x.c x.b x.o x.p y.c hy
  have r0 : plH y x.c = 0 ↔ y.c = x.c := place_zero y.c y.b y.o y.p x.c hx
  have p5 : plH x y.c = -1 ∨ plH x y.c = 0 ∨ plH x y.c = 1 ∨ plH x y.c = 2 ∨ plH x y.c = 3 := place_five x.c x.b x.o x.p y.c
  have r5 : plH y x.c = -1 ∨ plH y x.c = 0 ∨ plH y x.c = 1 ∨ plH y x.c = 2 ∨ plH y x.c = 3 := place_five y.c y.b y.o y.p x.c
  by_cases hn : x.n = y.n
  case neg =>
    obtain ⟨a, b⟩ := dec_none (x := x) (y := y) (by unfold srcI; rw [if_pos hn])
    rw [a, b]; unfold rdP; rw [if_pos hn]
  by_cases hq : (x.q && y.q) = true
  case pos =>
    obtain ⟨a, b⟩ := dec_none (x := x) (y := y) (by unfold srcI; simp [hn, hq])
    rw [a, b]; unfold rdP; simp [hn, hq]
  by_cases hi : (x.i && y.i) = true
  case pos =>
    obtain ⟨a, b⟩ := dec_none (x := x) (y := y) (by unfold srcI; simp [hn, hi])
    rw [a, b]; unfold rdP; simp [hn, hi]
  by_cases hd : (x.d && y.d) = true
  case pos =>
    obtain ⟨a, b⟩ := dec_none (x := x) (y := y) (by unfold srcI; simp [hn, hd])
    rw [a, b]; unfold rdP; simp [hn, hd]
  have hr : rdP x y = if x.i then ontoP (rhalfI y x) 1 x.q else if y.i then ontoP (rhalfI x y) 0 y.q
      else if x.d then ontoP 3 1 x.q else if y.d then ontoP 3 0 y.q
      else if x.c = y.c then
        if x.m = 0 ∧ y.m = 0 then (1, -1) else if y.q || (!x.q && y.r && !x.r) then ontoP 2 1 x.q else ontoP 2 0 y.q
      else if 0 < plH x y.c ∧ plH y x.c < 0 then ontoP (tabI (plH x y.c)) 0 y.q
      else if 0 < plH y x.c ∧ plH x y.c < 0 then ontoP (tabI (plH y x.c)) 1 x.q else (4, -1) := by
    unfold rdP; rw [if_neg (by simpa using hn), if_neg hq, if_neg hi, if_neg hd]
  have hs : srcI x y = if x.i || y.i then fstI y.i else if x.d || y.d then fstI y.d else if x.c = y.c then likeI x y
      else if knowsB x y != knowsB y x then fstI (knowsB x y) else -1 := by
    unfold srcI; rw [if_neg (by simpa using hn), if_neg hq, if_neg hi, if_neg hd]
  rw [hr]
  cases xi : x.i
  case true =>
    have yi : y.i = false := by rw [xi] at hi; simpa using hi
    obtain ⟨a, b⟩ := dec_second (x := x) (y := y) (by rw [hs]; simp [xi, yi, fstI])
    rw [a, b, if_pos rfl, kind_half_any 1 xi]
  cases yi : y.i
  case true =>
    obtain ⟨a, b⟩ := dec_first (x := x) (y := y) (by rw [hs]; simp [xi, yi, fstI])
    rw [a, b, if_neg (by simp), if_pos rfl, kind_half_any 0 yi]
  cases xd : x.d
  case true =>
    have yd : y.d = false := by rw [xd] at hd; simpa using hd
    obtain ⟨a, b⟩ := dec_second (x := x) (y := y) (by rw [hs]; simp [xi, yi, xd, yd, fstI])
    rw [a, b]; simp [kind_dis (s := y) 1 xi xd]
  cases yd : y.d
  case true =>
    obtain ⟨a, b⟩ := dec_first (x := x) (y := y) (by rw [hs]; simp [xi, yi, xd, yd, fstI])
    rw [a, b]; simp [kind_dis (s := x) 0 yi yd]
  by_cases hc : x.c = y.c
  · have p1 := p0.2 hc
    have r1 := r0.2 hc.symm
    have hl : srcI x y = likeI x y := by rw [hs]; simp [xi, yi, xd, yd, hc]
    unfold likeI at hl
    have k1 := fun h => kind_like (s := x) (t := y) yi yd p1 h
    have k2 := fun h => kind_like (s := y) (t := x) xi xd r1 h
    simp only [Bool.false_eq_true, if_false, if_pos hc]
    cases xq : x.q <;> cases yq : y.q
    · by_cases hm : x.m = 0 ∧ y.m = 0
      · have hm' : y.m = 0 ∧ x.m = 0 := ⟨hm.2, hm.1⟩
        rw [if_pos hm] at k1 ⊢
        rw [if_pos hm'] at k2
        have e1 := k1 yq
        have e2 := k2 xq
        cases h : (x.r || !y.r)
        · obtain ⟨a, b⟩ := dec_second (x := x) (y := y) (by rw [hl]; simp [xq, yq, h, fstI])
          rw [a, b, e2]; simp
        · obtain ⟨a, b⟩ := dec_first (x := x) (y := y) (by rw [hl]; simp [xq, yq, h, fstI])
          rw [a, b, e1]; simp
      · have hm' : ¬ (y.m = 0 ∧ x.m = 0) := fun h => hm ⟨h.2, h.1⟩
        rw [if_neg hm] at k1 ⊢
        rw [if_neg hm'] at k2
        have e1 := k1 yq
        have e2 := k2 xq
        cases xr : x.r <;> cases yr : y.r
        · obtain ⟨a, b⟩ := dec_first (x := x) (y := y) (by rw [hl]; simp [xq, yq, xr, yr, fstI])
          rw [a, b, e1]; simp [ontoP]
        · obtain ⟨a, b⟩ := dec_second (x := x) (y := y) (by rw [hl]; simp [xq, yq, xr, yr, fstI])
          rw [a, b, e2]; simp [ontoP]
        · obtain ⟨a, b⟩ := dec_first (x := x) (y := y) (by rw [hl]; simp [xq, yq, xr, yr, fstI])
          rw [a, b, e1]; simp [ontoP]
        · obtain ⟨a, b⟩ := dec_first (x := x) (y := y) (by rw [hl]; simp [xq, yq, xr, yr, fstI])
          rw [a, b, e1]; simp [ontoP]
    · obtain ⟨a, b⟩ := dec_second (x := x) (y := y) (by rw [hl]; simp [xq, yq, fstI])
      have e2 := k2 xq
      rw [a, b, e2]
      by_cases hm : x.m = 0 ∧ y.m = 0
      · have hm' : y.m = 0 ∧ x.m = 0 := ⟨hm.2, hm.1⟩
        simp [hm.1, hm.2]
      · have hm' : ¬ (y.m = 0 ∧ x.m = 0) := fun h => hm ⟨h.2, h.1⟩
        rw [if_neg hm, if_neg hm']; simp [ontoP]
    · obtain ⟨a, b⟩ := dec_first (x := x) (y := y) (by rw [hl]; simp [xq, yq, fstI])
      have e1 := k1 yq
      rw [a, b, e1]
      by_cases hm : x.m = 0 ∧ y.m = 0
      · simp [hm.1, hm.2]
      · simp only [if_neg hm]; simp [ontoP]
    · rw [xq, yq] at hq; simp at hq
  · have pn : ¬ plH x y.c = 0 := fun h => hc (p0.1 h)
    have rn : ¬ plH y x.c = 0 := fun h => hc (r0.1 h).symm
    simp only [Bool.false_eq_true, if_false, if_neg hc]
    have hk : srcI x y = if knowsB x y != knowsB y x then fstI (knowsB x y) else -1 := by rw [hs]; simp [xi, yi, xd, yd, hc]
    unfold knowsB at hk
    rw [neg_le, neg_le] at hk
    by_cases hp : 0 ≤ plH x y.c <;> by_cases hr2 : 0 ≤ plH y x.c
    · rw [if_neg (by omega), if_neg (by omega)]
      obtain ⟨a, b⟩ := dec_none (x := x) (y := y) (by rw [hk]; simp [hp, hr2])
      rw [a, b]
    · rw [if_pos ⟨by omega, by omega⟩, kind_place 0 yi yd (by omega)]
      obtain ⟨a, b⟩ := dec_first (x := x) (y := y) (by rw [hk]; simp [hp, hr2, fstI])
      rw [a, b]
    · rw [if_neg (by omega), if_pos ⟨by omega, by omega⟩, kind_place 1 xi xd (by omega)]
      obtain ⟨a, b⟩ := dec_second (x := x) (y := y) (by rw [hk]; simp [hp, hr2, fstI])
      rw [a, b]
    · rw [if_neg (by omega), if_neg (by omega)]
      obtain ⟨a, b⟩ := dec_none (x := x) (y := y) (by rw [hk]; simp [hp, hr2])
      rw [a, b]
def tgtI (s : Int) : Int := if s = 0 then 1 else if s = 1 then 0 else -1
theorem src_turn (x y : Hel) : (srcI y x = tgtI (srcI x y) ∧ (srcI x y = -1 ∨ srcI x y = 0 ∨ srcI x y = 1)) ∨ (srcI x y = 0 ∧ srcI y x = 0 ∧ x.c = y.c ∧ x.q = false ∧ y.q = false ∧ x.r = y.r ∧ x.i = false ∧ y.i = false ∧ x.d = false ∧ y.d = false) := by
  unfold srcI likeI tgtI fstI
  by_cases hn : x.n = y.n
  case neg => left; rw [if_pos hn, if_pos (fun h => hn h.symm)]; simp
  simp only [hn, ne_eq, not_true_eq_false, if_false]
  cases x.i <;> cases y.i <;> cases x.d <;> cases y.d <;> cases x.q <;> cases y.q <;> simp
  all_goals
    by_cases hc : x.c = y.c
    · simp only [hc, if_true]
      cases x.r <;> cases y.r <;> simp
    · rw [if_neg hc, if_neg (fun h => hc h.symm)]
      cases knowsB x y <;> cases knowsB y x <;> simp [hc]
theorem kind_not (s t : Hel) : kindI s t = 1 ∨ kindI s t = 2 ∨ kindI s t = 3 ∨ kindI s t = 4 := by
  unfold kindI byPlace
  split
  · simp
  · split
    · simp
    · split
      · simp
      · split
        · simp
        · split
          · split <;> simp
          · split
            · simp
            · split
              · simp
              · split <;> simp
theorem kind_copied {s t : Hel} (h : kindI s t = 2 ∨ kindI s t = 3) : t.q = false ∧ (t.i && s.d) = false ∧ (t.d = true ∨ t.i = true ∨ 0 ≤ plH s t.c) := by
  revert h
  unfold kindI byPlace
  cases t.q <;> cases t.i <;> cases s.d <;> cases t.d <;> simp
  all_goals
    generalize plH s t.c = v
    intro h
    by_cases g : 0 ≤ v
    · exact g
    · rw [if_neg (by omega), if_neg (by omega), if_neg (by omega), if_neg (by omega)] at h
      omega
theorem src_first {x y : Hel} (h : srcI x y = 0) : x.n = y.n ∧ x.i = false ∧ (y.i = true ∨ x.d = false) := by
  revert h
  unfold srcI
  by_cases hn : x.n = y.n
  case neg => rw [if_pos hn]; intro h; omega
  simp only [hn, ne_eq, not_true_eq_false, if_false]
  cases x.q <;> cases y.q <;> cases x.i <;> cases y.i <;> cases x.d <;> cases y.d <;> simp [fstI]
theorem src_second {x y : Hel} (h : srcI x y = 1) : x.n = y.n ∧ y.i = false ∧ (x.i = true ∨ y.d = false) := by
  revert h
  unfold srcI
  by_cases hn : x.n = y.n
  case neg => rw [if_pos hn]; intro h; omega
  simp only [hn, ne_eq, not_true_eq_false, if_false]
  cases x.q <;> cases y.q <;> cases x.i <;> cases y.i <;> cases x.d <;> cases y.d <;> simp [fstI]
def safeP (s t : Hel) : Prop := t.q = false ∧ s.i = false ∧ s.d = false ∧ (t.d = true ∨ t.i = true ∨ 0 ≤ plH s t.c)
theorem dec_safe (x y : Hel) : (decS x y = -1 ∧ (decK x y = 1 ∨ decK x y = 4)) ∨ ((decK x y = 2 ∨ decK x y = 3) ∧ x.n = y.n ∧ ((decS x y = 0 ∧ safeP x y) ∨ (decS x y = 1 ∧ safeP y x))) := by
  rcases src_turn x y with ⟨_, h1 | h1 | h1⟩ | ⟨h1, _⟩
  · exact Or.inl ⟨(dec_none h1).2, Or.inr (dec_none h1).1⟩
  all_goals
    first
      | (obtain ⟨a, b⟩ := dec_first h1
         obtain ⟨g1, g2, g3⟩ := src_first h1
         rcases kind_not x y with e | e | e | e
         · left; rw [a, b, e]; simp
         · right; obtain ⟨k1, k2, k3⟩ := kind_copied (Or.inl e)
           refine ⟨Or.inl (a.trans e), g1, Or.inl ⟨by rw [b, e]; decide, k1, g2, ?_, k3⟩⟩
           rcases g3 with g3 | g3
           · rw [g3] at k2; simpa using k2
           · exact g3
         · right; obtain ⟨k1, k2, k3⟩ := kind_copied (Or.inr e)
           refine ⟨Or.inr (a.trans e), g1, Or.inl ⟨by rw [b, e]; decide, k1, g2, ?_, k3⟩⟩
           rcases g3 with g3 | g3
           · rw [g3] at k2; simpa using k2
           · exact g3
         · left; rw [a, b, e]; simp)
      | (obtain ⟨a, b⟩ := dec_second h1
         obtain ⟨g1, g2, g3⟩ := src_second h1
         rcases kind_not y x with e | e | e | e
         · left; rw [a, b, e]; simp
         · right; obtain ⟨k1, k2, k3⟩ := kind_copied (Or.inl e)
           refine ⟨Or.inl (a.trans e), g1, Or.inr ⟨by rw [b, e]; decide, k1, g2, ?_, k3⟩⟩
           rcases g3 with g3 | g3
           · rw [g3] at k2; simpa using k2
           · exact g3
         · right; obtain ⟨k1, k2, k3⟩ := kind_copied (Or.inr e)
           refine ⟨Or.inr (a.trans e), g1, Or.inr ⟨by rw [b, e]; decide, k1, g2, ?_, k3⟩⟩
           rcases g3 with g3 | g3
           · rw [g3] at k2; simpa using k2
           · exact g3
         · left; rw [a, b, e]; simp)
def bitsB (k : Int) (x y : Hel) : Nat := if k = 2 then x.m ||| y.m else if k = 3 then allB x.n else 0
end Go.Proofs.YtkjikigimmchlaaGreatDoor
