/- Rule: the verdict of two hellos in plain numbers, and that both ways of deciding answer it; for every two hellos. No other condition. -/
import Derived.Test.YtabenngcmpjlhaaGreatDoorPV
import Derived.Test.YtabenngcmpjlhaaGreatDoorKV
import Derived.Test.YtabenngcmpjlhaaGreatDoorQX
namespace Go.Proofs.YtabenngcmpjlhaaGreatDoor
open Go.RowKit PX
set_option maxRecDepth 100000
set_option linter.unusedSimpArgs false
def plH (s : Hel) (g : Int) : Int := placeI s.c s.b s.o s.p g
def fstI (b : Bool) : Int := if b then 0 else 1
def knowsB (x y : Hel) : Bool := !decide (plH x y.c < 0)
def likeI (x y : Hel) : Int := if x.q || y.q then fstI x.q else fstI (x.r || !y.r)
def byPlace (s t : Hel) : Int :=
  if plH s t.c = 0 then (if t.i = false ∧ s.m = 0 ∧ t.m = 0 then 1 else 2) else if plH s t.c = 1 then 2 else if plH s t.c = 2 then 3 else if plH s t.c = 3 then 3 else 4
def kindI (s t : Hel) : Int :=
  if t.q then 4 else if t.i && s.d then 4 else if t.i && !decide (plH s t.b < 0) then 2 else if t.d then 3 else byPlace s t
def srcI (x y : Hel) : Int :=
  if x.n ≠ y.n then -1 else if x.q && y.q then -1 else if x.i && y.i then -1 else if x.d && y.d then -1
  else if x.i || y.i then fstI y.i else if x.d || y.d then fstI y.d else if x.c = y.c then likeI x y
  else if knowsB x y != knowsB y x then fstI (knowsB x y) else -1
@[reducible] def verV (k s : Int) : Value := .agg #[.int .i64 k, .int .i64 s]
def decK (x y : Hel) : Int := if srcI x y = 0 then kindI x y else if srcI x y = 1 then kindI y x else 4
def decS (x y : Hel) : Int := if decK x y = 4 then -1 else if decK x y = 1 then -1 else srcI x y
def ontoP (k s : Int) (q : Bool) : Int × Int := if q then (4, -1) else if k = 4 then (4, -1) else (k, s)
def rhalfI (s t : Hel) : Int :=
  if s.d then 4 else if 0 ≤ plH s t.b then 2 else if t.d then 3 else if plH s t.c < 0 then 4 else if plH s t.c ≤ 1 then 2 else 3
def tabI (p : Int) : Int := if p = 1 then 2 else 3
def rdP (x y : Hel) : Int × Int :=
  if x.n ≠ y.n then (4, -1) else if x.q && y.q then (4, -1) else if x.i && y.i then (4, -1) else if x.d && y.d then (4, -1)
  else if x.i then ontoP (rhalfI y x) 1 x.q else if y.i then ontoP (rhalfI x y) 0 y.q
  else if x.d then ontoP 3 1 x.q else if y.d then ontoP 3 0 y.q
  else if x.c = y.c then
    if x.m = 0 ∧ y.m = 0 then (1, -1) else if y.q || (!x.q && y.r && !x.r) then ontoP 2 1 x.q else ontoP 2 0 y.q
  else if 0 < plH x y.c ∧ plH y x.c < 0 then ontoP (tabI (plH x y.c)) 0 y.q
  else if 0 < plH y x.c ∧ plH x y.c < 0 then ontoP (tabI (plH y x.c)) 1 x.q else (4, -1)
theorem place_range (c b o p g : Int) (h : ¬ c = g) : placeI c b o p g = -1 ∨ placeI c b o p g = 1 ∨ placeI c b o p g = 2 ∨ placeI c b o p g = 3 := by
  unfold placeI
  simp only [idxF, if_neg h]
  by_cases h0 : g = 0
  · simp [h0]
  · rw [if_neg h0]
    by_cases h1 : b = g
    · simp [h1]
    · rw [if_neg h1]
      by_cases h2 : o = g
      · simp [h2]
      · rw [if_neg h2]
        by_cases h3 : p = g
        · simp [h3]
        · simp [h3]
theorem refuse_any (w : World) : Calls Tryz.prog 85 #[] w fun e w' => e = .returned (verV 4 (-1)) ∧ Below w.heap.size w w' := run_v e_r
theorem onto_any (k s : Int) (x : Hel) (w : World) : Calls Tryz.prog 86 #[.int .i64 k, .int .i64 s, helV x] w fun e w' => e = .returned (verV (ontoP k s x.q).1 (ontoP k s x.q).2) ∧ Below w.heap.size w w' := by
  obtain ⟨n, c, b, o, p, i, r, d, q, m⟩ := x
  refine run_v ?_
  cases q
  · by_cases h : k = 4
    · exact t_lit 2 (t_Y (b := decide (k = 4)) 9 (by simp [h]) (t_v (fun u _ => refuse_any u) (e_r2 (verV 4 (-1)) (by simp [ontoP, h]))))
    · exact t_lit 2 (t_N (b := decide (k = 4)) 9 (by simp [h]) (e_r2 (verV k s) (by simp [ontoP, h])))
  · exact t_lit 3 (t_v (fun u _ => refuse_any u) e_r)
theorem rhalf_any (x y : Hel) (w : World) : Calls Tryz.prog 87 #[helV x, helV y] w fun e w' => e = .returned (.int .i64 (rhalfI x y)) ∧ Below w.heap.size w w' := by
  obtain ⟨n, c, b, o, p, i, r, d, q, m⟩ := x
  obtain ⟨n2, c2, b2, o2, p2, i2, r2, d2, q2, m2⟩ := y
  refine run_v ?_
  unfold rhalfI plH
  dsimp only
  cases d
  · refine t_lit 1 (t_v (fun u _ => rplace_any c b o p b2 u) ?_)
    by_cases h1 : 0 ≤ placeI c b o p b2
    · exact t_Y (b := decide (placeI c b o p b2 ≥ 0)) 9 (by simpa using h1) (e_r2 (.int .i64 2) (by simp [h1]))
    refine t_N (b := decide (placeI c b o p b2 ≥ 0)) 0 (by simpa using h1) ?_
    cases d2
    · refine t_lit 1 (t_v (fun u _ => rplace_any c b o p c2 u) ?_)
      by_cases h2 : placeI c b o p c2 < 0
      · exact t_Y (b := decide (placeI c b o p c2 < 0)) 9 (by simpa using h2) (e_r2 (.int .i64 4) (by simp [h1, h2]))
      refine t_N (b := decide (placeI c b o p c2 < 0)) 0 (by simpa using h2) ?_
      by_cases h3 : placeI c b o p c2 ≤ 1
      · exact t_Y (b := decide (placeI c b o p c2 ≤ 1)) 9 (by simpa using h3) (e_r2 (.int .i64 2) (by simp [h1, h2, h3]))
      · exact t_N (b := decide (placeI c b o p c2 ≤ 1)) 9 (by simpa using h3) (e_r2 (.int .i64 3) (by simp [h1, h2, h3]))
    · exact t_lit 9 (e_r2 (.int .i64 3) (by simp [h1]))
  · exact t_lit 9 e_r
set_option maxHeartbeats 4000000 in
theorem rdecide_any (x y : Hel) (w : World) : Calls Tryz.prog 41 #[helV x, helV y] w fun e w' => e = .returned (verV (rdP x y).1 (rdP x y).2) ∧ Below w.heap.size w w' := by
  obtain ⟨n, c, b, o, p, i, r, d, q, m⟩ := x
  obtain ⟨n2, c2, b2, o2, p2, i2, r2, d2, q2, m2⟩ := y
  refine run_v ?_
  by_cases h1 : n = n2
  · refine t_Y (b := !(n != n2)) 2 (by simp [h1]) ?_
    cases q with
    | true =>
      refine t_lit 3 ?_
      cases q2 with
      | true =>
        refine t_lit 9 ?_
        exact t_v (fun u _ => refuse_any u) (e_r2 (verV 4 (-1)) (by simp [rdP, h1]))
      | false =>
        refine t_lit 3 ?_
        cases i with
        | true =>
          refine t_lit 3 ?_
          cases i2 with
          | true =>
            refine t_lit 5 ?_
            exact t_v (fun u _ => refuse_any u) (e_r2 (verV 4 (-1)) (by simp [rdP, h1]))
          | false =>
            refine t_lit 3 ?_
            cases d with
            | true =>
              refine t_lit 3 ?_
              cases d2 with
              | true =>
                refine t_lit 1 ?_
                exact t_v (fun u _ => refuse_any u) (e_r2 (verV 4 (-1)) (by simp [rdP, h1]))
              | false =>
                refine t_lit 2 ?_
                exact t_v (fun u _ => rhalf_any ⟨n2, c2, b2, o2, p2, false, r2, false, false, m2⟩ ⟨n, c, b, o, p, true, r, true, true, m⟩ u) (t_v (fun u _ => onto_any (rhalfI ⟨n2, c2, b2, o2, p2, false, r2, false, false, m2⟩ ⟨n, c, b, o, p, true, r, true, true, m⟩) 1 ⟨n, c, b, o, p, true, r, true, true, m⟩ u) (e_r2 (verV (ontoP (rhalfI ⟨n2, c2, b2, o2, p2, false, r2, false, false, m2⟩ ⟨n, c, b, o, p, true, r, true, true, m⟩) 1 true).1 (ontoP (rhalfI ⟨n2, c2, b2, o2, p2, false, r2, false, false, m2⟩ ⟨n, c, b, o, p, true, r, true, true, m⟩) 1 true).2) (by simp [rdP, h1])))
            | false =>
              refine t_lit 5 ?_
              exact t_v (fun u _ => rhalf_any ⟨n2, c2, b2, o2, p2, false, r2, d2, false, m2⟩ ⟨n, c, b, o, p, true, r, false, true, m⟩ u) (t_v (fun u _ => onto_any (rhalfI ⟨n2, c2, b2, o2, p2, false, r2, d2, false, m2⟩ ⟨n, c, b, o, p, true, r, false, true, m⟩) 1 ⟨n, c, b, o, p, true, r, false, true, m⟩ u) (e_r2 (verV (ontoP (rhalfI ⟨n2, c2, b2, o2, p2, false, r2, d2, false, m2⟩ ⟨n, c, b, o, p, true, r, false, true, m⟩) 1 true).1 (ontoP (rhalfI ⟨n2, c2, b2, o2, p2, false, r2, d2, false, m2⟩ ⟨n, c, b, o, p, true, r, false, true, m⟩) 1 true).2) (by simp [rdP, h1])))
        | false =>
          refine t_lit 6 ?_
          cases d with
          | true =>
            refine t_lit 3 ?_
            cases d2 with
            | true =>
              refine t_lit 1 ?_
              exact t_v (fun u _ => refuse_any u) (e_r2 (verV 4 (-1)) (by simp [rdP, h1]))
            | false =>
              refine t_lit 2 ?_
              cases i2 with
              | true =>
                refine t_lit 1 ?_
                exact t_v (fun u _ => rhalf_any ⟨n, c, b, o, p, false, r, true, true, m⟩ ⟨n2, c2, b2, o2, p2, true, r2, false, false, m2⟩ u) (t_v (fun u _ => onto_any (rhalfI ⟨n, c, b, o, p, false, r, true, true, m⟩ ⟨n2, c2, b2, o2, p2, true, r2, false, false, m2⟩) 0 ⟨n2, c2, b2, o2, p2, true, r2, false, false, m2⟩ u) (e_r2 (verV (ontoP (rhalfI ⟨n, c, b, o, p, false, r, true, true, m⟩ ⟨n2, c2, b2, o2, p2, true, r2, false, false, m2⟩) 0 false).1 (ontoP (rhalfI ⟨n, c, b, o, p, false, r, true, true, m⟩ ⟨n2, c2, b2, o2, p2, true, r2, false, false, m2⟩) 0 false).2) (by simp [rdP, h1])))
              | false =>
                refine t_lit 2 ?_
                exact t_v (fun u _ => onto_any 3 1 ⟨n, c, b, o, p, false, r, true, true, m⟩ u) (e_r2 (verV (ontoP 3 1 true).1 (ontoP 3 1 true).2) (by simp [rdP, h1]))
          | false =>
            refine t_lit 5 ?_
            cases i2 with
            | true =>
              refine t_lit 1 ?_
              exact t_v (fun u _ => rhalf_any ⟨n, c, b, o, p, false, r, false, true, m⟩ ⟨n2, c2, b2, o2, p2, true, r2, d2, false, m2⟩ u) (t_v (fun u _ => onto_any (rhalfI ⟨n, c, b, o, p, false, r, false, true, m⟩ ⟨n2, c2, b2, o2, p2, true, r2, d2, false, m2⟩) 0 ⟨n2, c2, b2, o2, p2, true, r2, d2, false, m2⟩ u) (e_r2 (verV (ontoP (rhalfI ⟨n, c, b, o, p, false, r, false, true, m⟩ ⟨n2, c2, b2, o2, p2, true, r2, d2, false, m2⟩) 0 false).1 (ontoP (rhalfI ⟨n, c, b, o, p, false, r, false, true, m⟩ ⟨n2, c2, b2, o2, p2, true, r2, d2, false, m2⟩) 0 false).2) (by simp [rdP, h1])))
            | false =>
              refine t_lit 2 ?_
              cases d2 with
              | true =>
                refine t_lit 1 ?_
                exact t_v (fun u _ => onto_any 3 0 ⟨n2, c2, b2, o2, p2, false, r2, true, false, m2⟩ u) (e_r2 (verV (ontoP 3 0 false).1 (ontoP 3 0 false).2) (by simp [rdP, h1]))
              | false =>
                refine t_lit 1 ?_
                by_cases h2 : c = c2
                · refine t_Y (b := decide (c = c2)) 0 (by simp [h2]) ?_
                  by_cases h3 : m = 0
                  · refine t_Y (b := decide ((m : Int) = 0)) 2 (by simp [h3]) ?_
                    by_cases h4 : m2 = 0
                    · refine t_Y (b := decide ((m2 : Int) = 0)) 0 (by simp [h4]) ?_
                      exact e_r2 (verV 1 (-1)) (by simp [rdP, h1, h2, h3, h4])
                    · refine t_N (b := decide ((m2 : Int) = 0)) 13 (by simp [h4]) ?_
                      exact t_v (fun u _ => onto_any 2 0 ⟨n2, c2, b2, o2, p2, false, r2, false, false, m2⟩ u) (e_r2 (verV (ontoP 2 0 false).1 (ontoP 2 0 false).2) (by simp [rdP, h1, h2, h3, h4]))
                  · refine t_N (b := decide ((m : Int) = 0)) 16 (by simp [h3]) ?_
                    exact t_v (fun u _ => onto_any 2 0 ⟨n2, c2, b2, o2, p2, false, r2, false, false, m2⟩ u) (e_r2 (verV (ontoP 2 0 false).1 (ontoP 2 0 false).2) (by simp [rdP, h1, h2, h3]))
                · refine t_N (b := decide (c = c2)) 0 (by simp [h2]) ?_
                  refine t_v (fun u _ => rplace_any c b o p c2 u) (t_v (fun u _ => rplace_any c2 b2 o2 p2 c u) ?_)
                  have hr1 := place_range c b o p c2 h2
                  have hr2 := place_range c2 b2 o2 p2 c (Ne.symm h2)
                  generalize hp : placeI c b o p c2 = P at *
                  generalize hq : placeI c2 b2 o2 p2 c = Q at *
                  rcases hr1 with e | e | e | e <;> subst e <;> rcases hr2 with e | e | e | e <;> subst e <;> first
                    | (have : placeI c b o p c2 = 1 ∧ placeI c2 b2 o2 p2 c = -1 := ⟨hp, hq⟩; refine t_lit 9 (t_ck (p := 0 ≤ (1 : Int) ∧ (1 : Int) < (4 : Nat)) (by decide) (t_v (fun u _ => onto_any 2 0 ⟨n2, c2, b2, o2, p2, false, r2, false, false, m2⟩ u) (e_r2 (verV (ontoP 2 0 false).1 (ontoP 2 0 false).2) ?_))); simp [rdP, h1, h2, plH, hp, hq, tabI, ontoP]; done)
                    | (have : placeI c b o p c2 = -1 ∧ placeI c2 b2 o2 p2 c = 1 := ⟨hp, hq⟩; refine t_lit 9 (t_ck (p := 0 ≤ (1 : Int) ∧ (1 : Int) < (4 : Nat)) (by decide) (t_v (fun u _ => onto_any 2 1 ⟨n, c, b, o, p, false, r, false, true, m⟩ u) (e_r2 (verV (ontoP 2 1 true).1 (ontoP 2 1 true).2) ?_))); simp [rdP, h1, h2, plH, hp, hq, tabI, ontoP]; done)
                    | (have : placeI c b o p c2 = 2 ∧ placeI c2 b2 o2 p2 c = -1 := ⟨hp, hq⟩; refine t_lit 9 (t_ck (p := 0 ≤ (2 : Int) ∧ (2 : Int) < (4 : Nat)) (by decide) (t_v (fun u _ => onto_any 3 0 ⟨n2, c2, b2, o2, p2, false, r2, false, false, m2⟩ u) (e_r2 (verV (ontoP 3 0 false).1 (ontoP 3 0 false).2) ?_))); simp [rdP, h1, h2, plH, hp, hq, tabI, ontoP]; done)
                    | (have : placeI c b o p c2 = 3 ∧ placeI c2 b2 o2 p2 c = -1 := ⟨hp, hq⟩; refine t_lit 9 (t_ck (p := 0 ≤ (3 : Int) ∧ (3 : Int) < (4 : Nat)) (by decide) (t_v (fun u _ => onto_any 3 0 ⟨n2, c2, b2, o2, p2, false, r2, false, false, m2⟩ u) (e_r2 (verV (ontoP 3 0 false).1 (ontoP 3 0 false).2) ?_))); simp [rdP, h1, h2, plH, hp, hq, tabI, ontoP]; done)
                    | (have : placeI c b o p c2 = -1 ∧ placeI c2 b2 o2 p2 c = 2 := ⟨hp, hq⟩; refine t_lit 9 (t_ck (p := 0 ≤ (2 : Int) ∧ (2 : Int) < (4 : Nat)) (by decide) (t_v (fun u _ => onto_any 3 1 ⟨n, c, b, o, p, false, r, false, true, m⟩ u) (e_r2 (verV (ontoP 3 1 true).1 (ontoP 3 1 true).2) ?_))); simp [rdP, h1, h2, plH, hp, hq, tabI, ontoP]; done)
                    | (have : placeI c b o p c2 = -1 ∧ placeI c2 b2 o2 p2 c = 3 := ⟨hp, hq⟩; refine t_lit 9 (t_ck (p := 0 ≤ (3 : Int) ∧ (3 : Int) < (4 : Nat)) (by decide) (t_v (fun u _ => onto_any 3 1 ⟨n, c, b, o, p, false, r, false, true, m⟩ u) (e_r2 (verV (ontoP 3 1 true).1 (ontoP 3 1 true).2) ?_))); simp [rdP, h1, h2, plH, hp, hq, tabI, ontoP]; done)
                    | (refine t_lit 9 (t_v (fun u _ => refuse_any u) (e_r2 (verV 4 (-1)) ?_)); simp [rdP, h1, h2, plH, hp, hq, tabI, ontoP]; done)
    | false =>
      refine t_lit 6 ?_
      cases i with
      | true =>
        refine t_lit 3 ?_
        cases i2 with
        | true =>
          refine t_lit 5 ?_
          exact t_v (fun u _ => refuse_any u) (e_r2 (verV 4 (-1)) (by simp [rdP, h1]))
        | false =>
          refine t_lit 3 ?_
          cases d with
          | true =>
            refine t_lit 3 ?_
            cases d2 with
            | true =>
              refine t_lit 1 ?_
              exact t_v (fun u _ => refuse_any u) (e_r2 (verV 4 (-1)) (by simp [rdP, h1]))
            | false =>
              refine t_lit 2 ?_
              exact t_v (fun u _ => rhalf_any ⟨n2, c2, b2, o2, p2, false, r2, false, q2, m2⟩ ⟨n, c, b, o, p, true, r, true, false, m⟩ u) (t_v (fun u _ => onto_any (rhalfI ⟨n2, c2, b2, o2, p2, false, r2, false, q2, m2⟩ ⟨n, c, b, o, p, true, r, true, false, m⟩) 1 ⟨n, c, b, o, p, true, r, true, false, m⟩ u) (e_r2 (verV (ontoP (rhalfI ⟨n2, c2, b2, o2, p2, false, r2, false, q2, m2⟩ ⟨n, c, b, o, p, true, r, true, false, m⟩) 1 false).1 (ontoP (rhalfI ⟨n2, c2, b2, o2, p2, false, r2, false, q2, m2⟩ ⟨n, c, b, o, p, true, r, true, false, m⟩) 1 false).2) (by simp [rdP, h1])))
          | false =>
            refine t_lit 5 ?_
            exact t_v (fun u _ => rhalf_any ⟨n2, c2, b2, o2, p2, false, r2, d2, q2, m2⟩ ⟨n, c, b, o, p, true, r, false, false, m⟩ u) (t_v (fun u _ => onto_any (rhalfI ⟨n2, c2, b2, o2, p2, false, r2, d2, q2, m2⟩ ⟨n, c, b, o, p, true, r, false, false, m⟩) 1 ⟨n, c, b, o, p, true, r, false, false, m⟩ u) (e_r2 (verV (ontoP (rhalfI ⟨n2, c2, b2, o2, p2, false, r2, d2, q2, m2⟩ ⟨n, c, b, o, p, true, r, false, false, m⟩) 1 false).1 (ontoP (rhalfI ⟨n2, c2, b2, o2, p2, false, r2, d2, q2, m2⟩ ⟨n, c, b, o, p, true, r, false, false, m⟩) 1 false).2) (by simp [rdP, h1])))
      | false =>
        refine t_lit 6 ?_
        cases d with
        | true =>
          refine t_lit 3 ?_
          cases d2 with
          | true =>
            refine t_lit 1 ?_
            exact t_v (fun u _ => refuse_any u) (e_r2 (verV 4 (-1)) (by simp [rdP, h1]))
          | false =>
            refine t_lit 2 ?_
            cases i2 with
            | true =>
              refine t_lit 1 ?_
              exact t_v (fun u _ => rhalf_any ⟨n, c, b, o, p, false, r, true, false, m⟩ ⟨n2, c2, b2, o2, p2, true, r2, false, q2, m2⟩ u) (t_v (fun u _ => onto_any (rhalfI ⟨n, c, b, o, p, false, r, true, false, m⟩ ⟨n2, c2, b2, o2, p2, true, r2, false, q2, m2⟩) 0 ⟨n2, c2, b2, o2, p2, true, r2, false, q2, m2⟩ u) (e_r2 (verV (ontoP (rhalfI ⟨n, c, b, o, p, false, r, true, false, m⟩ ⟨n2, c2, b2, o2, p2, true, r2, false, q2, m2⟩) 0 q2).1 (ontoP (rhalfI ⟨n, c, b, o, p, false, r, true, false, m⟩ ⟨n2, c2, b2, o2, p2, true, r2, false, q2, m2⟩) 0 q2).2) (by simp [rdP, h1])))
            | false =>
              refine t_lit 2 ?_
              exact t_v (fun u _ => onto_any 3 1 ⟨n, c, b, o, p, false, r, true, false, m⟩ u) (e_r2 (verV (ontoP 3 1 false).1 (ontoP 3 1 false).2) (by simp [rdP, h1]))
        | false =>
          refine t_lit 5 ?_
          cases i2 with
          | true =>
            refine t_lit 1 ?_
            exact t_v (fun u _ => rhalf_any ⟨n, c, b, o, p, false, r, false, false, m⟩ ⟨n2, c2, b2, o2, p2, true, r2, d2, q2, m2⟩ u) (t_v (fun u _ => onto_any (rhalfI ⟨n, c, b, o, p, false, r, false, false, m⟩ ⟨n2, c2, b2, o2, p2, true, r2, d2, q2, m2⟩) 0 ⟨n2, c2, b2, o2, p2, true, r2, d2, q2, m2⟩ u) (e_r2 (verV (ontoP (rhalfI ⟨n, c, b, o, p, false, r, false, false, m⟩ ⟨n2, c2, b2, o2, p2, true, r2, d2, q2, m2⟩) 0 q2).1 (ontoP (rhalfI ⟨n, c, b, o, p, false, r, false, false, m⟩ ⟨n2, c2, b2, o2, p2, true, r2, d2, q2, m2⟩) 0 q2).2) (by simp [rdP, h1])))
          | false =>
            refine t_lit 2 ?_
            cases d2 with
            | true =>
              refine t_lit 1 ?_
              exact t_v (fun u _ => onto_any 3 0 ⟨n2, c2, b2, o2, p2, false, r2, true, q2, m2⟩ u) (e_r2 (verV (ontoP 3 0 q2).1 (ontoP 3 0 q2).2) (by simp [rdP, h1]))
            | false =>
              refine t_lit 1 ?_
              by_cases h5 : c = c2
              · refine t_Y (b := decide (c = c2)) 0 (by simp [h5]) ?_
                by_cases h6 : m = 0
                · refine t_Y (b := decide ((m : Int) = 0)) 2 (by simp [h6]) ?_
                  by_cases h7 : m2 = 0
                  · refine t_Y (b := decide ((m2 : Int) = 0)) 0 (by simp [h7]) ?_
                    exact e_r2 (verV 1 (-1)) (by simp [rdP, h1, h5, h6, h7])
                  · refine t_N (b := decide ((m2 : Int) = 0)) 0 (by simp [h7]) ?_
                    cases q2 with
                    | true =>
                      refine t_lit 8 ?_
                      exact t_v (fun u _ => onto_any 2 1 ⟨n, c, b, o, p, false, r, false, false, m⟩ u) (e_r2 (verV (ontoP 2 1 false).1 (ontoP 2 1 false).2) (by simp [rdP, h1, h5, h6, h7]))
                    | false =>
                      refine t_lit 8 ?_
                      cases r2 with
                      | true =>
                        refine t_lit 4 ?_
                        cases r with
                        | true =>
                          refine t_lit 1 ?_
                          exact t_v (fun u _ => onto_any 2 0 ⟨n2, c2, b2, o2, p2, false, true, false, false, m2⟩ u) (e_r2 (verV (ontoP 2 0 false).1 (ontoP 2 0 false).2) (by simp [rdP, h1, h5, h6, h7]))
                        | false =>
                          refine t_lit 1 ?_
                          exact t_v (fun u _ => onto_any 2 1 ⟨n, c, b, o, p, false, false, false, false, m⟩ u) (e_r2 (verV (ontoP 2 1 false).1 (ontoP 2 1 false).2) (by simp [rdP, h1, h5, h6, h7]))
                      | false =>
                        refine t_lit 5 ?_
                        exact t_v (fun u _ => onto_any 2 0 ⟨n2, c2, b2, o2, p2, false, false, false, false, m2⟩ u) (e_r2 (verV (ontoP 2 0 false).1 (ontoP 2 0 false).2) (by simp [rdP, h1, h5, h6, h7]))
                · refine t_N (b := decide ((m : Int) = 0)) 3 (by simp [h6]) ?_
                  cases q2 with
                  | true =>
                    refine t_lit 8 ?_
                    exact t_v (fun u _ => onto_any 2 1 ⟨n, c, b, o, p, false, r, false, false, m⟩ u) (e_r2 (verV (ontoP 2 1 false).1 (ontoP 2 1 false).2) (by simp [rdP, h1, h5, h6]))
                  | false =>
                    refine t_lit 8 ?_
                    cases r2 with
                    | true =>
                      refine t_lit 4 ?_
                      cases r with
                      | true =>
                        refine t_lit 1 ?_
                        exact t_v (fun u _ => onto_any 2 0 ⟨n2, c2, b2, o2, p2, false, true, false, false, m2⟩ u) (e_r2 (verV (ontoP 2 0 false).1 (ontoP 2 0 false).2) (by simp [rdP, h1, h5, h6]))
                      | false =>
                        refine t_lit 1 ?_
                        exact t_v (fun u _ => onto_any 2 1 ⟨n, c, b, o, p, false, false, false, false, m⟩ u) (e_r2 (verV (ontoP 2 1 false).1 (ontoP 2 1 false).2) (by simp [rdP, h1, h5, h6]))
                    | false =>
                      refine t_lit 5 ?_
                      exact t_v (fun u _ => onto_any 2 0 ⟨n2, c2, b2, o2, p2, false, false, false, false, m2⟩ u) (e_r2 (verV (ontoP 2 0 false).1 (ontoP 2 0 false).2) (by simp [rdP, h1, h5, h6]))
              · refine t_N (b := decide (c = c2)) 0 (by simp [h5]) ?_
                refine t_v (fun u _ => rplace_any c b o p c2 u) (t_v (fun u _ => rplace_any c2 b2 o2 p2 c u) ?_)
                have hr1 := place_range c b o p c2 h5
                have hr2 := place_range c2 b2 o2 p2 c (Ne.symm h5)
                generalize hp : placeI c b o p c2 = P at *
                generalize hq : placeI c2 b2 o2 p2 c = Q at *
                rcases hr1 with e | e | e | e <;> subst e <;> rcases hr2 with e | e | e | e <;> subst e <;> first
                  | (have : placeI c b o p c2 = 1 ∧ placeI c2 b2 o2 p2 c = -1 := ⟨hp, hq⟩; refine t_lit 9 (t_ck (p := 0 ≤ (1 : Int) ∧ (1 : Int) < (4 : Nat)) (by decide) (t_v (fun u _ => onto_any 2 0 ⟨n2, c2, b2, o2, p2, false, r2, false, q2, m2⟩ u) (e_r2 (verV (ontoP 2 0 q2).1 (ontoP 2 0 q2).2) ?_))); simp [rdP, h1, h5, plH, hp, hq, tabI, ontoP]; done)
                  | (have : placeI c b o p c2 = -1 ∧ placeI c2 b2 o2 p2 c = 1 := ⟨hp, hq⟩; refine t_lit 9 (t_ck (p := 0 ≤ (1 : Int) ∧ (1 : Int) < (4 : Nat)) (by decide) (t_v (fun u _ => onto_any 2 1 ⟨n, c, b, o, p, false, r, false, false, m⟩ u) (e_r2 (verV (ontoP 2 1 false).1 (ontoP 2 1 false).2) ?_))); simp [rdP, h1, h5, plH, hp, hq, tabI, ontoP]; done)
                  | (have : placeI c b o p c2 = 2 ∧ placeI c2 b2 o2 p2 c = -1 := ⟨hp, hq⟩; refine t_lit 9 (t_ck (p := 0 ≤ (2 : Int) ∧ (2 : Int) < (4 : Nat)) (by decide) (t_v (fun u _ => onto_any 3 0 ⟨n2, c2, b2, o2, p2, false, r2, false, q2, m2⟩ u) (e_r2 (verV (ontoP 3 0 q2).1 (ontoP 3 0 q2).2) ?_))); simp [rdP, h1, h5, plH, hp, hq, tabI, ontoP]; done)
                  | (have : placeI c b o p c2 = 3 ∧ placeI c2 b2 o2 p2 c = -1 := ⟨hp, hq⟩; refine t_lit 9 (t_ck (p := 0 ≤ (3 : Int) ∧ (3 : Int) < (4 : Nat)) (by decide) (t_v (fun u _ => onto_any 3 0 ⟨n2, c2, b2, o2, p2, false, r2, false, q2, m2⟩ u) (e_r2 (verV (ontoP 3 0 q2).1 (ontoP 3 0 q2).2) ?_))); simp [rdP, h1, h5, plH, hp, hq, tabI, ontoP]; done)
                  | (have : placeI c b o p c2 = -1 ∧ placeI c2 b2 o2 p2 c = 2 := ⟨hp, hq⟩; refine t_lit 9 (t_ck (p := 0 ≤ (2 : Int) ∧ (2 : Int) < (4 : Nat)) (by decide) (t_v (fun u _ => onto_any 3 1 ⟨n, c, b, o, p, false, r, false, false, m⟩ u) (e_r2 (verV (ontoP 3 1 false).1 (ontoP 3 1 false).2) ?_))); simp [rdP, h1, h5, plH, hp, hq, tabI, ontoP]; done)
                  | (have : placeI c b o p c2 = -1 ∧ placeI c2 b2 o2 p2 c = 3 := ⟨hp, hq⟩; refine t_lit 9 (t_ck (p := 0 ≤ (3 : Int) ∧ (3 : Int) < (4 : Nat)) (by decide) (t_v (fun u _ => onto_any 3 1 ⟨n, c, b, o, p, false, r, false, false, m⟩ u) (e_r2 (verV (ontoP 3 1 false).1 (ontoP 3 1 false).2) ?_))); simp [rdP, h1, h5, plH, hp, hq, tabI, ontoP]; done)
                  | (refine t_lit 9 (t_v (fun u _ => refuse_any u) (e_r2 (verV 4 (-1)) ?_)); simp [rdP, h1, h5, plH, hp, hq, tabI, ontoP]; done)
  · refine t_N (b := !(n != n2)) 12 (by simp [h1]) ?_
    exact t_v (fun u _ => refuse_any u) (e_r2 (verV 4 (-1)) (by simp [rdP, h1]))
end Go.Proofs.YtabenngcmpjlhaaGreatDoor
