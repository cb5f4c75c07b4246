/- Rule: the verdict of two hellos, by the document's way; for every two hellos. No other condition. -/
import Derived.Test.YtjdcpcfjekfdeaaRA
namespace Go.Proofs.Ytjdcpcfjekfdeaa
open Go.RowKit

/-- Onto a target that isn't primary. -/
def ontoP (k s : Int) (q : Bool) : Int × Int := if q then (4, -1) else if k = 4 then (4, -1) else (k, s)
/-- Onto one whose data are half copied. -/
def rhalfI (s t : Hel) : Int :=
  if s.d then 4 else if 0 ≤ plH s t.b then 2 else if t.d then 3 else if plH s t.c < 0 then 4 else if plH s t.c ≤ 1 then 2 else 3
/-- What a place that isn't the first one tells. -/
def tabI (p : Int) : Int := if p = 1 then 2 else 3
/-- The document's verdict. -/
def rdP (x y : Hel) : Int × Int :=
  if x.n ≠ y.n then (4, -1) else if x.q && y.q then (4, -1) else if x.i && y.i then (4, -1) else if x.d && y.d then (4, -1)
  else if x.i then ontoP (rhalfI y x) 1 x.q else if y.i then ontoP (rhalfI x y) 0 y.q
  else if x.d then ontoP 3 1 x.q else if y.d then ontoP 3 0 y.q
  else if x.c = y.c then
    if x.m = 0 ∧ y.m = 0 then (1, -1) else if y.q || (!x.q && y.r && !x.r) then ontoP 2 1 x.q else ontoP 2 0 y.q
  else if 0 < plH x y.c ∧ plH y x.c < 0 then ontoP (tabI (plH x y.c)) 0 y.q
  else if 0 < plH y x.c ∧ plH x y.c < 0 then ontoP (tabI (plH y x.c)) 1 x.q else (4, -1)

theorem Own.two {w : World} {b : Nat} (h : Own w b 2) : ∃ u0 u1, Box w b [u0, u1] := by
  obtain ⟨vs, hl, hx⟩ := h
  match vs, hl with
  | [u0, u1], _ => exact ⟨_, _, hx⟩

theorem Held.set2 {W0 w : World} {L : List (Nat × List Value)} {M : List (Nat × Nat)} {b : Nat} (h : Held W0 L M w) (hb : ∃ n, (b, n) ∈ M) (v0 v1 : Value) : Held W0 L M ((w.setCell ⟨b, 0, none⟩ v0).setCell ⟨b, 1, none⟩ v1) := (h.set hb 0 v0).set hb 1 v1

section
variable {P : Program} {ops : Array Oper} {Q : Exit → Act → World → Prop} {md : Region.Mode}

theorem stored2 {W0 w : World} {L : List (Nat × List Value)} {M : List (Nat × Nat)} {b fuel : Nat} {listed : Array Bool} {a : Act} {u0 u1 v0 v1 : Value} (h : Held W0 L M w) (hb : ∃ n, (b, n) ∈ M) (hx : Box w b [u0, u1])
    (H : ∀ v, Held W0 L M v → Box v b [v0, v1] → wpAnyH P md ops Q (Held W0 L M) fuel listed a v) : wpAnyH P md ops Q (Held W0 L M) fuel listed a ((w.setCell ⟨b, 0, none⟩ v0).setCell ⟨b, 1, none⟩ v1) :=
  H _ (h.set2 hb v0 v1) ((hx.set 0 v0).set 1 v1)
end

theorem place_range (c b o p g : Int) (h : ¬ c = g) : placeI c b o p g = -1 ∨ placeI c b o p g = 1 ∨ placeI c b o p g = 2 ∨ placeI c b o p g = 3 := by
  unfold placeI
  simp only [idxF, if_neg h]
  by_cases h0 : g = 0
  · simp [h0]
  · rw [if_neg h0]
    by_cases h1 : b = g
    · simp [h1]
    · rw [if_neg h1]
      by_cases h2 : o = g
      · simp [h2]
      · rw [if_neg h2]
        by_cases h3 : p = g
        · simp [h3]
        · simp [h3]

set_option maxRecDepth 100000 in
set_option maxHeartbeats 4000000 in
theorem refuse_any (w : World) : Calls Try.prog 23 #[] w fun e w' => e = .returned (verV 4 (-1)) ∧ Below w.heap.size w w' := by
  go_enter Try.func23, Try.ntmps23
  go_wp2_with fail
  refine bodyPost_ret (v := verV 4 (-1)) (by simp [results, Try.results23, go_sem]) rfl ⟨rfl, ?_⟩
  exact below1

set_option maxRecDepth 100000 in
set_option maxHeartbeats 4000000 in
theorem onto_any (k s n c b o p : Int) (i r d q : Bool) (m : Nat) (w : World) : Calls Try.prog 24 #[.int .i64 k, .int .i64 s, .agg #[.int .i64 n, .int .u64 c, .int .u64 b, .int .u64 o, .int .u64 p, .bool i, .bool r, .bool d, .bool q, .int .u32 (m : Int)]] w fun e w' => e = .returned (verV (ontoP k s q).1 (ontoP k s q).2) ∧ Below w.heap.size w w' := by
  unfold ontoP
  have H0 := ((Held.refl w).lay [.int .i64 n, .int .u64 c, .int .u64 b, .int .u64 o, .int .u64 p, .bool i, .bool r, .bool d, .bool q, .int .u32 (m : Int)] 28).lay [.int .i64 0, .int .i64 0] 32
  simp only [World.size_alloc] at H0
  replace H0 := Lib.hid H0
  cases q
  · by_cases h4 : k = 4
    · subst h4
      go_enter Try.func24, Try.ntmps24
      go_wp2_with fail
      refine (refuse_any _).mono ?_
      rintro e w1 ⟨rfl, hb⟩
      have H1 := Lib.hid (H0.out.up hb)
      clear hb H0
      have c2 := H1.out.b0.cell
      have f2 := H1.out.b0.frozen
      go_wp2_with fail
      refine bodyPost_ret (v := verV 4 (-1)) (by simp [results, Try.results24, go_sem, c2]) rfl ⟨by simp, ?_⟩
      exact below2c H1.out.below (by omega) _ _
    · have e4 : (k == 4) = false := beq_eq_false_iff_ne.2 h4
      go_enter Try.func24, Try.ntmps24
      go_wp2_with fail
      refine bodyPost_ret (v := verV k s) (by simp [results, Try.results24, go_sem]) rfl ⟨by simp, ?_⟩
      exact below2
  · go_enter Try.func24, Try.ntmps24
    go_wp2_with fail
    refine (refuse_any _).mono ?_
    rintro e w1 ⟨rfl, hb⟩
    have H1 := Lib.hid (H0.out.up hb)
    clear hb H0
    have c2 := H1.out.b0.cell
    have f2 := H1.out.b0.frozen
    go_wp2_with fail
    refine bodyPost_ret (v := verV 4 (-1)) (by simp [results, Try.results24, go_sem, c2]) rfl ⟨by simp, ?_⟩
    exact below2c H1.out.below (by omega) _ _

set_option maxRecDepth 100000 in
set_option maxHeartbeats 4000000 in
theorem rhalf_any (x y : Hel) (w : World) : Calls Try.prog 25 #[helV x, helV y] w fun e w' => e = .returned (.int .i64 (rhalfI x y)) ∧ Below w.heap.size w w' := by
  obtain ⟨n, c, b, o, p, i, r, d, q, m⟩ := x
  obtain ⟨n2, c2, b2, o2, p2, i2, r2, d2, q2, m2⟩ := y
  unfold rhalfI plH
  dsimp only [helV]
  have hb := fun w => rplace_any c b o p b2 w
  have hc := fun w => rplace_any c b o p c2 w
  have HB := Lib.hid hb; clear hb
  have HC := Lib.hid hc; clear hc
  generalize placeI c b o p b2 = u at *
  generalize placeI c b o p c2 = v at *
  have H0 := ((Held.refl w).lay [.int .i64 n, .int .u64 c, .int .u64 b, .int .u64 o, .int .u64 p, .bool i, .bool r, .bool d, .bool q, .int .u32 (m : Int)] 28).lay [.int .i64 n2, .int .u64 c2, .int .u64 b2, .int .u64 o2, .int .u64 p2, .bool i2, .bool r2, .bool d2, .bool q2, .int .u32 (m2 : Int)] 28
  simp only [World.size_alloc] at H0
  replace H0 := Lib.hid H0
  cases d
  · by_cases hu : 0 ≤ u
    · have eu : decide (0 ≤ u) = true := decide_eq_true hu
      go_enter Try.func25, Try.ntmps25
      go_wp2_with fail
      refine (HB.out _).mono ?_
      rintro e w1 ⟨rfl, hb⟩
      have H1 := Lib.hid (H0.out.up hb)
      clear hb H0
      have k1 := H1.out.b0.cell
      have k2 := H1.out.b1.cell
      go_wp2_with fail
      go_ret
      exact ⟨ret_int (by simp), H1.out.below⟩
    · have eu : decide (0 ≤ u) = false := decide_eq_false hu
      cases d2
      · by_cases hv : v < 0
        · have ev : decide (v < 0) = true := decide_eq_true hv
          go_enter Try.func25, Try.ntmps25
          go_wp2_with fail
          refine (HB.out _).mono ?_
          rintro e w1 ⟨rfl, hb⟩
          have H1 := Lib.hid (H0.out.up hb)
          clear hb H0
          have k1 := H1.out.b0.cell
          have k2 := H1.out.b1.cell
          go_wp2_with fail
          refine (HC.out _).mono ?_
          rintro e w2 ⟨rfl, hb⟩
          have H2 := Lib.hid (H1.out.up hb)
          clear hb H1 k1 k2
          go_wp2_with fail
          go_ret
          exact ⟨ret_int (by simp), H2.out.below⟩
        · have ev : decide (v < 0) = false := decide_eq_false hv
          by_cases hx : v ≤ 1
          · have ex : decide (v ≤ 1) = true := decide_eq_true hx
            go_enter Try.func25, Try.ntmps25
            go_wp2_with fail
            refine (HB.out _).mono ?_
            rintro e w1 ⟨rfl, hb⟩
            have H1 := Lib.hid (H0.out.up hb)
            clear hb H0
            have k1 := H1.out.b0.cell
            have k2 := H1.out.b1.cell
            go_wp2_with fail
            refine (HC.out _).mono ?_
            rintro e w2 ⟨rfl, hb⟩
            have H2 := Lib.hid (H1.out.up hb)
            clear hb H1 k1 k2
            go_wp2_with fail
            go_ret
            exact ⟨ret_int (by simp), H2.out.below⟩
          · have ex : decide (v ≤ 1) = false := decide_eq_false hx
            go_enter Try.func25, Try.ntmps25
            go_wp2_with fail
            refine (HB.out _).mono ?_
            rintro e w1 ⟨rfl, hb⟩
            have H1 := Lib.hid (H0.out.up hb)
            clear hb H0
            have k1 := H1.out.b0.cell
            have k2 := H1.out.b1.cell
            go_wp2_with fail
            refine (HC.out _).mono ?_
            rintro e w2 ⟨rfl, hb⟩
            have H2 := Lib.hid (H1.out.up hb)
            clear hb H1 k1 k2
            go_wp2_with fail
            go_ret
            exact ⟨ret_int (by simp), H2.out.below⟩
      · go_enter Try.func25, Try.ntmps25
        go_wp2_with fail
        refine (HB.out _).mono ?_
        rintro e w1 ⟨rfl, hb⟩
        have H1 := Lib.hid (H0.out.up hb)
        clear hb H0
        have k1 := H1.out.b0.cell
        have k2 := H1.out.b1.cell
        go_wp2_with fail
        go_ret
        exact ⟨ret_int (by simp), H1.out.below⟩
  · go_enter Try.func25, Try.ntmps25
    go_wp2_with fail
    go_ret
    exact ⟨ret_int (by simp), H0.out.below⟩

end Go.Proofs.Ytjdcpcfjekfdeaa
