/- Rule: the verdict of two hellos in plain numbers, by the code's way; its small functions, for every two hellos. No other condition. -/
import Derived.Test.YtjdcpcfjekfdeaaQ1
import Derived.Test.YtjdcpcfjekfdeaaV4
namespace Go.Proofs.Ytjdcpcfjekfdeaa
open Go.RowKit

/-- Where a generation stands in a hello's vector. -/
def plH (s : Hel) (g : Int) : Int := placeI s.c s.b s.o s.p g
/-- The first one, or the second one. -/
def fstI (b : Bool) : Int := if b then 0 else 1
/-- Has the other one's current generation a place here? -/
def knowsB (x y : Hel) : Bool := !decide (plH x y.c < 0)
/-- The source of two of like currents. -/
def likeI (x y : Hel) : Int := if x.q || y.q then fstI x.q else fstI (x.r || !y.r)
/-- What the place of the target's generation tells. -/
def byPlace (s t : Hel) : Int :=
  if plH s t.c = 0 then (if t.i = false ∧ s.m = 0 ∧ t.m = 0 then 1 else 2) else if plH s t.c = 1 then 2 else if plH s t.c = 2 then 3 else if plH s t.c = 3 then 3 else 4
/-- What becomes of a source and a target. -/
def kindI (s t : Hel) : Int :=
  if t.q then 4 else if t.i && s.d then 4 else if t.i && !decide (plH s t.b < 0) then 2 else if t.d then 3 else byPlace s t
/-- Who gives data. -/
def srcI (x y : Hel) : Int :=
  if x.n ≠ y.n then -1 else if x.q && y.q then -1 else if x.i && y.i then -1 else if x.d && y.d then -1
  else if x.i || y.i then fstI y.i else if x.d || y.d then fstI y.d else if x.c = y.c then likeI x y
  else if knowsB x y != knowsB y x then fstI (knowsB x y) else -1

/-- A verdict. -/
@[reducible] def verV (k s : Int) : Value := .agg #[.int .i64 k, .int .i64 s]

theorem below2c {w0 w : World} {b : Nat} (h : Below w0.heap.size w0 w) (hb : w0.heap.size ≤ b) (v0 v1 : Value) : Below w0.heap.size w0 ((w.setCell ⟨b, 0, none⟩ v0).setCell ⟨b, 1, none⟩ v1) :=
  (h.setCell (p := ⟨b, 0, none⟩) hb v0).setCell (p := ⟨b, 1, none⟩) hb v1

theorem hasAll1 (c b o p g : Int) : hasAll c b o p [g] = !decide (placeI c b o p g < 0) := by simp [hasAll, missB]

theorem es_top (w : World) (l : List Int) (t : TypeId) : Es (Value.int .u64) (w.alloc (.cells (l.map (Value.int .u64)).toArray t)) (w.alloc (.cells (l.map (Value.int .u64)).toArray t)).heap.size (some ⟨w.heap.size, 0, none⟩) l := by
  rw [World.size_alloc]; exact es_new _ _ _ _

theorem has_one (c b o p g : Int) (W : World) (A : Option Addr) (h : Es (Value.int .u64) W W.heap.size A [g]) : Calls Try.prog 34 #[vecV c b o p, .slice A 1 1] W fun e w' => e = .returned (.bool (!decide (placeI c b o p g < 0))) ∧ Below W.heap.size W w' := by
  have := vhas_any A 1 [g] c b o p W h (by simp [maxLen])
  rw [hasAll1] at this
  exact this

theorem natz (m : Nat) (h : ¬ m = 0) : ((m : Int) == 0) = false := beq_eq_false_iff_ne.2 (by omega)

theorem first_any (b : Bool) (w : World) : Calls Try.prog 31 #[.bool b] w fun e w' => e = .returned (.int .i64 (fstI b)) ∧ Below w.heap.size w w' := by
  cases b
  · go_enter Try.func31, Try.ntmps31
    go_wp2_with fail
    go_ret
    exact ⟨rfl, Below.refl _ _⟩
  · go_enter Try.func31, Try.ntmps31
    go_wp2_with fail
    go_ret
    exact ⟨rfl, Below.refl _ _⟩

set_option maxRecDepth 100000 in
set_option maxHeartbeats 4000000 in
theorem knows_any (x y : Hel) (w : World) : Calls Try.prog 33 #[helV x, helV y] w fun e w' => e = .returned (.bool (knowsB x y)) ∧ Below w.heap.size w w' := by
  obtain ⟨n, c, b, o, p, i, r, d, q, m⟩ := x
  obtain ⟨n2, c2, b2, o2, p2, i2, r2, d2, q2, m2⟩ := y
  unfold knowsB plH
  dsimp only [helV]
  have hh := fun W A h => has_one c b o p c2 W A h
  generalize (!decide (placeI c b o p c2 < 0)) = v at *
  have HV := Lib.hid hh; clear hh
  have H0 := Lib.hid ((((Held.refl w).lay [.int .i64 n, .int .u64 c, .int .u64 b, .int .u64 o, .int .u64 p, .bool i, .bool r, .bool d, .bool q, .int .u32 (m : Int)] 28).lay [.int .i64 n2, .int .u64 c2, .int .u64 b2, .int .u64 o2, .int .u64 p2, .bool i2, .bool r2, .bool d2, .bool q2, .int .u32 (m2 : Int)] 28).lay [.int .u64 c2] 22)
  have hE := es_top ((w.alloc (.cells #[.int .i64 n, .int .u64 c, .int .u64 b, .int .u64 o, .int .u64 p, .bool i, .bool r, .bool d, .bool q, .int .u32 (m : Int)] 28)).alloc (.cells #[.int .i64 n2, .int .u64 c2, .int .u64 b2, .int .u64 o2, .int .u64 p2, .bool i2, .bool r2, .bool d2, .bool q2, .int .u32 (m2 : Int)] 28)) [c2] 22
  have HE := Lib.hid hE; clear hE
  go_enter Try.func33, Try.ntmps33
  go_wp2_with fail
  refine (HV.out _ _ ?_).mono ?_
  · simpa only [World.size_alloc, List.map_cons, List.map_nil] using HE.out
  rintro e w1 ⟨rfl, hb⟩
  have H1 := Lib.hid (H0.out.up hb)
  clear hb H0 HE HV
  go_wp2_with fail
  go_ret
  exact ⟨rfl, H1.out.below⟩

set_option maxRecDepth 100000 in
set_option maxHeartbeats 4000000 in
theorem like_any (x y : Hel) (w : World) : Calls Try.prog 32 #[helV x, helV y] w fun e w' => e = .returned (.int .i64 (likeI x y)) ∧ Below w.heap.size w w' := by
  obtain ⟨n, c, b, o, p, i, r, d, q, m⟩ := x
  obtain ⟨n2, c2, b2, o2, p2, i2, r2, d2, q2, m2⟩ := y
  unfold likeI
  dsimp only [helV]
  have H0 := ((Held.refl w).lay [.int .i64 n, .int .u64 c, .int .u64 b, .int .u64 o, .int .u64 p, .bool i, .bool r, .bool d, .bool q, .int .u32 (m : Int)] 28).lay [.int .i64 n2, .int .u64 c2, .int .u64 b2, .int .u64 o2, .int .u64 p2, .bool i2, .bool r2, .bool d2, .bool q2, .int .u32 (m2 : Int)] 28
  simp only [World.size_alloc] at H0
  replace H0 := Lib.hid H0
  cases q
  · cases q2
    · cases r
      · go_enter Try.func32, Try.ntmps32
        go_wp2_with fail
        refine (first_any (!r2) _).mono ?_
        rintro e w1 ⟨rfl, hb⟩
        have H1 := Lib.hid (H0.out.up hb)
        clear hb H0
        go_wp2_with fail
        go_ret
        exact ⟨ret_int (by simp), H1.out.below⟩
      · go_enter Try.func32, Try.ntmps32
        go_wp2_with fail
        refine (first_any true _).mono ?_
        rintro e w1 ⟨rfl, hb⟩
        have H1 := Lib.hid (H0.out.up hb)
        clear hb H0
        go_wp2_with fail
        go_ret
        exact ⟨ret_int (by simp), H1.out.below⟩
    · go_enter Try.func32, Try.ntmps32
      go_wp2_with fail
      refine (first_any false _).mono ?_
      rintro e w1 ⟨rfl, hb⟩
      have H1 := Lib.hid (H0.out.up hb)
      clear hb H0
      go_wp2_with fail
      go_ret
      exact ⟨ret_int (by simp), H1.out.below⟩
  · go_enter Try.func32, Try.ntmps32
    go_wp2_with fail
    refine (first_any true _).mono ?_
    rintro e w1 ⟨rfl, hb⟩
    have H1 := Lib.hid (H0.out.up hb)
    clear hb H0
    go_wp2_with fail
    go_ret
    exact ⟨ret_int (by simp), H1.out.below⟩

set_option maxRecDepth 100000 in
set_option maxHeartbeats 4000000 in
theorem byPlace_any (x y : Hel) (w : World) : Calls Try.prog 35 #[helV x, helV y] w fun e w' => e = .returned (.int .i64 (byPlace x y)) ∧ Below w.heap.size w w' := by
  obtain ⟨n, c, b, o, p, i, r, d, q, m⟩ := x
  obtain ⟨n2, c2, b2, o2, p2, i2, r2, d2, q2, m2⟩ := y
  unfold byPlace plH
  dsimp only [helV]
  have hp := fun w => place_any c b o p c2 w
  generalize placeI c b o p c2 = v at *
  have HP := Lib.hid hp; clear hp
  have H0 := ((Held.refl w).lay [.int .i64 n, .int .u64 c, .int .u64 b, .int .u64 o, .int .u64 p, .bool i, .bool r, .bool d, .bool q, .int .u32 (m : Int)] 28).lay [.int .i64 n2, .int .u64 c2, .int .u64 b2, .int .u64 o2, .int .u64 p2, .bool i2, .bool r2, .bool d2, .bool q2, .int .u32 (m2 : Int)] 28
  simp only [World.size_alloc] at H0
  replace H0 := Lib.hid H0
  by_cases h0 : v = 0
  · subst h0
    cases i2
    · by_cases hm : m = 0
      · subst hm
        by_cases hm2 : m2 = 0
        · subst hm2
          go_enter Try.func35, Try.ntmps35
          go_wp2_with fail
          refine (HP.out _).mono ?_
          rintro e w1 ⟨rfl, hb⟩
          have H1 := Lib.hid (H0.out.up hb)
          clear hb H0
          have k1 := H1.out.b0.cell
          have k2 := H1.out.b1.cell
          go_wp2_with fail
          go_ret
          exact ⟨ret_int (by simp), H1.out.below⟩
        · have em2 := natz m2 hm2
          go_enter Try.func35, Try.ntmps35
          go_wp2_with fail
          refine (HP.out _).mono ?_
          rintro e w1 ⟨rfl, hb⟩
          have H1 := Lib.hid (H0.out.up hb)
          clear hb H0
          have k1 := H1.out.b0.cell
          have k2 := H1.out.b1.cell
          go_wp2_with fail
          go_ret
          exact ⟨ret_int (by simp), H1.out.below⟩
      · have em := natz m hm
        go_enter Try.func35, Try.ntmps35
        go_wp2_with fail
        refine (HP.out _).mono ?_
        rintro e w1 ⟨rfl, hb⟩
        have H1 := Lib.hid (H0.out.up hb)
        clear hb H0
        have k1 := H1.out.b0.cell
        have k2 := H1.out.b1.cell
        go_wp2_with fail
        go_ret
        exact ⟨ret_int (by simp), H1.out.below⟩
    · go_enter Try.func35, Try.ntmps35
      go_wp2_with fail
      refine (HP.out _).mono ?_
      rintro e w1 ⟨rfl, hb⟩
      have H1 := Lib.hid (H0.out.up hb)
      clear hb H0
      have k1 := H1.out.b0.cell
      have k2 := H1.out.b1.cell
      go_wp2_with fail
      go_ret
      exact ⟨ret_int (by simp), H1.out.below⟩
  · have e0 : (v == 0) = false := beq_eq_false_iff_ne.2 h0
    by_cases h1 : v = 1
    · subst h1
      go_enter Try.func35, Try.ntmps35
      go_wp2_with fail
      refine (HP.out _).mono ?_
      rintro e w1 ⟨rfl, hb⟩
      have H1 := Lib.hid (H0.out.up hb)
      clear hb H0
      have k1 := H1.out.b0.cell
      have k2 := H1.out.b1.cell
      go_wp2_with fail
      go_ret
      exact ⟨ret_int (by simp), H1.out.below⟩
    · have e1 : (v == 1) = false := beq_eq_false_iff_ne.2 h1
      by_cases h2 : v = 2
      · subst h2
        go_enter Try.func35, Try.ntmps35
        go_wp2_with fail
        refine (HP.out _).mono ?_
        rintro e w1 ⟨rfl, hb⟩
        have H1 := Lib.hid (H0.out.up hb)
        clear hb H0
        have k1 := H1.out.b0.cell
        have k2 := H1.out.b1.cell
        go_wp2_with fail
        go_ret
        exact ⟨ret_int (by simp), H1.out.below⟩
      · have e2 : (v == 2) = false := beq_eq_false_iff_ne.2 h2
        by_cases h3 : v = 3
        · subst h3
          go_enter Try.func35, Try.ntmps35
          go_wp2_with fail
          refine (HP.out _).mono ?_
          rintro e w1 ⟨rfl, hb⟩
          have H1 := Lib.hid (H0.out.up hb)
          clear hb H0
          have k1 := H1.out.b0.cell
          have k2 := H1.out.b1.cell
          go_wp2_with fail
          go_ret
          exact ⟨ret_int (by simp), H1.out.below⟩
        · have e3 : (v == 3) = false := beq_eq_false_iff_ne.2 h3
          go_enter Try.func35, Try.ntmps35
          go_wp2_with fail
          refine (HP.out _).mono ?_
          rintro e w1 ⟨rfl, hb⟩
          have H1 := Lib.hid (H0.out.up hb)
          clear hb H0
          have k1 := H1.out.b0.cell
          have k2 := H1.out.b1.cell
          go_wp2_with fail
          go_ret
          exact ⟨ret_int rfl, H1.out.below⟩

set_option maxRecDepth 100000 in
set_option maxHeartbeats 4000000 in
theorem kind_any (x y : Hel) (w : World) : Calls Try.prog 22 #[helV x, helV y] w fun e w' => e = .returned (.int .i64 (kindI x y)) ∧ Below w.heap.size w w' := by
  have hbp := fun w => byPlace_any x y w
  obtain ⟨n, c, b, o, p, i, r, d, q, m⟩ := x
  obtain ⟨n2, c2, b2, o2, p2, i2, r2, d2, q2, m2⟩ := y
  unfold kindI plH
  dsimp only [helV] at *
  have hh := fun W A h => has_one c b o p b2 W A h
  generalize (!decide (placeI c b o p b2 < 0)) = v at *
  have HV := Lib.hid hh; clear hh
  have HB := Lib.hid hbp; clear hbp
  generalize byPlace ⟨n, c, b, o, p, i, r, d, q, m⟩ ⟨n2, c2, b2, o2, p2, i2, r2, d2, q2, m2⟩ = u at *
  have H0 := ((Held.refl w).lay [.int .i64 n, .int .u64 c, .int .u64 b, .int .u64 o, .int .u64 p, .bool i, .bool r, .bool d, .bool q, .int .u32 (m : Int)] 28).lay [.int .i64 n2, .int .u64 c2, .int .u64 b2, .int .u64 o2, .int .u64 p2, .bool i2, .bool r2, .bool d2, .bool q2, .int .u32 (m2 : Int)] 28
  simp only [World.size_alloc] at H0
  replace H0 := Lib.hid H0
  cases q2
  · cases i2
    · cases d2
      · go_enter Try.func22, Try.ntmps22
        go_wp2_with fail
        refine (HB.out _).mono ?_
        rintro e w1 ⟨rfl, hb⟩
        have H1 := Lib.hid (H0.out.up hb)
        clear hb H0
        go_wp2_with fail
        go_ret
        exact ⟨ret_int (by simp), H1.out.below⟩
      · go_enter Try.func22, Try.ntmps22
        go_wp2_with fail
        go_ret
        exact ⟨ret_int (by simp), H0.out.below⟩
    · cases d
      · have hE := es_top ((w.alloc (.cells #[.int .i64 n, .int .u64 c, .int .u64 b, .int .u64 o, .int .u64 p, .bool i, .bool r, .bool false, .bool q, .int .u32 (m : Int)] 28)).alloc (.cells #[.int .i64 n2, .int .u64 c2, .int .u64 b2, .int .u64 o2, .int .u64 p2, .bool true, .bool r2, .bool d2, .bool false, .int .u32 (m2 : Int)] 28)) [b2] 22
        have HE := Lib.hid hE; clear hE
        have H1 := H0.out.lay [.int .u64 b2] 22
        simp only [World.size_alloc] at H1
        replace H1 := Lib.hid H1
        go_enter Try.func22, Try.ntmps22
        go_wp2_with fail
        refine (HV.out _ _ ?_).mono ?_
        · simpa only [World.size_alloc, List.map_cons, List.map_nil] using HE.out
        rintro e w1 ⟨rfl, hb⟩
        have H2 := Lib.hid (H1.out.up hb)
        clear hb H0 H1 HE HV
        have k1 := H2.out.b1.cell
        have k2 := H2.out.b2.cell
        cases v
        · cases d2
          · go_wp2_with fail
            refine (HB.out _).mono ?_
            rintro e w2 ⟨rfl, hb⟩
            have H3 := Lib.hid (H2.out.up hb)
            clear hb H2 k1 k2
            go_wp2_with fail
            go_ret
            exact ⟨ret_int (by simp), H3.out.below⟩
          · go_wp2_with fail
            go_ret
            exact ⟨ret_int (by simp), H2.out.below⟩
        · go_wp2_with fail
          go_ret
          exact ⟨ret_int (by simp), H2.out.below⟩
      · go_enter Try.func22, Try.ntmps22
        go_wp2_with fail
        go_ret
        exact ⟨ret_int (by simp), H0.out.below⟩
  · go_enter Try.func22, Try.ntmps22
    go_wp2_with fail
    go_ret
    exact ⟨ret_int (by simp), H0.out.below⟩

end Go.Proofs.Ytjdcpcfjekfdeaa
