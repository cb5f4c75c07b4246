/- Rule: the walk of RuleHalf. No condition but the width of the masks. -/
import Derived.Test.YtjdcpcfjekfdeaaRH
import Derived.Test.YtjdcpcfjekfdeaaR1
namespace Go.Proofs.Ytjdcpcfjekfdeaa
open Go.RowKit

/-- What is asked for of two that are made to be half copied. -/
theorem half_facts (n c b o p : Int) (r d : Bool) (m : Nat) (c2 b2 o2 : Int) (r2 q2 : Bool) (m2 : Nat) (hm : m < 4294967296) (hm2 : m2 < 4294967296) :
    (Hel.right ⟨n, c2, b2, o2, b, false, r2, false, q2, m2⟩ = true → Hel.right ⟨n, c, b, o, p, true, r, d, false, m⟩ = true → decS ⟨n, c, b, o, p, true, r, d, false, m⟩ ⟨n, c2, b2, o2, b, false, r2, false, q2, m2⟩ ≠ 0 ∧ (b ≠ 0 → decK ⟨n, c, b, o, p, true, r, d, false, m⟩ ⟨n, c2, b2, o2, b, false, r2, false, q2, m2⟩ = 2 ∧ decS ⟨n, c, b, o, p, true, r, d, false, m⟩ ⟨n, c2, b2, o2, b, false, r2, false, q2, m2⟩ = 1) ∧ Hid (∀ w : World, Calls Try.prog 13 #[verV 2 1, .agg #[.int .i64 n, .int .u64 c, .int .u64 b, .int .u64 o, .int .u64 p, .bool true, .bool r, .bool d, .bool false, .int .u32 (m : Int)], .agg #[.int .i64 n, .int .u64 c2, .int .u64 b2, .int .u64 o2, .int .u64 b, .bool false, .bool r2, .bool false, .bool q2, .int .u32 (m2 : Int)]] w fun e w' => e = .returned (.int .u32 ((m ||| m2 : Nat) : Int)) ∧ Below w.heap.size w w')) := by
  intro _ hx
  obtain ⟨n1, n3, _⟩ := Hel.right_n hx
  obtain ⟨a, e⟩ := dec_half ⟨n, c, b, o, p, true, r, d, false, m⟩ ⟨n, c2, b2, o2, b, false, r2, false, q2, m2⟩ rfl rfl rfl rfl rfl rfl
  exact ⟨a, e, fun w => bits_any 2 1 ⟨n, c, b, o, p, true, r, d, false, m⟩ ⟨n, c2, b2, o2, b, false, r2, false, q2, m2⟩ w hm hm2 ⟨n1, n3⟩⟩

set_option maxRecDepth 100000 in
set_option maxHeartbeats 16000000 in
theorem half_no (x y : Hel) (w : World) (hx : x.m < 4294967296) (hy : y.m < 4294967296) (hr : (x.right && y.right) = false) : Calls Try.prog 8 #[helV x, helV y] w (Yes w) := by
  have h1 := fun w => rhright_any x w hx
  have h2 := fun w => rhright_any y w hy
  have hg : x.right = true → y.right = false := fun h => by rw [h] at hr; simpa using hr
  clear hr hx hy
  generalize x.right = g at *
  generalize y.right = g2 at *
  obtain ⟨n, c, b, o, p, i, r, d, q, m⟩ := x
  obtain ⟨n2, c2, b2, o2, p2, i2, r2, d2, q2, m2⟩ := y
  dsimp only [helV] at *
  have HR1 := Lib.hid h1; clear h1
  have HR2 := Lib.hid h2; clear h2
  have HG := Lib.hid hg; clear hg
  have H0 := ((Held.refl w).lay [.int .i64 n, .int .u64 c, .int .u64 b, .int .u64 o, .int .u64 p, .bool i, .bool r, .bool d, .bool q, .int .u32 (m : Int)] 28).lay [.int .i64 n2, .int .u64 c2, .int .u64 b2, .int .u64 o2, .int .u64 p2, .bool i2, .bool r2, .bool d2, .bool q2, .int .u32 (m2 : Int)] 28
  simp only [World.size_alloc] at H0
  replace H0 := Lib.hid H0
  cases g
  · clear HG
    go_enter Try.func8, Try.ntmps8
    go_wp2_with fail
    refine (ualive_any _).mono ?_
    rintro e w1 ⟨rfl, hb⟩
    have H1 := Lib.hid (H0.out.up hb)
    clear hb H0
    have k0 := H1.out.b0.cell
    have k1 := H1.out.b1.cell
    go_wp2_with fail
    refine (HR1.out _).mono ?_
    rintro e w2 ⟨rfl, hb⟩
    have H2 := Lib.hid (H1.out.up hb)
    clear hb H1 k0 k1
    have k0 := H2.out.b0.cell
    have k1 := H2.out.b1.cell
    go_wp2_with fail
    go_ret
    exact ⟨rfl, H2.out.below⟩
  · obtain rfl := HG.out rfl
    clear HG
    go_enter Try.func8, Try.ntmps8
    go_wp2_with fail
    refine (ualive_any _).mono ?_
    rintro e w1 ⟨rfl, hb⟩
    have H1 := Lib.hid (H0.out.up hb)
    clear hb H0
    have k0 := H1.out.b0.cell
    have k1 := H1.out.b1.cell
    go_wp2_with fail
    refine (HR1.out _).mono ?_
    rintro e w2 ⟨rfl, hb⟩
    have H2 := Lib.hid (H1.out.up hb)
    clear hb H1 k0 k1
    have k0 := H2.out.b0.cell
    have k1 := H2.out.b1.cell
    go_wp2_with fail
    refine (HR2.out _).mono ?_
    rintro e w3 ⟨rfl, hb⟩
    have H3 := Lib.hid (H2.out.up hb)
    clear hb H2 k0 k1
    have k0 := H3.out.b0.cell
    have k1 := H3.out.b1.cell
    go_wp2_with fail
    go_ret
    exact ⟨rfl, H3.out.below⟩

set_option maxRecDepth 100000 in
set_option maxHeartbeats 16000000 in
theorem half_yes (x y : Hel) (w : World) (hx : x.m < 4294967296) (hy : y.m < 4294967296) (hr : x.right = true) (hs : y.right = true) : Calls Try.prog 8 #[helV x, helV y] w (Yes w) := by
  have h1 := fun w => rhright_any x w hx
  have h2 := fun w => rhright_any y w hy
  rw [hr] at h1
  rw [hs] at h2
  have hd := fun w => decide_any x y w
  obtain ⟨n1, n2x, c1⟩ := Hel.right_n hr
  obtain ⟨n3, n4, c3⟩ := Hel.right_n hs
  clear hd hr hs n1 n2x n3 n4 c1 c3
  obtain ⟨n, c, b, o, p, i, r, d, q, m⟩ := x
  obtain ⟨n2, c2, b2, o2, p2, i2, r2, d2, q2, m2⟩ := y
  dsimp only [helV] at *
  have hg := half_facts n c b o p r d m c2 b2 o2 r2 q2 m2 hx hy
  have hx1 := fun w => rhright_any ⟨n, c, b, o, p, true, r, d, false, m⟩ w hx
  have hy1 := fun w => rhright_any ⟨n, c2, b2, o2, b, false, r2, false, q2, m2⟩ w hy
  have hd := fun w => decide_any ⟨n, c, b, o, p, true, r, d, false, m⟩ ⟨n, c2, b2, o2, b, false, r2, false, q2, m2⟩ w
  have eo := u32_or_nat m m2 hx hy
  clear hx hy
  dsimp only [helV] at *
  generalize Hel.right ⟨n, c, b, o, p, true, r, d, false, m⟩ = g2 at *
  generalize Hel.right ⟨n, c2, b2, o2, b, false, r2, false, q2, m2⟩ = g at *
  generalize decK ⟨n, c, b, o, p, true, r, d, false, m⟩ ⟨n, c2, b2, o2, b, false, r2, false, q2, m2⟩ = K at *
  generalize decS ⟨n, c, b, o, p, true, r, d, false, m⟩ ⟨n, c2, b2, o2, b, false, r2, false, q2, m2⟩ = S at *
  have HX1 := Lib.hid hx1; clear hx1
  have HY1 := Lib.hid hy1; clear hy1
  have HG := Lib.hid hg; clear hg
  have HR1 := Lib.hid h1; clear h1
  have HR2 := Lib.hid h2; clear h2
  have HD := Lib.hid hd; clear hd
  have H0 := ((Held.refl w).lay [.int .i64 n, .int .u64 c, .int .u64 b, .int .u64 o, .int .u64 p, .bool i, .bool r, .bool d, .bool q, .int .u32 (m : Int)] 28).lay [.int .i64 n2, .int .u64 c2, .int .u64 b2, .int .u64 o2, .int .u64 p2, .bool i2, .bool r2, .bool d2, .bool q2, .int .u32 (m2 : Int)] 28
  simp only [World.size_alloc] at H0
  replace H0 := Lib.hid H0
  go_enter Try.func8, Try.ntmps8
  go_wp2_with fail
  refine (ualive_any _).mono ?_
  rintro e w1 ⟨rfl, hb⟩
  have H1 := Lib.hid (H0.out.up hb)
  clear hb H0
  have k0 := H1.out.b0.cell
  have k1 := H1.out.b1.cell
  go_wp2_with fail
  refine (HR1.out _).mono ?_
  rintro e w2 ⟨rfl, hb⟩
  have H2 := Lib.hid (H1.out.up hb)
  clear hb H1 k0 k1
  have k0 := H2.out.b0.cell
  have k1 := H2.out.b1.cell
  go_wp2_with fail
  refine (HR2.out _).mono ?_
  rintro e w3 ⟨rfl, hb⟩
  have H3 := Lib.hid (H2.out.up hb)
  clear hb H2 k0 k1
  have k0 := H3.out.b0.cell
  have k1 := H3.out.b1.cell
  have H3b := (((((((H3.out.swap.cell0 (Nat.le_refl _) (by simp) 5 (.bool true)).cell0 (Nat.le_refl _) (by simp) 8 (.bool false)).swap.cell0 (by omega) (by simp) 5 (.bool false)).cell0 (by omega) (by simp) 7 (.bool false)).cell0 (by omega) (by simp) 0 (.int .i64 n)).cell0 (by omega) (by simp) 4 (.int .u64 b)))
  simp only [List.set_cons_zero, List.set_cons_succ] at H3b
  replace H3b := Lib.hid H3b
  have f0 := H3.out.b0.frozen
  have f1 := H3.out.b1.frozen
  go_wp2_with fail
  refine (HY1.out _).mono ?_
  rintro e w4 ⟨rfl, hb⟩
  have H4 := Lib.hid (H3b.out.up hb)
  clear hb H3 H3b k0 k1 f0 f1
  have k0 := H4.out.b0.cell
  have k1 := H4.out.b1.cell
  cases g
  · go_wp2_with fail
    go_ret
    exact ⟨rfl, H4.out.below⟩
  · go_wp2_with fail
    refine (HX1.out _).mono ?_
    rintro e w5 ⟨rfl, hb⟩
    have H5 := Lib.hid (H4.out.up hb)
    clear hb H4 k0 k1
    have k0 := H5.out.b0.cell
    have k1 := H5.out.b1.cell
    cases g2
    · go_wp2_with fail
      go_ret
      exact ⟨rfl, H5.out.below⟩
    · obtain ⟨hs0, hs1, HB⟩ := HG.out (by trivial) (by trivial)
      clear HG
      go_wp2_with fail
      refine (HD.out _).mono ?_
      rintro e w6 ⟨rfl, hb⟩
      have H6 := Lib.hid ((H5.out.up hb).lay [.int .i64 K, .int .i64 S] 32)
      clear hb H5 k0 k1
      have k0 := H6.out.b0.cell
      have k1 := H6.out.b1.cell
      have k2 := H6.out.b2.cell
      by_cases hb0 : b = 0
      · subst hb0
        have es : (S != 0) = true := bne_iff_ne.2 hs0
        go_wp2_with fail
        go_ret
        exact ⟨rfl, H6.out.below⟩
      · have eb : (b == 0) = false := beq_eq_false_iff_ne.2 hb0
        obtain ⟨rfl, rfl⟩ := hs1 hb0
        go_wp2_with fail
        clear k0 k1 k2
        refine held_begin (by kernel_rfl) H6.out (fun v0 hH0 => ?_)
        refine wpAnyH_take (i := 0) (v := ?_) rfl (by kernel_rfl) (by kernel_rfl) (by kernel_rfl) (fun _ _ _ h => h) (Or.inl ⟨by rfl, ?_⟩) hH0 ?_
        rotate_left
        · (intro v hSw; have k0 := hSw.b0.cell; have k1 := hSw.b1.cell; have k2 := hSw.b2.cell; go_simp; try with_reducible rfl)
        simp only [Act.put, List.setIfInBounds_toArray, List.set_cons_zero, List.set_cons_succ, List.getElem_toArray, List.getElem_cons_zero]
        refine wpAnyH_take (i := 1) (v := ?_) rfl (by kernel_rfl) (by kernel_rfl) (by kernel_rfl) (fun _ _ _ h => h) (Or.inl ⟨by rfl, ?_⟩) hH0 ?_
        rotate_left
        · (intro v hSw; have k0 := hSw.b0.cell; have k1 := hSw.b1.cell; have k2 := hSw.b2.cell; go_simp; try with_reducible rfl)
        simp only [Act.put, List.setIfInBounds_toArray, List.set_cons_zero, List.set_cons_succ, List.getElem_toArray, List.getElem_cons_zero, List.getElem_cons_succ]
        refine wpAnyH_take (i := 2) (v := ?_) rfl (by kernel_rfl) (by kernel_rfl) (by kernel_rfl) (fun _ _ _ h => h) (Or.inl ⟨by rfl, ?_⟩) hH0 ?_
        rotate_left
        · (intro v hSw; have k0 := hSw.b0.cell; have k1 := hSw.b1.cell; have k2 := hSw.b2.cell; go_simp; try with_reducible rfl)
        simp only [Act.put, List.setIfInBounds_toArray, List.set_cons_zero, List.set_cons_succ, List.getElem_toArray, List.getElem_cons_zero, List.getElem_cons_succ]
        refine wpAnyH_take (i := 3) (v := ?_) rfl (by kernel_rfl) (by kernel_rfl) (by kernel_rfl) (fun _ _ _ h => h) (Or.inl ⟨by rfl, ?_⟩) hH0 ?_
        rotate_left
        · (intro v hSw; have k0 := hSw.b0.cell; have k1 := hSw.b1.cell; have k2 := hSw.b2.cell; go_simp; try with_reducible rfl)
        simp only [Act.put, List.setIfInBounds_toArray, List.set_cons_zero, List.set_cons_succ, List.getElem_toArray, List.getElem_cons_zero, List.getElem_cons_succ]
        refine wpAnyH_take (i := 4) (v := ?_) rfl (by kernel_rfl) (by kernel_rfl) (by kernel_rfl) (fun _ _ _ h => h) (Or.inl ⟨by rfl, ?_⟩) hH0 ?_
        rotate_left
        · (intro v hSw; have k0 := hSw.b0.cell; have k1 := hSw.b1.cell; have k2 := hSw.b2.cell; go_simp; try with_reducible rfl)
        simp only [Act.put, List.setIfInBounds_toArray, List.set_cons_zero, List.set_cons_succ, List.getElem_toArray, List.getElem_cons_zero, List.getElem_cons_succ]
        refine wpAnyH_take (i := 5) (v := ?_) rfl (by kernel_rfl) (by kernel_rfl) (by kernel_rfl) (fun _ _ _ h => h) (Or.inl ⟨by rfl, ?_⟩) hH0 ?_
        rotate_left
        · (intro v hSw; have k0 := hSw.b0.cell; have k1 := hSw.b1.cell; have k2 := hSw.b2.cell; go_simp; try with_reducible rfl)
        simp only [Act.put, List.setIfInBounds_toArray, List.set_cons_zero, List.set_cons_succ, List.getElem_toArray, List.getElem_cons_zero, List.getElem_cons_succ]
        refine wpAnyH_take (i := 6) (v := ?_) rfl (by kernel_rfl) (by kernel_rfl) (by kernel_rfl) (fun _ _ _ h => h) (Or.inl ⟨by rfl, ?_⟩) hH0 ?_
        rotate_left
        · (intro v hSw; have k0 := hSw.b0.cell; have k1 := hSw.b1.cell; have k2 := hSw.b2.cell; go_simp; try with_reducible rfl)
        simp only [Act.put, List.setIfInBounds_toArray, List.set_cons_zero, List.set_cons_succ, List.getElem_toArray, List.getElem_cons_zero, List.getElem_cons_succ]
        refine wpAnyH_take (i := 8) (v := ?_) rfl (by kernel_rfl) (by kernel_rfl) (by kernel_rfl) (fun _ _ _ h => h) (Or.inl ⟨by rfl, ?_⟩) hH0 ?_
        rotate_left
        · (intro v hSw; have k0 := hSw.b0.cell; have k1 := hSw.b1.cell; have k2 := hSw.b2.cell; go_simp; try with_reducible rfl)
        simp only [Act.put, List.setIfInBounds_toArray, List.set_cons_zero, List.set_cons_succ, List.getElem_toArray, List.getElem_cons_zero, List.getElem_cons_succ]
        refine wpAnyH_take (i := 9) (v := ?_) rfl (by kernel_rfl) (by kernel_rfl) (by kernel_rfl) (fun _ _ _ h => h) (Or.inl ⟨by rfl, ?_⟩) hH0 ?_
        rotate_left
        · (intro v hSw; have k0 := hSw.b0.cell; have k1 := hSw.b1.cell; have k2 := hSw.b2.cell; go_simp; try with_reducible rfl)
        simp only [Act.put, List.setIfInBounds_toArray, List.set_cons_zero, List.set_cons_succ, List.getElem_toArray, List.getElem_cons_zero, List.getElem_cons_succ]
        refine wpAnyH_take (i := 10) (v := ?_) rfl (by kernel_rfl) (by kernel_rfl) (by kernel_rfl) (fun _ _ _ h => h) (Or.inl ⟨by rfl, ?_⟩) hH0 ?_
        rotate_left
        · (intro v hSw; have k0 := hSw.b0.cell; have k1 := hSw.b1.cell; have k2 := hSw.b2.cell; go_simp; try with_reducible rfl)
        simp only [Act.put, List.setIfInBounds_toArray, List.set_cons_zero, List.set_cons_succ, List.getElem_toArray, List.getElem_cons_zero, List.getElem_cons_succ]
        refine wpAnyH_take (i := 11) (v := ?_) rfl (by kernel_rfl) (by kernel_rfl) (by kernel_rfl) (fun _ _ _ h => h) (Or.inl ⟨by rfl, ?_⟩) hH0 ?_
        rotate_left
        · (intro v hSw; have k0 := hSw.b0.cell; have k1 := hSw.b1.cell; have k2 := hSw.b2.cell; go_simp; try with_reducible rfl)
        simp only [Act.put, List.setIfInBounds_toArray, List.set_cons_zero, List.set_cons_succ, List.getElem_toArray, List.getElem_cons_zero, List.getElem_cons_succ]
        refine wpAnyH_take (i := 12) (v := ?_) rfl (by kernel_rfl) (by kernel_rfl) (by kernel_rfl) (fun _ _ _ h => h) (Or.inl ⟨by rfl, ?_⟩) hH0 ?_
        rotate_left
        · (intro v hSw; have k0 := hSw.b0.cell; have k1 := hSw.b1.cell; have k2 := hSw.b2.cell; go_simp; try with_reducible rfl)
        simp only [Act.put, List.setIfInBounds_toArray, List.set_cons_zero, List.set_cons_succ, List.getElem_toArray, List.getElem_cons_zero, List.getElem_cons_succ]
        refine wpAnyH_ready (rs := [7]) (by kernel_rfl) (by simp) ?_
        refine AllReadyH.cons rfl (fun K hK => ?_) AllReadyH.nil
        go_simp
        refine (HB.out _).mono ?_
        rintro e v1 ⟨rfl, hb⟩
        go_wp2_with fail
        refine hK.out _ _ (hH0.up hb) (fun hH1 => ?_)
        clear hK K hH0
        refine wpAnyH_take (i := 13) (v := ?_) rfl (by kernel_rfl) (by kernel_rfl) (by kernel_rfl) (fun _ _ _ h => h) (Or.inl ⟨by rfl, ?_⟩) hH1 ?_
        rotate_left
        · (intro v hSw; have k0 := hSw.b0.cell; have k1 := hSw.b1.cell; have k2 := hSw.b2.cell; go_simp; try with_reducible rfl)
        simp only [Act.put, List.setIfInBounds_toArray, List.set_cons_zero, List.set_cons_succ, List.getElem_toArray, List.getElem_cons_zero, List.getElem_cons_succ]
        refine wpAnyH_take (i := 14) (v := ?_) rfl (by kernel_rfl) (by kernel_rfl) (by kernel_rfl) (fun _ _ _ h => h) (Or.inl ⟨by rfl, ?_⟩) hH1 ?_
        rotate_left
        · (intro v hSw; have k0 := hSw.b0.cell; have k1 := hSw.b1.cell; have k2 := hSw.b2.cell; go_simp; try with_reducible rfl)
        simp only [Act.put, List.setIfInBounds_toArray, List.set_cons_zero, List.set_cons_succ, List.getElem_toArray, List.getElem_cons_zero, List.getElem_cons_succ]
        refine wpAnyH_take (i := 15) (v := ?_) rfl (by kernel_rfl) (by kernel_rfl) (by kernel_rfl) (fun _ _ _ h => h) (Or.inl ⟨by rfl, ?_⟩) hH1 ?_
        rotate_left
        · (intro v hSw; have k0 := hSw.b0.cell; have k1 := hSw.b1.cell; have k2 := hSw.b2.cell; go_simp; try with_reducible rfl)
        simp only [Act.put, List.setIfInBounds_toArray, List.set_cons_zero, List.set_cons_succ, List.getElem_toArray, List.getElem_cons_zero, List.getElem_cons_succ]
        refine wpAnyH_done (by kernel_rfl) ?_ _
        go_wp2_with fail
        go_ret
        exact ⟨rfl, hH1.below⟩

theorem half_law (x y : Hel) (w : World) (hx : x.m < 4294967296) (hy : y.m < 4294967296) : Calls Try.prog 8 #[helV x, helV y] w (Yes w) := by
  cases hr : (x.right && y.right)
  · exact half_no x y w hx hy hr
  · rw [Bool.and_eq_true] at hr
    exact half_yes x y w hx hy hr.1 hr.2

end Go.Proofs.Ytjdcpcfjekfdeaa
