/- Rule: the verdict of two hellos, by the document's way: the whole of it; for every two hellos. No other condition. -/
import Derived.Test.YtjdcpcfjekfdeaaRC
namespace Go.Proofs.Ytjdcpcfjekfdeaa
open Go.RowKit

set_option maxRecDepth 100000 in
set_option maxHeartbeats 4000000 in
theorem rdecide_f (x y : Hel) (w : World) (hq : x.q = false) : Calls Try.prog 12 #[helV x, helV y] w fun e w' => e = .returned (verV (rdP x y).1 (rdP x y).2) ∧ Below w.heap.size w w' := by
  have hx := fun w => rhalf_any x y w
  have hy := fun w => rhalf_any y x w
  obtain ⟨n, c, b, o, p, i, r, d, q, m⟩ := x
  obtain ⟨n2, c2, b2, o2, p2, i2, r2, d2, q2, m2⟩ := y
  dsimp only at hq
  subst hq
  unfold rdP plH
  dsimp only [helV] at *
  have hp := fun w => rplace_any c b o p c2 w
  have hr := fun w => rplace_any c2 b2 o2 p2 c w
  have HX := Lib.hid hx; clear hx
  have HY := Lib.hid hy; clear hy
  have HP := Lib.hid hp; clear hp
  have HR := Lib.hid hr; clear hr
  have ox := fun k s w => onto_any k s n c b o p i r d false m w
  have oy := fun k s w => onto_any k s n2 c2 b2 o2 p2 i2 r2 d2 q2 m2 w
  have OX := Lib.hid ox; clear ox
  have OY := Lib.hid oy; clear oy
  have H0 := (((Held.refl w).lay [.int .i64 n, .int .u64 c, .int .u64 b, .int .u64 o, .int .u64 p, .bool i, .bool r, .bool d, .bool false, .int .u32 (m : Int)] 28).lay [.int .i64 n2, .int .u64 c2, .int .u64 b2, .int .u64 o2, .int .u64 p2, .bool i2, .bool r2, .bool d2, .bool q2, .int .u32 (m2 : Int)] 28).lay [.int .i64 0, .int .i64 0] 32
  simp only [World.size_alloc] at H0
  replace H0 := Lib.hid H0
  have HO := (((Held.refl w).lay [.int .i64 n, .int .u64 c, .int .u64 b, .int .u64 o, .int .u64 p, .bool i, .bool r, .bool d, .bool false, .int .u32 (m : Int)] 28).lay [.int .i64 n2, .int .u64 c2, .int .u64 b2, .int .u64 o2, .int .u64 p2, .bool i2, .bool r2, .bool d2, .bool q2, .int .u32 (m2 : Int)] 28).own [.int .i64 0, .int .i64 0] 32 (n := 2) rfl
  simp only [World.size_alloc] at HO
  replace HO := Lib.hid HO
  generalize rhalfI ⟨n, c, b, o, p, i, r, d, false, m⟩ ⟨n2, c2, b2, o2, p2, i2, r2, d2, q2, m2⟩ = gx at *
  generalize rhalfI ⟨n2, c2, b2, o2, p2, i2, r2, d2, q2, m2⟩ ⟨n, c, b, o, p, i, r, d, false, m⟩ = gy at *
  by_cases hn : n = n2
  · subst hn
    have en : (n != n) = false := bne_self_eq_false n
    cases i
    · cases i2
      · cases d
        · cases d2
          · by_cases hc : c = c2
            · subst hc
              have ec : (c == c) = true := beq_self_eq_true c
              by_cases hm : m = 0
              · subst hm
                by_cases hm2 : m2 = 0
                · subst hm2
                  go_enter Try.func12, Try.ntmps12
                  go_wp2_with fail
                  refine bodyPost_ret (v := verV 1 (-1)) (by simp [results, Try.results12, go_sem]) rfl ⟨by simp, ?_⟩
                  exact ext_alloc below2 _
                · have em2 := natz m2 hm2
                  cases q2
                  · cases r2
                    · go_enter Try.func12, Try.ntmps12
                      go_wp2_with fail
                      refine (OY.out 2 0 _).mono ?_
                      rintro e w1 ⟨rfl, hb⟩
                      have H1 := Lib.hid (H0.out.up hb)
                      clear hb H0
                      have c2 := H1.out.b0.cell
                      have f2 := H1.out.b0.frozen
                      have k1 := H1.out.b1.cell
                      have k2 := H1.out.b2.cell
                      go_wp2_with fail
                      refine bodyPost_ret (v := verV (ontoP 2 0 false).1 (ontoP 2 0 false).2) (by simp [results, Try.results12, go_sem, c2]) rfl ⟨by simp, ?_⟩
                      exact below2c H1.out.below (by omega) _ _
                    · cases r
                      · go_enter Try.func12, Try.ntmps12
                        go_wp2_with fail
                        refine (OX.out 2 1 _).mono ?_
                        rintro e w1 ⟨rfl, hb⟩
                        have H1 := Lib.hid (H0.out.up hb)
                        clear hb H0
                        have c2 := H1.out.b0.cell
                        have f2 := H1.out.b0.frozen
                        have k1 := H1.out.b1.cell
                        have k2 := H1.out.b2.cell
                        go_wp2_with fail
                        refine bodyPost_ret (v := verV (ontoP 2 1 false).1 (ontoP 2 1 false).2) (by simp [results, Try.results12, go_sem, c2]) rfl ⟨by simp, ?_⟩
                        exact below2c H1.out.below (by omega) _ _
                      · go_enter Try.func12, Try.ntmps12
                        go_wp2_with fail
                        refine (OY.out 2 0 _).mono ?_
                        rintro e w1 ⟨rfl, hb⟩
                        have H1 := Lib.hid (H0.out.up hb)
                        clear hb H0
                        have c2 := H1.out.b0.cell
                        have f2 := H1.out.b0.frozen
                        have k1 := H1.out.b1.cell
                        have k2 := H1.out.b2.cell
                        go_wp2_with fail
                        refine bodyPost_ret (v := verV (ontoP 2 0 false).1 (ontoP 2 0 false).2) (by simp [results, Try.results12, go_sem, c2]) rfl ⟨by simp, ?_⟩
                        exact below2c H1.out.below (by omega) _ _
                  · go_enter Try.func12, Try.ntmps12
                    go_wp2_with fail
                    refine (OX.out 2 1 _).mono ?_
                    rintro e w1 ⟨rfl, hb⟩
                    have H1 := Lib.hid (H0.out.up hb)
                    clear hb H0
                    have c2 := H1.out.b0.cell
                    have f2 := H1.out.b0.frozen
                    have k1 := H1.out.b1.cell
                    have k2 := H1.out.b2.cell
                    go_wp2_with fail
                    refine bodyPost_ret (v := verV (ontoP 2 1 false).1 (ontoP 2 1 false).2) (by simp [results, Try.results12, go_sem, c2]) rfl ⟨by simp, ?_⟩
                    exact below2c H1.out.below (by omega) _ _
              · have em := natz m hm
                cases q2
                · cases r2
                  · go_enter Try.func12, Try.ntmps12
                    go_wp2_with fail
                    refine (OY.out 2 0 _).mono ?_
                    rintro e w1 ⟨rfl, hb⟩
                    have H1 := Lib.hid (H0.out.up hb)
                    clear hb H0
                    have c2 := H1.out.b0.cell
                    have f2 := H1.out.b0.frozen
                    have k1 := H1.out.b1.cell
                    have k2 := H1.out.b2.cell
                    go_wp2_with fail
                    refine bodyPost_ret (v := verV (ontoP 2 0 false).1 (ontoP 2 0 false).2) (by simp [results, Try.results12, go_sem, c2]) rfl ⟨by simp, ?_⟩
                    exact below2c H1.out.below (by omega) _ _
                  · cases r
                    · go_enter Try.func12, Try.ntmps12
                      go_wp2_with fail
                      refine (OX.out 2 1 _).mono ?_
                      rintro e w1 ⟨rfl, hb⟩
                      have H1 := Lib.hid (H0.out.up hb)
                      clear hb H0
                      have c2 := H1.out.b0.cell
                      have f2 := H1.out.b0.frozen
                      have k1 := H1.out.b1.cell
                      have k2 := H1.out.b2.cell
                      go_wp2_with fail
                      refine bodyPost_ret (v := verV (ontoP 2 1 false).1 (ontoP 2 1 false).2) (by simp [results, Try.results12, go_sem, c2]) rfl ⟨by simp, ?_⟩
                      exact below2c H1.out.below (by omega) _ _
                    · go_enter Try.func12, Try.ntmps12
                      go_wp2_with fail
                      refine (OY.out 2 0 _).mono ?_
                      rintro e w1 ⟨rfl, hb⟩
                      have H1 := Lib.hid (H0.out.up hb)
                      clear hb H0
                      have c2 := H1.out.b0.cell
                      have f2 := H1.out.b0.frozen
                      have k1 := H1.out.b1.cell
                      have k2 := H1.out.b2.cell
                      go_wp2_with fail
                      refine bodyPost_ret (v := verV (ontoP 2 0 false).1 (ontoP 2 0 false).2) (by simp [results, Try.results12, go_sem, c2]) rfl ⟨by simp, ?_⟩
                      exact below2c H1.out.below (by omega) _ _
                · go_enter Try.func12, Try.ntmps12
                  go_wp2_with fail
                  refine (OX.out 2 1 _).mono ?_
                  rintro e w1 ⟨rfl, hb⟩
                  have H1 := Lib.hid (H0.out.up hb)
                  clear hb H0
                  have c2 := H1.out.b0.cell
                  have f2 := H1.out.b0.frozen
                  have k1 := H1.out.b1.cell
                  have k2 := H1.out.b2.cell
                  go_wp2_with fail
                  refine bodyPost_ret (v := verV (ontoP 2 1 false).1 (ontoP 2 1 false).2) (by simp [results, Try.results12, go_sem, c2]) rfl ⟨by simp, ?_⟩
                  exact below2c H1.out.below (by omega) _ _
            · have ec : (c == c2) = false := beq_eq_false_iff_ne.2 hc
              have hpr := place_range c b o p c2 hc
              have hqr := place_range c2 b2 o2 p2 c (fun h => hc h.symm)
              generalize placeI c b o p c2 = u at *
              generalize placeI c2 b2 o2 p2 c = v at *
              rcases (show u = -1 ∨ 0 < u by omega) with rfl | pu
              · rcases hqr with rfl | rfl | rfl | rfl
                · go_enter Try.func12, Try.ntmps12
                  go_wp2_with fail
                  refine (HP.out _).mono ?_
                  rintro e w1 ⟨rfl, hb⟩
                  have H1 := Lib.hid (H0.out.up hb)
                  clear hb H0
                  have c2 := H1.out.b0.cell
                  have f2 := H1.out.b0.frozen
                  have k1 := H1.out.b1.cell
                  have k2 := H1.out.b2.cell
                  go_wp2_with fail
                  refine (HR.out _).mono ?_
                  rintro e w2 ⟨rfl, hb⟩
                  have H2 := Lib.hid (H1.out.up hb)
                  clear hb H1
                  clear c2 f2 k1 k2
                  have H3 := Lib.hid (H2.out.alloc (.cells #[.int .i64 4, .int .i64 2, .int .i64 3, .int .i64 3] 45))
                  clear H2
                  go_wp2_with fail
                  refine (refuse_any _).mono ?_
                  rintro e w4 ⟨rfl, hb⟩
                  have H4 := Lib.hid (H3.out.up hb)
                  clear hb H3
                  have c2 := H4.out.b0.cell
                  have f2 := H4.out.b0.frozen
                  have k1 := H4.out.b1.cell
                  have k2 := H4.out.b2.cell
                  go_wp2_with fail
                  refine bodyPost_ret (v := verV 4 (-1)) (by simp [results, Try.results12, go_sem, c2]) rfl ⟨by simp, ?_⟩
                  exact below2c H4.out.below (by omega) _ _
                · have H0 := HO; clear HO
                  go_enter Try.func12, Try.ntmps12
                  go_wp2_with fail
                  refine (HP.out _).mono ?_
                  rintro e w1 ⟨rfl, hb⟩
                  have H1 := Lib.hid (H0.out.up hb)
                  clear hb H0
                  have k1 := H1.out.b0.cell
                  have k2 := H1.out.b1.cell
                  go_wp2_with fail
                  refine (HR.out _).mono ?_
                  rintro e w2 ⟨rfl, hb⟩
                  have H2 := Lib.hid (H1.out.up hb)
                  clear hb H1
                  clear k1 k2
                  have H3 := Lib.hid (H2.out.lay [.int .i64 4, .int .i64 2, .int .i64 3, .int .i64 3] 45)
                  have k0 := H3.out.b0.cell
                  have k1 := H3.out.b1.cell
                  have k2 := H3.out.b2.cell
                  clear H2
                  go_wp2_with fail
                  refine held_begin (by kernel_rfl) H3.out (fun v0 hH0 => ?_)
                  refine wpAnyH_take (i := 0) (v := ?_) rfl (by kernel_rfl) (by kernel_rfl) (by kernel_rfl) (fun _ _ _ h => h) (Or.inl ⟨by rfl, ?_⟩) hH0 ?_
                  rotate_left
                  · (intro v hSw; have k0 := hSw.b0.cell; have k1 := hSw.b1.cell; have k2 := hSw.b2.cell; go_simp; try with_reducible rfl)
                  simp only [Act.put, List.setIfInBounds_toArray, List.set_cons_zero, List.set_cons_succ, List.getElem_toArray, List.getElem_cons_zero]
                  refine wpAnyH_take (i := 1) (v := ?_) rfl (by kernel_rfl) (by kernel_rfl) (by kernel_rfl) (fun _ _ _ h => h) (Or.inl ⟨by rfl, ?_⟩) hH0 ?_
                  rotate_left
                  · (intro v hSw; have k0 := hSw.b0.cell; have k1 := hSw.b1.cell; have k2 := hSw.b2.cell; go_simp; try with_reducible rfl)
                  simp only [Act.put, List.setIfInBounds_toArray, List.set_cons_zero, List.set_cons_succ, List.getElem_toArray, List.getElem_cons_zero, List.getElem_cons_succ]
                  refine wpAnyH_take (i := 2) (v := ?_) rfl (by kernel_rfl) (by kernel_rfl) (by kernel_rfl) (fun _ _ _ h => h) (Or.inl ⟨by rfl, ?_⟩) hH0 ?_
                  rotate_left
                  · (intro v hSw; have k0 := hSw.b0.cell; have k1 := hSw.b1.cell; have k2 := hSw.b2.cell; go_simp; try with_reducible rfl)
                  simp only [Act.put, List.setIfInBounds_toArray, List.set_cons_zero, List.set_cons_succ, List.getElem_toArray, List.getElem_cons_zero, List.getElem_cons_succ]
                  refine wpAnyH_take (i := 3) (v := ?_) rfl (by kernel_rfl) (by kernel_rfl) (by kernel_rfl) (fun _ _ _ h => h) (Or.inl ⟨by rfl, ?_⟩) hH0 ?_
                  rotate_left
                  · (intro v hSw; have k0 := hSw.b0.cell; have k1 := hSw.b1.cell; have k2 := hSw.b2.cell; go_simp; try with_reducible rfl)
                  simp only [Act.put, List.setIfInBounds_toArray, List.set_cons_zero, List.set_cons_succ, List.getElem_toArray, List.getElem_cons_zero, List.getElem_cons_succ]
                  refine wpAnyH_ready (rs := [4]) (by kernel_rfl) (by simp) ?_
                  refine AllReadyH.cons rfl (fun K hK => ?_) AllReadyH.nil
                  go_simp
                  refine (OX.out 2 1 _).mono ?_
                  rintro e v1 ⟨rfl, hb⟩
                  go_wp2_with fail
                  refine hK.out _ _ (hH0.up hb) (fun hH1 => ?_)
                  clear hK K hH0
                  refine wpAnyH_ready (rs := [5]) (by kernel_rfl) (by simp) ?_
                  refine AllReadyH.cons rfl (fun K hK => ?_) AllReadyH.nil
                  obtain ⟨z0, z1, hx⟩ := hH1.o0.two
                  have kx := hx.cell
                  have fx := hx.frozen
                  go_simp
                  refine hK.out _ _ (hH1.set2 ⟨2, by simp⟩ _ _) (fun hX => ?_)
                  refine stored2 hH1 ⟨2, by simp⟩ hx (fun v2 hH2 hy => ?_)
                  clear hK K hX hH1 hx kx fx
                  refine wpAnyH_done (by kernel_rfl) ?_ _
                  have c2 := hy.cell
                  have f2 := hy.frozen
                  go_wp2_with fail
                  refine bodyPost_ret (v := verV (ontoP 2 1 false).1 (ontoP 2 1 false).2) (by simp [results, Try.results12, go_sem, c2]) rfl ⟨by simp [tabI], ?_⟩
                  exact hH2.below
                · have H0 := HO; clear HO
                  go_enter Try.func12, Try.ntmps12
                  go_wp2_with fail
                  refine (HP.out _).mono ?_
                  rintro e w1 ⟨rfl, hb⟩
                  have H1 := Lib.hid (H0.out.up hb)
                  clear hb H0
                  have k1 := H1.out.b0.cell
                  have k2 := H1.out.b1.cell
                  go_wp2_with fail
                  refine (HR.out _).mono ?_
                  rintro e w2 ⟨rfl, hb⟩
                  have H2 := Lib.hid (H1.out.up hb)
                  clear hb H1
                  clear k1 k2
                  have H3 := Lib.hid (H2.out.lay [.int .i64 4, .int .i64 2, .int .i64 3, .int .i64 3] 45)
                  have k0 := H3.out.b0.cell
                  have k1 := H3.out.b1.cell
                  have k2 := H3.out.b2.cell
                  clear H2
                  go_wp2_with fail
                  refine held_begin (by kernel_rfl) H3.out (fun v0 hH0 => ?_)
                  refine wpAnyH_take (i := 0) (v := ?_) rfl (by kernel_rfl) (by kernel_rfl) (by kernel_rfl) (fun _ _ _ h => h) (Or.inl ⟨by rfl, ?_⟩) hH0 ?_
                  rotate_left
                  · (intro v hSw; have k0 := hSw.b0.cell; have k1 := hSw.b1.cell; have k2 := hSw.b2.cell; go_simp; try with_reducible rfl)
                  simp only [Act.put, List.setIfInBounds_toArray, List.set_cons_zero, List.set_cons_succ, List.getElem_toArray, List.getElem_cons_zero]
                  refine wpAnyH_take (i := 1) (v := ?_) rfl (by kernel_rfl) (by kernel_rfl) (by kernel_rfl) (fun _ _ _ h => h) (Or.inl ⟨by rfl, ?_⟩) hH0 ?_
                  rotate_left
                  · (intro v hSw; have k0 := hSw.b0.cell; have k1 := hSw.b1.cell; have k2 := hSw.b2.cell; go_simp; try with_reducible rfl)
                  simp only [Act.put, List.setIfInBounds_toArray, List.set_cons_zero, List.set_cons_succ, List.getElem_toArray, List.getElem_cons_zero, List.getElem_cons_succ]
                  refine wpAnyH_take (i := 2) (v := ?_) rfl (by kernel_rfl) (by kernel_rfl) (by kernel_rfl) (fun _ _ _ h => h) (Or.inl ⟨by rfl, ?_⟩) hH0 ?_
                  rotate_left
                  · (intro v hSw; have k0 := hSw.b0.cell; have k1 := hSw.b1.cell; have k2 := hSw.b2.cell; go_simp; try with_reducible rfl)
                  simp only [Act.put, List.setIfInBounds_toArray, List.set_cons_zero, List.set_cons_succ, List.getElem_toArray, List.getElem_cons_zero, List.getElem_cons_succ]
                  refine wpAnyH_take (i := 3) (v := ?_) rfl (by kernel_rfl) (by kernel_rfl) (by kernel_rfl) (fun _ _ _ h => h) (Or.inl ⟨by rfl, ?_⟩) hH0 ?_
                  rotate_left
                  · (intro v hSw; have k0 := hSw.b0.cell; have k1 := hSw.b1.cell; have k2 := hSw.b2.cell; go_simp; try with_reducible rfl)
                  simp only [Act.put, List.setIfInBounds_toArray, List.set_cons_zero, List.set_cons_succ, List.getElem_toArray, List.getElem_cons_zero, List.getElem_cons_succ]
                  refine wpAnyH_ready (rs := [4]) (by kernel_rfl) (by simp) ?_
                  refine AllReadyH.cons rfl (fun K hK => ?_) AllReadyH.nil
                  go_simp
                  refine (OX.out 3 1 _).mono ?_
                  rintro e v1 ⟨rfl, hb⟩
                  go_wp2_with fail
                  refine hK.out _ _ (hH0.up hb) (fun hH1 => ?_)
                  clear hK K hH0
                  refine wpAnyH_ready (rs := [5]) (by kernel_rfl) (by simp) ?_
                  refine AllReadyH.cons rfl (fun K hK => ?_) AllReadyH.nil
                  obtain ⟨z0, z1, hx⟩ := hH1.o0.two
                  have kx := hx.cell
                  have fx := hx.frozen
                  go_simp
                  refine hK.out _ _ (hH1.set2 ⟨2, by simp⟩ _ _) (fun hX => ?_)
                  refine stored2 hH1 ⟨2, by simp⟩ hx (fun v2 hH2 hy => ?_)
                  clear hK K hX hH1 hx kx fx
                  refine wpAnyH_done (by kernel_rfl) ?_ _
                  have c2 := hy.cell
                  have f2 := hy.frozen
                  go_wp2_with fail
                  refine bodyPost_ret (v := verV (ontoP 3 1 false).1 (ontoP 3 1 false).2) (by simp [results, Try.results12, go_sem, c2]) rfl ⟨by simp [tabI], ?_⟩
                  exact hH2.below
                · have H0 := HO; clear HO
                  go_enter Try.func12, Try.ntmps12
                  go_wp2_with fail
                  refine (HP.out _).mono ?_
                  rintro e w1 ⟨rfl, hb⟩
                  have H1 := Lib.hid (H0.out.up hb)
                  clear hb H0
                  have k1 := H1.out.b0.cell
                  have k2 := H1.out.b1.cell
                  go_wp2_with fail
                  refine (HR.out _).mono ?_
                  rintro e w2 ⟨rfl, hb⟩
                  have H2 := Lib.hid (H1.out.up hb)
                  clear hb H1
                  clear k1 k2
                  have H3 := Lib.hid (H2.out.lay [.int .i64 4, .int .i64 2, .int .i64 3, .int .i64 3] 45)
                  have k0 := H3.out.b0.cell
                  have k1 := H3.out.b1.cell
                  have k2 := H3.out.b2.cell
                  clear H2
                  go_wp2_with fail
                  refine held_begin (by kernel_rfl) H3.out (fun v0 hH0 => ?_)
                  refine wpAnyH_take (i := 0) (v := ?_) rfl (by kernel_rfl) (by kernel_rfl) (by kernel_rfl) (fun _ _ _ h => h) (Or.inl ⟨by rfl, ?_⟩) hH0 ?_
                  rotate_left
                  · (intro v hSw; have k0 := hSw.b0.cell; have k1 := hSw.b1.cell; have k2 := hSw.b2.cell; go_simp; try with_reducible rfl)
                  simp only [Act.put, List.setIfInBounds_toArray, List.set_cons_zero, List.set_cons_succ, List.getElem_toArray, List.getElem_cons_zero]
                  refine wpAnyH_take (i := 1) (v := ?_) rfl (by kernel_rfl) (by kernel_rfl) (by kernel_rfl) (fun _ _ _ h => h) (Or.inl ⟨by rfl, ?_⟩) hH0 ?_
                  rotate_left
                  · (intro v hSw; have k0 := hSw.b0.cell; have k1 := hSw.b1.cell; have k2 := hSw.b2.cell; go_simp; try with_reducible rfl)
                  simp only [Act.put, List.setIfInBounds_toArray, List.set_cons_zero, List.set_cons_succ, List.getElem_toArray, List.getElem_cons_zero, List.getElem_cons_succ]
                  refine wpAnyH_take (i := 2) (v := ?_) rfl (by kernel_rfl) (by kernel_rfl) (by kernel_rfl) (fun _ _ _ h => h) (Or.inl ⟨by rfl, ?_⟩) hH0 ?_
                  rotate_left
                  · (intro v hSw; have k0 := hSw.b0.cell; have k1 := hSw.b1.cell; have k2 := hSw.b2.cell; go_simp; try with_reducible rfl)
                  simp only [Act.put, List.setIfInBounds_toArray, List.set_cons_zero, List.set_cons_succ, List.getElem_toArray, List.getElem_cons_zero, List.getElem_cons_succ]
                  refine wpAnyH_take (i := 3) (v := ?_) rfl (by kernel_rfl) (by kernel_rfl) (by kernel_rfl) (fun _ _ _ h => h) (Or.inl ⟨by rfl, ?_⟩) hH0 ?_
                  rotate_left
                  · (intro v hSw; have k0 := hSw.b0.cell; have k1 := hSw.b1.cell; have k2 := hSw.b2.cell; go_simp; try with_reducible rfl)
                  simp only [Act.put, List.setIfInBounds_toArray, List.set_cons_zero, List.set_cons_succ, List.getElem_toArray, List.getElem_cons_zero, List.getElem_cons_succ]
                  refine wpAnyH_ready (rs := [4]) (by kernel_rfl) (by simp) ?_
                  refine AllReadyH.cons rfl (fun K hK => ?_) AllReadyH.nil
                  go_simp
                  refine (OX.out 3 1 _).mono ?_
                  rintro e v1 ⟨rfl, hb⟩
                  go_wp2_with fail
                  refine hK.out _ _ (hH0.up hb) (fun hH1 => ?_)
                  clear hK K hH0
                  refine wpAnyH_ready (rs := [5]) (by kernel_rfl) (by simp) ?_
                  refine AllReadyH.cons rfl (fun K hK => ?_) AllReadyH.nil
                  obtain ⟨z0, z1, hx⟩ := hH1.o0.two
                  have kx := hx.cell
                  have fx := hx.frozen
                  go_simp
                  refine hK.out _ _ (hH1.set2 ⟨2, by simp⟩ _ _) (fun hX => ?_)
                  refine stored2 hH1 ⟨2, by simp⟩ hx (fun v2 hH2 hy => ?_)
                  clear hK K hX hH1 hx kx fx
                  refine wpAnyH_done (by kernel_rfl) ?_ _
                  have c2 := hy.cell
                  have f2 := hy.frozen
                  go_wp2_with fail
                  refine bodyPost_ret (v := verV (ontoP 3 1 false).1 (ontoP 3 1 false).2) (by simp [results, Try.results12, go_sem, c2]) rfl ⟨by simp [tabI], ?_⟩
                  exact hH2.below
              · have au : decide (0 < u) = true := decide_eq_true pu
                have zu : decide (u < 0) = false := decide_eq_false (by omega)
                rcases (show v = -1 ∨ 0 < v by omega) with rfl | pv
                · rcases hpr with rfl | rfl | rfl | rfl
                  · omega
                  · have H0 := HO; clear HO
                    go_enter Try.func12, Try.ntmps12
                    go_wp2_with fail
                    refine (HP.out _).mono ?_
                    rintro e w1 ⟨rfl, hb⟩
                    have H1 := Lib.hid (H0.out.up hb)
                    clear hb H0
                    have k1 := H1.out.b0.cell
                    have k2 := H1.out.b1.cell
                    go_wp2_with fail
                    refine (HR.out _).mono ?_
                    rintro e w2 ⟨rfl, hb⟩
                    have H2 := Lib.hid (H1.out.up hb)
                    clear hb H1
                    clear k1 k2
                    have H3 := Lib.hid (H2.out.lay [.int .i64 4, .int .i64 2, .int .i64 3, .int .i64 3] 45)
                    have k0 := H3.out.b0.cell
                    have k1 := H3.out.b1.cell
                    have k2 := H3.out.b2.cell
                    clear H2
                    go_wp2_with fail
                    refine held_begin (by kernel_rfl) H3.out (fun v0 hH0 => ?_)
                    refine wpAnyH_take (i := 0) (v := ?_) rfl (by kernel_rfl) (by kernel_rfl) (by kernel_rfl) (fun _ _ _ h => h) (Or.inl ⟨by rfl, ?_⟩) hH0 ?_
                    rotate_left
                    · (intro v hSw; have k0 := hSw.b0.cell; have k1 := hSw.b1.cell; have k2 := hSw.b2.cell; go_simp; try with_reducible rfl)
                    simp only [Act.put, List.setIfInBounds_toArray, List.set_cons_zero, List.set_cons_succ, List.getElem_toArray, List.getElem_cons_zero]
                    refine wpAnyH_take (i := 1) (v := ?_) rfl (by kernel_rfl) (by kernel_rfl) (by kernel_rfl) (fun _ _ _ h => h) (Or.inl ⟨by rfl, ?_⟩) hH0 ?_
                    rotate_left
                    · (intro v hSw; have k0 := hSw.b0.cell; have k1 := hSw.b1.cell; have k2 := hSw.b2.cell; go_simp; try with_reducible rfl)
                    simp only [Act.put, List.setIfInBounds_toArray, List.set_cons_zero, List.set_cons_succ, List.getElem_toArray, List.getElem_cons_zero, List.getElem_cons_succ]
                    refine wpAnyH_take (i := 2) (v := ?_) rfl (by kernel_rfl) (by kernel_rfl) (by kernel_rfl) (fun _ _ _ h => h) (Or.inl ⟨by rfl, ?_⟩) hH0 ?_
                    rotate_left
                    · (intro v hSw; have k0 := hSw.b0.cell; have k1 := hSw.b1.cell; have k2 := hSw.b2.cell; go_simp; try with_reducible rfl)
                    simp only [Act.put, List.setIfInBounds_toArray, List.set_cons_zero, List.set_cons_succ, List.getElem_toArray, List.getElem_cons_zero, List.getElem_cons_succ]
                    refine wpAnyH_take (i := 3) (v := ?_) rfl (by kernel_rfl) (by kernel_rfl) (by kernel_rfl) (fun _ _ _ h => h) (Or.inl ⟨by rfl, ?_⟩) hH0 ?_
                    rotate_left
                    · (intro v hSw; have k0 := hSw.b0.cell; have k1 := hSw.b1.cell; have k2 := hSw.b2.cell; go_simp; try with_reducible rfl)
                    simp only [Act.put, List.setIfInBounds_toArray, List.set_cons_zero, List.set_cons_succ, List.getElem_toArray, List.getElem_cons_zero, List.getElem_cons_succ]
                    refine wpAnyH_ready (rs := [4]) (by kernel_rfl) (by simp) ?_
                    refine AllReadyH.cons rfl (fun K hK => ?_) AllReadyH.nil
                    go_simp
                    refine (OY.out 2 0 _).mono ?_
                    rintro e v1 ⟨rfl, hb⟩
                    go_wp2_with fail
                    refine hK.out _ _ (hH0.up hb) (fun hH1 => ?_)
                    clear hK K hH0
                    refine wpAnyH_ready (rs := [5]) (by kernel_rfl) (by simp) ?_
                    refine AllReadyH.cons rfl (fun K hK => ?_) AllReadyH.nil
                    obtain ⟨z0, z1, hx⟩ := hH1.o0.two
                    have kx := hx.cell
                    have fx := hx.frozen
                    go_simp
                    refine hK.out _ _ (hH1.set2 ⟨2, by simp⟩ _ _) (fun hX => ?_)
                    refine stored2 hH1 ⟨2, by simp⟩ hx (fun v2 hH2 hy => ?_)
                    clear hK K hX hH1 hx kx fx
                    refine wpAnyH_done (by kernel_rfl) ?_ _
                    have c2 := hy.cell
                    have f2 := hy.frozen
                    go_wp2_with fail
                    refine bodyPost_ret (v := verV (ontoP 2 0 q2).1 (ontoP 2 0 q2).2) (by simp [results, Try.results12, go_sem, c2]) rfl ⟨by simp [tabI], ?_⟩
                    exact hH2.below
                  · have H0 := HO; clear HO
                    go_enter Try.func12, Try.ntmps12
                    go_wp2_with fail
                    refine (HP.out _).mono ?_
                    rintro e w1 ⟨rfl, hb⟩
                    have H1 := Lib.hid (H0.out.up hb)
                    clear hb H0
                    have k1 := H1.out.b0.cell
                    have k2 := H1.out.b1.cell
                    go_wp2_with fail
                    refine (HR.out _).mono ?_
                    rintro e w2 ⟨rfl, hb⟩
                    have H2 := Lib.hid (H1.out.up hb)
                    clear hb H1
                    clear k1 k2
                    have H3 := Lib.hid (H2.out.lay [.int .i64 4, .int .i64 2, .int .i64 3, .int .i64 3] 45)
                    have k0 := H3.out.b0.cell
                    have k1 := H3.out.b1.cell
                    have k2 := H3.out.b2.cell
                    clear H2
                    go_wp2_with fail
                    refine held_begin (by kernel_rfl) H3.out (fun v0 hH0 => ?_)
                    refine wpAnyH_take (i := 0) (v := ?_) rfl (by kernel_rfl) (by kernel_rfl) (by kernel_rfl) (fun _ _ _ h => h) (Or.inl ⟨by rfl, ?_⟩) hH0 ?_
                    rotate_left
                    · (intro v hSw; have k0 := hSw.b0.cell; have k1 := hSw.b1.cell; have k2 := hSw.b2.cell; go_simp; try with_reducible rfl)
                    simp only [Act.put, List.setIfInBounds_toArray, List.set_cons_zero, List.set_cons_succ, List.getElem_toArray, List.getElem_cons_zero]
                    refine wpAnyH_take (i := 1) (v := ?_) rfl (by kernel_rfl) (by kernel_rfl) (by kernel_rfl) (fun _ _ _ h => h) (Or.inl ⟨by rfl, ?_⟩) hH0 ?_
                    rotate_left
                    · (intro v hSw; have k0 := hSw.b0.cell; have k1 := hSw.b1.cell; have k2 := hSw.b2.cell; go_simp; try with_reducible rfl)
                    simp only [Act.put, List.setIfInBounds_toArray, List.set_cons_zero, List.set_cons_succ, List.getElem_toArray, List.getElem_cons_zero, List.getElem_cons_succ]
                    refine wpAnyH_take (i := 2) (v := ?_) rfl (by kernel_rfl) (by kernel_rfl) (by kernel_rfl) (fun _ _ _ h => h) (Or.inl ⟨by rfl, ?_⟩) hH0 ?_
                    rotate_left
                    · (intro v hSw; have k0 := hSw.b0.cell; have k1 := hSw.b1.cell; have k2 := hSw.b2.cell; go_simp; try with_reducible rfl)
                    simp only [Act.put, List.setIfInBounds_toArray, List.set_cons_zero, List.set_cons_succ, List.getElem_toArray, List.getElem_cons_zero, List.getElem_cons_succ]
                    refine wpAnyH_take (i := 3) (v := ?_) rfl (by kernel_rfl) (by kernel_rfl) (by kernel_rfl) (fun _ _ _ h => h) (Or.inl ⟨by rfl, ?_⟩) hH0 ?_
                    rotate_left
                    · (intro v hSw; have k0 := hSw.b0.cell; have k1 := hSw.b1.cell; have k2 := hSw.b2.cell; go_simp; try with_reducible rfl)
                    simp only [Act.put, List.setIfInBounds_toArray, List.set_cons_zero, List.set_cons_succ, List.getElem_toArray, List.getElem_cons_zero, List.getElem_cons_succ]
                    refine wpAnyH_ready (rs := [4]) (by kernel_rfl) (by simp) ?_
                    refine AllReadyH.cons rfl (fun K hK => ?_) AllReadyH.nil
                    go_simp
                    refine (OY.out 3 0 _).mono ?_
                    rintro e v1 ⟨rfl, hb⟩
                    go_wp2_with fail
                    refine hK.out _ _ (hH0.up hb) (fun hH1 => ?_)
                    clear hK K hH0
                    refine wpAnyH_ready (rs := [5]) (by kernel_rfl) (by simp) ?_
                    refine AllReadyH.cons rfl (fun K hK => ?_) AllReadyH.nil
                    obtain ⟨z0, z1, hx⟩ := hH1.o0.two
                    have kx := hx.cell
                    have fx := hx.frozen
                    go_simp
                    refine hK.out _ _ (hH1.set2 ⟨2, by simp⟩ _ _) (fun hX => ?_)
                    refine stored2 hH1 ⟨2, by simp⟩ hx (fun v2 hH2 hy => ?_)
                    clear hK K hX hH1 hx kx fx
                    refine wpAnyH_done (by kernel_rfl) ?_ _
                    have c2 := hy.cell
                    have f2 := hy.frozen
                    go_wp2_with fail
                    refine bodyPost_ret (v := verV (ontoP 3 0 q2).1 (ontoP 3 0 q2).2) (by simp [results, Try.results12, go_sem, c2]) rfl ⟨by simp [tabI], ?_⟩
                    exact hH2.below
                  · have H0 := HO; clear HO
                    go_enter Try.func12, Try.ntmps12
                    go_wp2_with fail
                    refine (HP.out _).mono ?_
                    rintro e w1 ⟨rfl, hb⟩
                    have H1 := Lib.hid (H0.out.up hb)
                    clear hb H0
                    have k1 := H1.out.b0.cell
                    have k2 := H1.out.b1.cell
                    go_wp2_with fail
                    refine (HR.out _).mono ?_
                    rintro e w2 ⟨rfl, hb⟩
                    have H2 := Lib.hid (H1.out.up hb)
                    clear hb H1
                    clear k1 k2
                    have H3 := Lib.hid (H2.out.lay [.int .i64 4, .int .i64 2, .int .i64 3, .int .i64 3] 45)
                    have k0 := H3.out.b0.cell
                    have k1 := H3.out.b1.cell
                    have k2 := H3.out.b2.cell
                    clear H2
                    go_wp2_with fail
                    refine held_begin (by kernel_rfl) H3.out (fun v0 hH0 => ?_)
                    refine wpAnyH_take (i := 0) (v := ?_) rfl (by kernel_rfl) (by kernel_rfl) (by kernel_rfl) (fun _ _ _ h => h) (Or.inl ⟨by rfl, ?_⟩) hH0 ?_
                    rotate_left
                    · (intro v hSw; have k0 := hSw.b0.cell; have k1 := hSw.b1.cell; have k2 := hSw.b2.cell; go_simp; try with_reducible rfl)
                    simp only [Act.put, List.setIfInBounds_toArray, List.set_cons_zero, List.set_cons_succ, List.getElem_toArray, List.getElem_cons_zero]
                    refine wpAnyH_take (i := 1) (v := ?_) rfl (by kernel_rfl) (by kernel_rfl) (by kernel_rfl) (fun _ _ _ h => h) (Or.inl ⟨by rfl, ?_⟩) hH0 ?_
                    rotate_left
                    · (intro v hSw; have k0 := hSw.b0.cell; have k1 := hSw.b1.cell; have k2 := hSw.b2.cell; go_simp; try with_reducible rfl)
                    simp only [Act.put, List.setIfInBounds_toArray, List.set_cons_zero, List.set_cons_succ, List.getElem_toArray, List.getElem_cons_zero, List.getElem_cons_succ]
                    refine wpAnyH_take (i := 2) (v := ?_) rfl (by kernel_rfl) (by kernel_rfl) (by kernel_rfl) (fun _ _ _ h => h) (Or.inl ⟨by rfl, ?_⟩) hH0 ?_
                    rotate_left
                    · (intro v hSw; have k0 := hSw.b0.cell; have k1 := hSw.b1.cell; have k2 := hSw.b2.cell; go_simp; try with_reducible rfl)
                    simp only [Act.put, List.setIfInBounds_toArray, List.set_cons_zero, List.set_cons_succ, List.getElem_toArray, List.getElem_cons_zero, List.getElem_cons_succ]
                    refine wpAnyH_take (i := 3) (v := ?_) rfl (by kernel_rfl) (by kernel_rfl) (by kernel_rfl) (fun _ _ _ h => h) (Or.inl ⟨by rfl, ?_⟩) hH0 ?_
                    rotate_left
                    · (intro v hSw; have k0 := hSw.b0.cell; have k1 := hSw.b1.cell; have k2 := hSw.b2.cell; go_simp; try with_reducible rfl)
                    simp only [Act.put, List.setIfInBounds_toArray, List.set_cons_zero, List.set_cons_succ, List.getElem_toArray, List.getElem_cons_zero, List.getElem_cons_succ]
                    refine wpAnyH_ready (rs := [4]) (by kernel_rfl) (by simp) ?_
                    refine AllReadyH.cons rfl (fun K hK => ?_) AllReadyH.nil
                    go_simp
                    refine (OY.out 3 0 _).mono ?_
                    rintro e v1 ⟨rfl, hb⟩
                    go_wp2_with fail
                    refine hK.out _ _ (hH0.up hb) (fun hH1 => ?_)
                    clear hK K hH0
                    refine wpAnyH_ready (rs := [5]) (by kernel_rfl) (by simp) ?_
                    refine AllReadyH.cons rfl (fun K hK => ?_) AllReadyH.nil
                    obtain ⟨z0, z1, hx⟩ := hH1.o0.two
                    have kx := hx.cell
                    have fx := hx.frozen
                    go_simp
                    refine hK.out _ _ (hH1.set2 ⟨2, by simp⟩ _ _) (fun hX => ?_)
                    refine stored2 hH1 ⟨2, by simp⟩ hx (fun v2 hH2 hy => ?_)
                    clear hK K hX hH1 hx kx fx
                    refine wpAnyH_done (by kernel_rfl) ?_ _
                    have c2 := hy.cell
                    have f2 := hy.frozen
                    go_wp2_with fail
                    refine bodyPost_ret (v := verV (ontoP 3 0 q2).1 (ontoP 3 0 q2).2) (by simp [results, Try.results12, go_sem, c2]) rfl ⟨by simp [tabI], ?_⟩
                    exact hH2.below
                · have av : decide (0 < v) = true := decide_eq_true pv
                  have zv : decide (v < 0) = false := decide_eq_false (by omega)
                  go_enter Try.func12, Try.ntmps12
                  go_wp2_with fail
                  refine (HP.out _).mono ?_
                  rintro e w1 ⟨rfl, hb⟩
                  have H1 := Lib.hid (H0.out.up hb)
                  clear hb H0
                  have c2 := H1.out.b0.cell
                  have f2 := H1.out.b0.frozen
                  have k1 := H1.out.b1.cell
                  have k2 := H1.out.b2.cell
                  go_wp2_with fail
                  refine (HR.out _).mono ?_
                  rintro e w2 ⟨rfl, hb⟩
                  have H2 := Lib.hid (H1.out.up hb)
                  clear hb H1
                  clear c2 f2 k1 k2
                  have H3 := Lib.hid (H2.out.alloc (.cells #[.int .i64 4, .int .i64 2, .int .i64 3, .int .i64 3] 45))
                  clear H2
                  go_wp2_with fail
                  refine (refuse_any _).mono ?_
                  rintro e w4 ⟨rfl, hb⟩
                  have H4 := Lib.hid (H3.out.up hb)
                  clear hb H3
                  have c2 := H4.out.b0.cell
                  have f2 := H4.out.b0.frozen
                  have k1 := H4.out.b1.cell
                  have k2 := H4.out.b2.cell
                  go_wp2_with fail
                  refine bodyPost_ret (v := verV 4 (-1)) (by simp [results, Try.results12, go_sem, c2]) rfl ⟨by simp, ?_⟩
                  exact below2c H4.out.below (by omega) _ _
          · go_enter Try.func12, Try.ntmps12
            go_wp2_with fail
            refine (OY.out 3 0 _).mono ?_
            rintro e w1 ⟨rfl, hb⟩
            have H1 := Lib.hid (H0.out.up hb)
            clear hb H0
            have c2 := H1.out.b0.cell
            have f2 := H1.out.b0.frozen
            have k1 := H1.out.b1.cell
            have k2 := H1.out.b2.cell
            go_wp2_with fail
            refine bodyPost_ret (v := verV (ontoP 3 0 q2).1 (ontoP 3 0 q2).2) (by simp [results, Try.results12, go_sem, c2]) rfl ⟨by simp, ?_⟩
            exact below2c H1.out.below (by omega) _ _
        · cases d2
          · go_enter Try.func12, Try.ntmps12
            go_wp2_with fail
            refine (OX.out 3 1 _).mono ?_
            rintro e w1 ⟨rfl, hb⟩
            have H1 := Lib.hid (H0.out.up hb)
            clear hb H0
            have c2 := H1.out.b0.cell
            have f2 := H1.out.b0.frozen
            have k1 := H1.out.b1.cell
            have k2 := H1.out.b2.cell
            go_wp2_with fail
            refine bodyPost_ret (v := verV (ontoP 3 1 false).1 (ontoP 3 1 false).2) (by simp [results, Try.results12, go_sem, c2]) rfl ⟨by simp, ?_⟩
            exact below2c H1.out.below (by omega) _ _
          · go_enter Try.func12, Try.ntmps12
            go_wp2_with fail
            refine (refuse_any _).mono ?_
            rintro e w1 ⟨rfl, hb⟩
            have H1 := Lib.hid (H0.out.up hb)
            clear hb H0
            have c2 := H1.out.b0.cell
            have f2 := H1.out.b0.frozen
            have k1 := H1.out.b1.cell
            have k2 := H1.out.b2.cell
            go_wp2_with fail
            refine bodyPost_ret (v := verV 4 (-1)) (by simp [results, Try.results12, go_sem, c2]) rfl ⟨by simp, ?_⟩
            exact below2c H1.out.below (by omega) _ _
      · cases d
        · go_enter Try.func12, Try.ntmps12
          go_wp2_with fail
          refine held_begin (by kernel_rfl) HO.out (fun v0 hH0 => ?_)
          refine wpAnyH_take (i := 0) (v := ?_) rfl (by kernel_rfl) (by kernel_rfl) (by kernel_rfl) (fun _ _ _ h => h) (Or.inl ⟨by rfl, ?_⟩) hH0 ?_
          rotate_left
          · (intro v hSw; have k1 := hSw.b0.cell; have k2 := hSw.b1.cell; go_simp; try with_reducible rfl)
          simp only [Act.put, List.setIfInBounds_toArray, List.set_cons_zero, List.set_cons_succ, List.getElem_toArray, List.getElem_cons_zero]
          refine wpAnyH_take (i := 1) (v := ?_) rfl (by kernel_rfl) (by kernel_rfl) (by kernel_rfl) (fun _ _ _ h => h) (Or.inl ⟨by rfl, ?_⟩) hH0 ?_
          rotate_left
          · (intro v hSw; have k1 := hSw.b0.cell; have k2 := hSw.b1.cell; go_simp; try with_reducible rfl)
          simp only [Act.put, List.setIfInBounds_toArray, List.set_cons_zero, List.set_cons_succ, List.getElem_toArray, List.getElem_cons_zero, List.getElem_cons_succ]
          refine wpAnyH_take (i := 3) (v := ?_) rfl (by kernel_rfl) (by kernel_rfl) (by kernel_rfl) (fun _ _ _ h => h) (Or.inl ⟨by rfl, ?_⟩) hH0 ?_
          rotate_left
          · (intro v hSw; have k1 := hSw.b0.cell; have k2 := hSw.b1.cell; go_simp; try with_reducible rfl)
          simp only [Act.put, List.setIfInBounds_toArray, List.set_cons_zero, List.set_cons_succ, List.getElem_toArray, List.getElem_cons_zero, List.getElem_cons_succ]
          refine wpAnyH_ready (rs := [2]) (by kernel_rfl) (by simp) ?_
          refine AllReadyH.cons rfl (fun K hK => ?_) AllReadyH.nil
          go_simp
          refine (HX.out _).mono ?_
          rintro e v1 ⟨rfl, hb⟩
          go_wp2_with fail
          refine hK.out _ _ (hH0.up hb) (fun hH1 => ?_)
          clear hK K hH0
          refine wpAnyH_ready (rs := [4]) (by kernel_rfl) (by simp) ?_
          refine AllReadyH.cons rfl (fun K hK => ?_) AllReadyH.nil
          go_simp
          refine (OY.out gx 0 _).mono ?_
          rintro e v2 ⟨rfl, hb⟩
          go_wp2_with fail
          refine hK.out _ _ (hH1.up hb) (fun hH2 => ?_)
          clear hK K hH1
          refine wpAnyH_ready (rs := [5]) (by kernel_rfl) (by simp) ?_
          refine AllReadyH.cons rfl (fun K hK => ?_) AllReadyH.nil
          obtain ⟨z0, z1, hx⟩ := hH2.o0.two
          have kx := hx.cell
          have fx := hx.frozen
          go_simp
          refine hK.out _ _ (hH2.set2 ⟨2, by simp⟩ _ _) (fun hX => ?_)
          refine stored2 hH2 ⟨2, by simp⟩ hx (fun v3 hH3 hy => ?_)
          clear hK K hX hH2 hx kx fx
          refine wpAnyH_done (by kernel_rfl) ?_ _
          have c2 := hy.cell
          have f2 := hy.frozen
          go_wp2_with fail
          refine bodyPost_ret (v := verV (ontoP gx 0 q2).1 (ontoP gx 0 q2).2) (by simp [results, Try.results12, go_sem, c2]) rfl ⟨by simp, ?_⟩
          exact hH3.below
        · cases d2
          · go_enter Try.func12, Try.ntmps12
            go_wp2_with fail
            refine held_begin (by kernel_rfl) HO.out (fun v0 hH0 => ?_)
            refine wpAnyH_take (i := 0) (v := ?_) rfl (by kernel_rfl) (by kernel_rfl) (by kernel_rfl) (fun _ _ _ h => h) (Or.inl ⟨by rfl, ?_⟩) hH0 ?_
            rotate_left
            · (intro v hSw; have k1 := hSw.b0.cell; have k2 := hSw.b1.cell; go_simp; try with_reducible rfl)
            simp only [Act.put, List.setIfInBounds_toArray, List.set_cons_zero, List.set_cons_succ, List.getElem_toArray, List.getElem_cons_zero]
            refine wpAnyH_take (i := 1) (v := ?_) rfl (by kernel_rfl) (by kernel_rfl) (by kernel_rfl) (fun _ _ _ h => h) (Or.inl ⟨by rfl, ?_⟩) hH0 ?_
            rotate_left
            · (intro v hSw; have k1 := hSw.b0.cell; have k2 := hSw.b1.cell; go_simp; try with_reducible rfl)
            simp only [Act.put, List.setIfInBounds_toArray, List.set_cons_zero, List.set_cons_succ, List.getElem_toArray, List.getElem_cons_zero, List.getElem_cons_succ]
            refine wpAnyH_take (i := 3) (v := ?_) rfl (by kernel_rfl) (by kernel_rfl) (by kernel_rfl) (fun _ _ _ h => h) (Or.inl ⟨by rfl, ?_⟩) hH0 ?_
            rotate_left
            · (intro v hSw; have k1 := hSw.b0.cell; have k2 := hSw.b1.cell; go_simp; try with_reducible rfl)
            simp only [Act.put, List.setIfInBounds_toArray, List.set_cons_zero, List.set_cons_succ, List.getElem_toArray, List.getElem_cons_zero, List.getElem_cons_succ]
            refine wpAnyH_ready (rs := [2]) (by kernel_rfl) (by simp) ?_
            refine AllReadyH.cons rfl (fun K hK => ?_) AllReadyH.nil
            go_simp
            refine (HX.out _).mono ?_
            rintro e v1 ⟨rfl, hb⟩
            go_wp2_with fail
            refine hK.out _ _ (hH0.up hb) (fun hH1 => ?_)
            clear hK K hH0
            refine wpAnyH_ready (rs := [4]) (by kernel_rfl) (by simp) ?_
            refine AllReadyH.cons rfl (fun K hK => ?_) AllReadyH.nil
            go_simp
            refine (OY.out gx 0 _).mono ?_
            rintro e v2 ⟨rfl, hb⟩
            go_wp2_with fail
            refine hK.out _ _ (hH1.up hb) (fun hH2 => ?_)
            clear hK K hH1
            refine wpAnyH_ready (rs := [5]) (by kernel_rfl) (by simp) ?_
            refine AllReadyH.cons rfl (fun K hK => ?_) AllReadyH.nil
            obtain ⟨z0, z1, hx⟩ := hH2.o0.two
            have kx := hx.cell
            have fx := hx.frozen
            go_simp
            refine hK.out _ _ (hH2.set2 ⟨2, by simp⟩ _ _) (fun hX => ?_)
            refine stored2 hH2 ⟨2, by simp⟩ hx (fun v3 hH3 hy => ?_)
            clear hK K hX hH2 hx kx fx
            refine wpAnyH_done (by kernel_rfl) ?_ _
            have c2 := hy.cell
            have f2 := hy.frozen
            go_wp2_with fail
            refine bodyPost_ret (v := verV (ontoP gx 0 q2).1 (ontoP gx 0 q2).2) (by simp [results, Try.results12, go_sem, c2]) rfl ⟨by simp, ?_⟩
            exact hH3.below
          · go_enter Try.func12, Try.ntmps12
            go_wp2_with fail
            refine (refuse_any _).mono ?_
            rintro e w1 ⟨rfl, hb⟩
            have H1 := Lib.hid (H0.out.up hb)
            clear hb H0
            have c2 := H1.out.b0.cell
            have f2 := H1.out.b0.frozen
            have k1 := H1.out.b1.cell
            have k2 := H1.out.b2.cell
            go_wp2_with fail
            refine bodyPost_ret (v := verV 4 (-1)) (by simp [results, Try.results12, go_sem, c2]) rfl ⟨by simp, ?_⟩
            exact below2c H1.out.below (by omega) _ _
    · cases i2
      · cases d
        · go_enter Try.func12, Try.ntmps12
          go_wp2_with fail
          refine held_begin (by kernel_rfl) HO.out (fun v0 hH0 => ?_)
          refine wpAnyH_take (i := 0) (v := ?_) rfl (by kernel_rfl) (by kernel_rfl) (by kernel_rfl) (fun _ _ _ h => h) (Or.inl ⟨by rfl, ?_⟩) hH0 ?_
          rotate_left
          · (intro v hSw; have k1 := hSw.b0.cell; have k2 := hSw.b1.cell; go_simp; try with_reducible rfl)
          simp only [Act.put, List.setIfInBounds_toArray, List.set_cons_zero, List.set_cons_succ, List.getElem_toArray, List.getElem_cons_zero]
          refine wpAnyH_take (i := 1) (v := ?_) rfl (by kernel_rfl) (by kernel_rfl) (by kernel_rfl) (fun _ _ _ h => h) (Or.inl ⟨by rfl, ?_⟩) hH0 ?_
          rotate_left
          · (intro v hSw; have k1 := hSw.b0.cell; have k2 := hSw.b1.cell; go_simp; try with_reducible rfl)
          simp only [Act.put, List.setIfInBounds_toArray, List.set_cons_zero, List.set_cons_succ, List.getElem_toArray, List.getElem_cons_zero, List.getElem_cons_succ]
          refine wpAnyH_take (i := 3) (v := ?_) rfl (by kernel_rfl) (by kernel_rfl) (by kernel_rfl) (fun _ _ _ h => h) (Or.inl ⟨by rfl, ?_⟩) hH0 ?_
          rotate_left
          · (intro v hSw; have k1 := hSw.b0.cell; have k2 := hSw.b1.cell; go_simp; try with_reducible rfl)
          simp only [Act.put, List.setIfInBounds_toArray, List.set_cons_zero, List.set_cons_succ, List.getElem_toArray, List.getElem_cons_zero, List.getElem_cons_succ]
          refine wpAnyH_ready (rs := [2]) (by kernel_rfl) (by simp) ?_
          refine AllReadyH.cons rfl (fun K hK => ?_) AllReadyH.nil
          go_simp
          refine (HY.out _).mono ?_
          rintro e v1 ⟨rfl, hb⟩
          go_wp2_with fail
          refine hK.out _ _ (hH0.up hb) (fun hH1 => ?_)
          clear hK K hH0
          refine wpAnyH_ready (rs := [4]) (by kernel_rfl) (by simp) ?_
          refine AllReadyH.cons rfl (fun K hK => ?_) AllReadyH.nil
          go_simp
          refine (OX.out gy 1 _).mono ?_
          rintro e v2 ⟨rfl, hb⟩
          go_wp2_with fail
          refine hK.out _ _ (hH1.up hb) (fun hH2 => ?_)
          clear hK K hH1
          refine wpAnyH_ready (rs := [5]) (by kernel_rfl) (by simp) ?_
          refine AllReadyH.cons rfl (fun K hK => ?_) AllReadyH.nil
          obtain ⟨z0, z1, hx⟩ := hH2.o0.two
          have kx := hx.cell
          have fx := hx.frozen
          go_simp
          refine hK.out _ _ (hH2.set2 ⟨2, by simp⟩ _ _) (fun hX => ?_)
          refine stored2 hH2 ⟨2, by simp⟩ hx (fun v3 hH3 hy => ?_)
          clear hK K hX hH2 hx kx fx
          refine wpAnyH_done (by kernel_rfl) ?_ _
          have c2 := hy.cell
          have f2 := hy.frozen
          go_wp2_with fail
          refine bodyPost_ret (v := verV (ontoP gy 1 false).1 (ontoP gy 1 false).2) (by simp [results, Try.results12, go_sem, c2]) rfl ⟨by simp, ?_⟩
          exact hH3.below
        · cases d2
          · go_enter Try.func12, Try.ntmps12
            go_wp2_with fail
            refine held_begin (by kernel_rfl) HO.out (fun v0 hH0 => ?_)
            refine wpAnyH_take (i := 0) (v := ?_) rfl (by kernel_rfl) (by kernel_rfl) (by kernel_rfl) (fun _ _ _ h => h) (Or.inl ⟨by rfl, ?_⟩) hH0 ?_
            rotate_left
            · (intro v hSw; have k1 := hSw.b0.cell; have k2 := hSw.b1.cell; go_simp; try with_reducible rfl)
            simp only [Act.put, List.setIfInBounds_toArray, List.set_cons_zero, List.set_cons_succ, List.getElem_toArray, List.getElem_cons_zero]
            refine wpAnyH_take (i := 1) (v := ?_) rfl (by kernel_rfl) (by kernel_rfl) (by kernel_rfl) (fun _ _ _ h => h) (Or.inl ⟨by rfl, ?_⟩) hH0 ?_
            rotate_left
            · (intro v hSw; have k1 := hSw.b0.cell; have k2 := hSw.b1.cell; go_simp; try with_reducible rfl)
            simp only [Act.put, List.setIfInBounds_toArray, List.set_cons_zero, List.set_cons_succ, List.getElem_toArray, List.getElem_cons_zero, List.getElem_cons_succ]
            refine wpAnyH_take (i := 3) (v := ?_) rfl (by kernel_rfl) (by kernel_rfl) (by kernel_rfl) (fun _ _ _ h => h) (Or.inl ⟨by rfl, ?_⟩) hH0 ?_
            rotate_left
            · (intro v hSw; have k1 := hSw.b0.cell; have k2 := hSw.b1.cell; go_simp; try with_reducible rfl)
            simp only [Act.put, List.setIfInBounds_toArray, List.set_cons_zero, List.set_cons_succ, List.getElem_toArray, List.getElem_cons_zero, List.getElem_cons_succ]
            refine wpAnyH_ready (rs := [2]) (by kernel_rfl) (by simp) ?_
            refine AllReadyH.cons rfl (fun K hK => ?_) AllReadyH.nil
            go_simp
            refine (HY.out _).mono ?_
            rintro e v1 ⟨rfl, hb⟩
            go_wp2_with fail
            refine hK.out _ _ (hH0.up hb) (fun hH1 => ?_)
            clear hK K hH0
            refine wpAnyH_ready (rs := [4]) (by kernel_rfl) (by simp) ?_
            refine AllReadyH.cons rfl (fun K hK => ?_) AllReadyH.nil
            go_simp
            refine (OX.out gy 1 _).mono ?_
            rintro e v2 ⟨rfl, hb⟩
            go_wp2_with fail
            refine hK.out _ _ (hH1.up hb) (fun hH2 => ?_)
            clear hK K hH1
            refine wpAnyH_ready (rs := [5]) (by kernel_rfl) (by simp) ?_
            refine AllReadyH.cons rfl (fun K hK => ?_) AllReadyH.nil
            obtain ⟨z0, z1, hx⟩ := hH2.o0.two
            have kx := hx.cell
            have fx := hx.frozen
            go_simp
            refine hK.out _ _ (hH2.set2 ⟨2, by simp⟩ _ _) (fun hX => ?_)
            refine stored2 hH2 ⟨2, by simp⟩ hx (fun v3 hH3 hy => ?_)
            clear hK K hX hH2 hx kx fx
            refine wpAnyH_done (by kernel_rfl) ?_ _
            have c2 := hy.cell
            have f2 := hy.frozen
            go_wp2_with fail
            refine bodyPost_ret (v := verV (ontoP gy 1 false).1 (ontoP gy 1 false).2) (by simp [results, Try.results12, go_sem, c2]) rfl ⟨by simp, ?_⟩
            exact hH3.below
          · go_enter Try.func12, Try.ntmps12
            go_wp2_with fail
            refine (refuse_any _).mono ?_
            rintro e w1 ⟨rfl, hb⟩
            have H1 := Lib.hid (H0.out.up hb)
            clear hb H0
            have c2 := H1.out.b0.cell
            have f2 := H1.out.b0.frozen
            have k1 := H1.out.b1.cell
            have k2 := H1.out.b2.cell
            go_wp2_with fail
            refine bodyPost_ret (v := verV 4 (-1)) (by simp [results, Try.results12, go_sem, c2]) rfl ⟨by simp, ?_⟩
            exact below2c H1.out.below (by omega) _ _
      · go_enter Try.func12, Try.ntmps12
        go_wp2_with fail
        refine (refuse_any _).mono ?_
        rintro e w1 ⟨rfl, hb⟩
        have H1 := Lib.hid (H0.out.up hb)
        clear hb H0
        have c2 := H1.out.b0.cell
        have f2 := H1.out.b0.frozen
        have k1 := H1.out.b1.cell
        have k2 := H1.out.b2.cell
        go_wp2_with fail
        refine bodyPost_ret (v := verV 4 (-1)) (by simp [results, Try.results12, go_sem, c2]) rfl ⟨by simp, ?_⟩
        exact below2c H1.out.below (by omega) _ _
  · have en : (n != n2) = true := bne_iff_ne.2 hn
    go_enter Try.func12, Try.ntmps12
    go_wp2_with fail
    refine (refuse_any _).mono ?_
    rintro e w1 ⟨rfl, hb⟩
    have H1 := Lib.hid (H0.out.up hb)
    clear hb H0
    have c2 := H1.out.b0.cell
    have f2 := H1.out.b0.frozen
    have k1 := H1.out.b1.cell
    have k2 := H1.out.b2.cell
    go_wp2_with fail
    refine bodyPost_ret (v := verV 4 (-1)) (by simp [results, Try.results12, go_sem, c2]) rfl ⟨by simp, ?_⟩
    exact below2c H1.out.below (by omega) _ _

end Go.Proofs.Ytjdcpcfjekfdeaa
