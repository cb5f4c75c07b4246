/- Rule: who gives data, and the verdict of two hellos, as the code tells them; for every two hellos. No other condition. -/
import Derived.Test.YtjdcpcfjekfdeaaRA
namespace Go.Proofs.Ytjdcpcfjekfdeaa
open Go.RowKit

/-- The verdict's kind, and its source. -/
def decK (x y : Hel) : Int := if srcI x y = 0 then kindI x y else if srcI x y = 1 then kindI y x else 4
def decS (x y : Hel) : Int := if decK x y = 4 then -1 else if decK x y = 1 then -1 else srcI x y
set_option maxRecDepth 100000 in
set_option maxHeartbeats 4000000 in
theorem src_any (x y : Hel) (w : World) : Calls Try.prog 21 #[helV x, helV y] w fun e w' => e = .returned (.int .i64 (srcI x y)) ∧ Below w.heap.size w w' := by
  have hl := fun w => like_any x y w
  have hk := fun w => knows_any x y w
  have hr := fun w => knows_any y x w
  obtain ⟨n, c, b, o, p, i, r, d, q, m⟩ := x
  obtain ⟨n2, c2, b2, o2, p2, i2, r2, d2, q2, m2⟩ := y
  unfold srcI
  dsimp only [helV] at *
  have HL := Lib.hid hl; clear hl
  have HK := Lib.hid hk; clear hk
  have HR := Lib.hid hr; clear hr
  generalize likeI ⟨n, c, b, o, p, i, r, d, q, m⟩ ⟨n2, c2, b2, o2, p2, i2, r2, d2, q2, m2⟩ = z at *
  generalize knowsB ⟨n, c, b, o, p, i, r, d, q, m⟩ ⟨n2, c2, b2, o2, p2, i2, r2, d2, q2, m2⟩ = u at *
  generalize knowsB ⟨n2, c2, b2, o2, p2, i2, r2, d2, q2, m2⟩ ⟨n, c, b, o, p, i, r, d, q, m⟩ = v at *
  have H0 := ((Held.refl w).lay [.int .i64 n, .int .u64 c, .int .u64 b, .int .u64 o, .int .u64 p, .bool i, .bool r, .bool d, .bool q, .int .u32 (m : Int)] 28).lay [.int .i64 n2, .int .u64 c2, .int .u64 b2, .int .u64 o2, .int .u64 p2, .bool i2, .bool r2, .bool d2, .bool q2, .int .u32 (m2 : Int)] 28
  simp only [World.size_alloc] at H0
  replace H0 := Lib.hid H0
  by_cases hn : n = n2
  · subst hn
    have en : (n != n) = false := bne_self_eq_false n
    cases q
    · cases i
      · cases i2
        · cases d
          · cases d2
            · by_cases hc : c = c2
              · subst hc
                have ec : (c == c) = true := beq_self_eq_true c
                go_enter Try.func21, Try.ntmps21
                go_wp2_with fail
                refine (HL.out _).mono ?_
                rintro e w1 ⟨rfl, hb⟩
                have H1 := Lib.hid (H0.out.up hb)
                clear hb H0
                go_wp2_with fail
                go_ret
                exact ⟨ret_int (by simp), H1.out.below⟩
              · have ec : (c == c2) = false := beq_eq_false_iff_ne.2 hc
                cases u
                · cases v
                  · go_enter Try.func21, Try.ntmps21
                    go_wp2_with fail
                    refine held_begin (by kernel_rfl) H0.out (fun v0 hH0 => ?_)
                    refine wpAnyH_take (i := 0) (v := ?_) rfl (by kernel_rfl) (by kernel_rfl) (by kernel_rfl) (fun _ _ _ h => h) (Or.inl ⟨by rfl, ?_⟩) hH0 ?_
                    rotate_left
                    · (intro v hSw; have k1 := hSw.b0.cell; have k2 := hSw.b1.cell; go_simp; try with_reducible rfl)
                    simp only [Act.put, List.setIfInBounds_toArray, List.set_cons_zero, List.set_cons_succ, List.getElem_toArray, List.getElem_cons_zero]
                    refine wpAnyH_take (i := 1) (v := ?_) rfl (by kernel_rfl) (by kernel_rfl) (by kernel_rfl) (fun _ _ _ h => h) (Or.inl ⟨by rfl, ?_⟩) hH0 ?_
                    rotate_left
                    · (intro v hSw; have k1 := hSw.b0.cell; have k2 := hSw.b1.cell; go_simp; try with_reducible rfl)
                    simp only [Act.put, List.setIfInBounds_toArray, List.set_cons_zero, List.set_cons_succ, List.getElem_toArray, List.getElem_cons_zero, List.getElem_cons_succ]
                    refine wpAnyH_take (i := 3) (v := ?_) rfl (by kernel_rfl) (by kernel_rfl) (by kernel_rfl) (fun _ _ _ h => h) (Or.inl ⟨by rfl, ?_⟩) hH0 ?_
                    rotate_left
                    · (intro v hSw; have k1 := hSw.b0.cell; have k2 := hSw.b1.cell; go_simp; try with_reducible rfl)
                    simp only [Act.put, List.setIfInBounds_toArray, List.set_cons_zero, List.set_cons_succ, List.getElem_toArray, List.getElem_cons_zero, List.getElem_cons_succ]
                    refine wpAnyH_take (i := 4) (v := ?_) rfl (by kernel_rfl) (by kernel_rfl) (by kernel_rfl) (fun _ _ _ h => h) (Or.inl ⟨by rfl, ?_⟩) hH0 ?_
                    rotate_left
                    · (intro v hSw; have k1 := hSw.b0.cell; have k2 := hSw.b1.cell; go_simp; try with_reducible rfl)
                    simp only [Act.put, List.setIfInBounds_toArray, List.set_cons_zero, List.set_cons_succ, List.getElem_toArray, List.getElem_cons_zero, List.getElem_cons_succ]
                    refine wpAnyH_ready (rs := [2]) (by kernel_rfl) (by simp) ?_
                    refine AllReadyH.cons rfl (fun K hK => ?_) AllReadyH.nil
                    go_simp
                    refine (HK.out _).mono ?_
                    rintro e v1 ⟨rfl, hb⟩
                    go_wp2_with fail
                    refine hK.out _ _ (hH0.up hb) (fun hH1 => ?_)
                    clear hK K hH0
                    refine wpAnyH_ready (rs := [5]) (by kernel_rfl) (by simp) ?_
                    refine AllReadyH.cons rfl (fun K hK => ?_) AllReadyH.nil
                    go_simp
                    refine (HR.out _).mono ?_
                    rintro e v2 ⟨rfl, hb⟩
                    go_wp2_with fail
                    refine hK.out _ _ (hH1.up hb) (fun hH2 => ?_)
                    clear hK K hH1
                    refine wpAnyH_take (i := 6) (v := ?_) rfl (by kernel_rfl) (by kernel_rfl) (by kernel_rfl) (fun _ _ _ h => h) (Or.inl ⟨by rfl, ?_⟩) hH2 ?_
                    rotate_left
                    · (intro v hSw; have k1 := hSw.b0.cell; have k2 := hSw.b1.cell; go_simp; try with_reducible rfl)
                    simp only [Act.put, List.setIfInBounds_toArray, List.set_cons_zero, List.set_cons_succ, List.getElem_toArray, List.getElem_cons_zero, List.getElem_cons_succ]
                    refine wpAnyH_take (i := 7) (v := ?_) rfl (by kernel_rfl) (by kernel_rfl) (by kernel_rfl) (fun _ _ _ h => h) (Or.inl ⟨by rfl, ?_⟩) hH2 ?_
                    rotate_left
                    · (intro v hSw; have k1 := hSw.b0.cell; have k2 := hSw.b1.cell; go_simp; try with_reducible rfl)
                    simp only [Act.put, List.setIfInBounds_toArray, List.set_cons_zero, List.set_cons_succ, List.getElem_toArray, List.getElem_cons_zero, List.getElem_cons_succ]
                    refine wpAnyH_done (by kernel_rfl) ?_ _
                    go_wp2_with fail
                    go_ret
                    exact ⟨ret_int (by simp), hH2.below⟩
                  · go_enter Try.func21, Try.ntmps21
                    go_wp2_with fail
                    refine held_begin (by kernel_rfl) H0.out (fun v0 hH0 => ?_)
                    refine wpAnyH_take (i := 0) (v := ?_) rfl (by kernel_rfl) (by kernel_rfl) (by kernel_rfl) (fun _ _ _ h => h) (Or.inl ⟨by rfl, ?_⟩) hH0 ?_
                    rotate_left
                    · (intro v hSw; have k1 := hSw.b0.cell; have k2 := hSw.b1.cell; go_simp; try with_reducible rfl)
                    simp only [Act.put, List.setIfInBounds_toArray, List.set_cons_zero, List.set_cons_succ, List.getElem_toArray, List.getElem_cons_zero]
                    refine wpAnyH_take (i := 1) (v := ?_) rfl (by kernel_rfl) (by kernel_rfl) (by kernel_rfl) (fun _ _ _ h => h) (Or.inl ⟨by rfl, ?_⟩) hH0 ?_
                    rotate_left
                    · (intro v hSw; have k1 := hSw.b0.cell; have k2 := hSw.b1.cell; go_simp; try with_reducible rfl)
                    simp only [Act.put, List.setIfInBounds_toArray, List.set_cons_zero, List.set_cons_succ, List.getElem_toArray, List.getElem_cons_zero, List.getElem_cons_succ]
                    refine wpAnyH_take (i := 3) (v := ?_) rfl (by kernel_rfl) (by kernel_rfl) (by kernel_rfl) (fun _ _ _ h => h) (Or.inl ⟨by rfl, ?_⟩) hH0 ?_
                    rotate_left
                    · (intro v hSw; have k1 := hSw.b0.cell; have k2 := hSw.b1.cell; go_simp; try with_reducible rfl)
                    simp only [Act.put, List.setIfInBounds_toArray, List.set_cons_zero, List.set_cons_succ, List.getElem_toArray, List.getElem_cons_zero, List.getElem_cons_succ]
                    refine wpAnyH_take (i := 4) (v := ?_) rfl (by kernel_rfl) (by kernel_rfl) (by kernel_rfl) (fun _ _ _ h => h) (Or.inl ⟨by rfl, ?_⟩) hH0 ?_
                    rotate_left
                    · (intro v hSw; have k1 := hSw.b0.cell; have k2 := hSw.b1.cell; go_simp; try with_reducible rfl)
                    simp only [Act.put, List.setIfInBounds_toArray, List.set_cons_zero, List.set_cons_succ, List.getElem_toArray, List.getElem_cons_zero, List.getElem_cons_succ]
                    refine wpAnyH_ready (rs := [2]) (by kernel_rfl) (by simp) ?_
                    refine AllReadyH.cons rfl (fun K hK => ?_) AllReadyH.nil
                    go_simp
                    refine (HK.out _).mono ?_
                    rintro e v1 ⟨rfl, hb⟩
                    go_wp2_with fail
                    refine hK.out _ _ (hH0.up hb) (fun hH1 => ?_)
                    clear hK K hH0
                    refine wpAnyH_ready (rs := [5]) (by kernel_rfl) (by simp) ?_
                    refine AllReadyH.cons rfl (fun K hK => ?_) AllReadyH.nil
                    go_simp
                    refine (HR.out _).mono ?_
                    rintro e v2 ⟨rfl, hb⟩
                    go_wp2_with fail
                    refine hK.out _ _ (hH1.up hb) (fun hH2 => ?_)
                    clear hK K hH1
                    refine wpAnyH_take (i := 6) (v := ?_) rfl (by kernel_rfl) (by kernel_rfl) (by kernel_rfl) (fun _ _ _ h => h) (Or.inl ⟨by rfl, ?_⟩) hH2 ?_
                    rotate_left
                    · (intro v hSw; have k1 := hSw.b0.cell; have k2 := hSw.b1.cell; go_simp; try with_reducible rfl)
                    simp only [Act.put, List.setIfInBounds_toArray, List.set_cons_zero, List.set_cons_succ, List.getElem_toArray, List.getElem_cons_zero, List.getElem_cons_succ]
                    refine wpAnyH_take (i := 7) (v := ?_) rfl (by kernel_rfl) (by kernel_rfl) (by kernel_rfl) (fun _ _ _ h => h) (Or.inl ⟨by rfl, ?_⟩) hH2 ?_
                    rotate_left
                    · (intro v hSw; have k1 := hSw.b0.cell; have k2 := hSw.b1.cell; go_simp; try with_reducible rfl)
                    simp only [Act.put, List.setIfInBounds_toArray, List.set_cons_zero, List.set_cons_succ, List.getElem_toArray, List.getElem_cons_zero, List.getElem_cons_succ]
                    refine wpAnyH_done (by kernel_rfl) ?_ _
                    have H6 := Lib.hid hH2
                    have k1 := H6.out.b0.cell
                    have k2 := H6.out.b1.cell
                    go_wp2_with fail
                    refine (HK.out _).mono ?_
                    rintro e w7 ⟨rfl, hb⟩
                    have H7 := Lib.hid (H6.out.up hb)
                    clear hb H6 k1 k2
                    go_wp2_with fail
                    refine (first_any false _).mono ?_
                    rintro e w8 ⟨rfl, hb⟩
                    have H8 := Lib.hid (H7.out.up hb)
                    clear hb H7
                    go_wp2_with fail
                    go_ret
                    exact ⟨ret_int (by simp), H8.out.below⟩
                · cases v
                  · go_enter Try.func21, Try.ntmps21
                    go_wp2_with fail
                    refine held_begin (by kernel_rfl) H0.out (fun v0 hH0 => ?_)
                    refine wpAnyH_take (i := 0) (v := ?_) rfl (by kernel_rfl) (by kernel_rfl) (by kernel_rfl) (fun _ _ _ h => h) (Or.inl ⟨by rfl, ?_⟩) hH0 ?_
                    rotate_left
                    · (intro v hSw; have k1 := hSw.b0.cell; have k2 := hSw.b1.cell; go_simp; try with_reducible rfl)
                    simp only [Act.put, List.setIfInBounds_toArray, List.set_cons_zero, List.set_cons_succ, List.getElem_toArray, List.getElem_cons_zero]
                    refine wpAnyH_take (i := 1) (v := ?_) rfl (by kernel_rfl) (by kernel_rfl) (by kernel_rfl) (fun _ _ _ h => h) (Or.inl ⟨by rfl, ?_⟩) hH0 ?_
                    rotate_left
                    · (intro v hSw; have k1 := hSw.b0.cell; have k2 := hSw.b1.cell; go_simp; try with_reducible rfl)
                    simp only [Act.put, List.setIfInBounds_toArray, List.set_cons_zero, List.set_cons_succ, List.getElem_toArray, List.getElem_cons_zero, List.getElem_cons_succ]
                    refine wpAnyH_take (i := 3) (v := ?_) rfl (by kernel_rfl) (by kernel_rfl) (by kernel_rfl) (fun _ _ _ h => h) (Or.inl ⟨by rfl, ?_⟩) hH0 ?_
                    rotate_left
                    · (intro v hSw; have k1 := hSw.b0.cell; have k2 := hSw.b1.cell; go_simp; try with_reducible rfl)
                    simp only [Act.put, List.setIfInBounds_toArray, List.set_cons_zero, List.set_cons_succ, List.getElem_toArray, List.getElem_cons_zero, List.getElem_cons_succ]
                    refine wpAnyH_take (i := 4) (v := ?_) rfl (by kernel_rfl) (by kernel_rfl) (by kernel_rfl) (fun _ _ _ h => h) (Or.inl ⟨by rfl, ?_⟩) hH0 ?_
                    rotate_left
                    · (intro v hSw; have k1 := hSw.b0.cell; have k2 := hSw.b1.cell; go_simp; try with_reducible rfl)
                    simp only [Act.put, List.setIfInBounds_toArray, List.set_cons_zero, List.set_cons_succ, List.getElem_toArray, List.getElem_cons_zero, List.getElem_cons_succ]
                    refine wpAnyH_ready (rs := [2]) (by kernel_rfl) (by simp) ?_
                    refine AllReadyH.cons rfl (fun K hK => ?_) AllReadyH.nil
                    go_simp
                    refine (HK.out _).mono ?_
                    rintro e v1 ⟨rfl, hb⟩
                    go_wp2_with fail
                    refine hK.out _ _ (hH0.up hb) (fun hH1 => ?_)
                    clear hK K hH0
                    refine wpAnyH_ready (rs := [5]) (by kernel_rfl) (by simp) ?_
                    refine AllReadyH.cons rfl (fun K hK => ?_) AllReadyH.nil
                    go_simp
                    refine (HR.out _).mono ?_
                    rintro e v2 ⟨rfl, hb⟩
                    go_wp2_with fail
                    refine hK.out _ _ (hH1.up hb) (fun hH2 => ?_)
                    clear hK K hH1
                    refine wpAnyH_take (i := 6) (v := ?_) rfl (by kernel_rfl) (by kernel_rfl) (by kernel_rfl) (fun _ _ _ h => h) (Or.inl ⟨by rfl, ?_⟩) hH2 ?_
                    rotate_left
                    · (intro v hSw; have k1 := hSw.b0.cell; have k2 := hSw.b1.cell; go_simp; try with_reducible rfl)
                    simp only [Act.put, List.setIfInBounds_toArray, List.set_cons_zero, List.set_cons_succ, List.getElem_toArray, List.getElem_cons_zero, List.getElem_cons_succ]
                    refine wpAnyH_take (i := 7) (v := ?_) rfl (by kernel_rfl) (by kernel_rfl) (by kernel_rfl) (fun _ _ _ h => h) (Or.inl ⟨by rfl, ?_⟩) hH2 ?_
                    rotate_left
                    · (intro v hSw; have k1 := hSw.b0.cell; have k2 := hSw.b1.cell; go_simp; try with_reducible rfl)
                    simp only [Act.put, List.setIfInBounds_toArray, List.set_cons_zero, List.set_cons_succ, List.getElem_toArray, List.getElem_cons_zero, List.getElem_cons_succ]
                    refine wpAnyH_done (by kernel_rfl) ?_ _
                    have H6 := Lib.hid hH2
                    have k1 := H6.out.b0.cell
                    have k2 := H6.out.b1.cell
                    go_wp2_with fail
                    refine (HK.out _).mono ?_
                    rintro e w7 ⟨rfl, hb⟩
                    have H7 := Lib.hid (H6.out.up hb)
                    clear hb H6 k1 k2
                    go_wp2_with fail
                    refine (first_any true _).mono ?_
                    rintro e w8 ⟨rfl, hb⟩
                    have H8 := Lib.hid (H7.out.up hb)
                    clear hb H7
                    go_wp2_with fail
                    go_ret
                    exact ⟨ret_int (by simp), H8.out.below⟩
                  · go_enter Try.func21, Try.ntmps21
                    go_wp2_with fail
                    refine held_begin (by kernel_rfl) H0.out (fun v0 hH0 => ?_)
                    refine wpAnyH_take (i := 0) (v := ?_) rfl (by kernel_rfl) (by kernel_rfl) (by kernel_rfl) (fun _ _ _ h => h) (Or.inl ⟨by rfl, ?_⟩) hH0 ?_
                    rotate_left
                    · (intro v hSw; have k1 := hSw.b0.cell; have k2 := hSw.b1.cell; go_simp; try with_reducible rfl)
                    simp only [Act.put, List.setIfInBounds_toArray, List.set_cons_zero, List.set_cons_succ, List.getElem_toArray, List.getElem_cons_zero]
                    refine wpAnyH_take (i := 1) (v := ?_) rfl (by kernel_rfl) (by kernel_rfl) (by kernel_rfl) (fun _ _ _ h => h) (Or.inl ⟨by rfl, ?_⟩) hH0 ?_
                    rotate_left
                    · (intro v hSw; have k1 := hSw.b0.cell; have k2 := hSw.b1.cell; go_simp; try with_reducible rfl)
                    simp only [Act.put, List.setIfInBounds_toArray, List.set_cons_zero, List.set_cons_succ, List.getElem_toArray, List.getElem_cons_zero, List.getElem_cons_succ]
                    refine wpAnyH_take (i := 3) (v := ?_) rfl (by kernel_rfl) (by kernel_rfl) (by kernel_rfl) (fun _ _ _ h => h) (Or.inl ⟨by rfl, ?_⟩) hH0 ?_
                    rotate_left
                    · (intro v hSw; have k1 := hSw.b0.cell; have k2 := hSw.b1.cell; go_simp; try with_reducible rfl)
                    simp only [Act.put, List.setIfInBounds_toArray, List.set_cons_zero, List.set_cons_succ, List.getElem_toArray, List.getElem_cons_zero, List.getElem_cons_succ]
                    refine wpAnyH_take (i := 4) (v := ?_) rfl (by kernel_rfl) (by kernel_rfl) (by kernel_rfl) (fun _ _ _ h => h) (Or.inl ⟨by rfl, ?_⟩) hH0 ?_
                    rotate_left
                    · (intro v hSw; have k1 := hSw.b0.cell; have k2 := hSw.b1.cell; go_simp; try with_reducible rfl)
                    simp only [Act.put, List.setIfInBounds_toArray, List.set_cons_zero, List.set_cons_succ, List.getElem_toArray, List.getElem_cons_zero, List.getElem_cons_succ]
                    refine wpAnyH_ready (rs := [2]) (by kernel_rfl) (by simp) ?_
                    refine AllReadyH.cons rfl (fun K hK => ?_) AllReadyH.nil
                    go_simp
                    refine (HK.out _).mono ?_
                    rintro e v1 ⟨rfl, hb⟩
                    go_wp2_with fail
                    refine hK.out _ _ (hH0.up hb) (fun hH1 => ?_)
                    clear hK K hH0
                    refine wpAnyH_ready (rs := [5]) (by kernel_rfl) (by simp) ?_
                    refine AllReadyH.cons rfl (fun K hK => ?_) AllReadyH.nil
                    go_simp
                    refine (HR.out _).mono ?_
                    rintro e v2 ⟨rfl, hb⟩
                    go_wp2_with fail
                    refine hK.out _ _ (hH1.up hb) (fun hH2 => ?_)
                    clear hK K hH1
                    refine wpAnyH_take (i := 6) (v := ?_) rfl (by kernel_rfl) (by kernel_rfl) (by kernel_rfl) (fun _ _ _ h => h) (Or.inl ⟨by rfl, ?_⟩) hH2 ?_
                    rotate_left
                    · (intro v hSw; have k1 := hSw.b0.cell; have k2 := hSw.b1.cell; go_simp; try with_reducible rfl)
                    simp only [Act.put, List.setIfInBounds_toArray, List.set_cons_zero, List.set_cons_succ, List.getElem_toArray, List.getElem_cons_zero, List.getElem_cons_succ]
                    refine wpAnyH_take (i := 7) (v := ?_) rfl (by kernel_rfl) (by kernel_rfl) (by kernel_rfl) (fun _ _ _ h => h) (Or.inl ⟨by rfl, ?_⟩) hH2 ?_
                    rotate_left
                    · (intro v hSw; have k1 := hSw.b0.cell; have k2 := hSw.b1.cell; go_simp; try with_reducible rfl)
                    simp only [Act.put, List.setIfInBounds_toArray, List.set_cons_zero, List.set_cons_succ, List.getElem_toArray, List.getElem_cons_zero, List.getElem_cons_succ]
                    refine wpAnyH_done (by kernel_rfl) ?_ _
                    go_wp2_with fail
                    go_ret
                    exact ⟨ret_int (by simp), hH2.below⟩
            · go_enter Try.func21, Try.ntmps21
              go_wp2_with fail
              refine (first_any true _).mono ?_
              rintro e w1 ⟨rfl, hb⟩
              have H1 := Lib.hid (H0.out.up hb)
              clear hb H0
              go_wp2_with fail
              go_ret
              exact ⟨ret_int (by simp), H1.out.below⟩
          · cases d2
            · go_enter Try.func21, Try.ntmps21
              go_wp2_with fail
              refine (first_any false _).mono ?_
              rintro e w1 ⟨rfl, hb⟩
              have H1 := Lib.hid (H0.out.up hb)
              clear hb H0
              go_wp2_with fail
              go_ret
              exact ⟨ret_int (by simp), H1.out.below⟩
            · go_enter Try.func21, Try.ntmps21
              go_wp2_with fail
              go_ret
              exact ⟨ret_int (by simp), H0.out.below⟩
        · cases d
          · go_enter Try.func21, Try.ntmps21
            go_wp2_with fail
            refine (first_any true _).mono ?_
            rintro e w1 ⟨rfl, hb⟩
            have H1 := Lib.hid (H0.out.up hb)
            clear hb H0
            go_wp2_with fail
            go_ret
            exact ⟨ret_int (by simp), H1.out.below⟩
          · cases d2
            · go_enter Try.func21, Try.ntmps21
              go_wp2_with fail
              refine (first_any true _).mono ?_
              rintro e w1 ⟨rfl, hb⟩
              have H1 := Lib.hid (H0.out.up hb)
              clear hb H0
              go_wp2_with fail
              go_ret
              exact ⟨ret_int (by simp), H1.out.below⟩
            · go_enter Try.func21, Try.ntmps21
              go_wp2_with fail
              go_ret
              exact ⟨ret_int (by simp), H0.out.below⟩
      · cases i2
        · cases d
          · go_enter Try.func21, Try.ntmps21
            go_wp2_with fail
            refine (first_any false _).mono ?_
            rintro e w1 ⟨rfl, hb⟩
            have H1 := Lib.hid (H0.out.up hb)
            clear hb H0
            go_wp2_with fail
            go_ret
            exact ⟨ret_int (by simp), H1.out.below⟩
          · cases d2
            · go_enter Try.func21, Try.ntmps21
              go_wp2_with fail
              refine (first_any false _).mono ?_
              rintro e w1 ⟨rfl, hb⟩
              have H1 := Lib.hid (H0.out.up hb)
              clear hb H0
              go_wp2_with fail
              go_ret
              exact ⟨ret_int (by simp), H1.out.below⟩
            · go_enter Try.func21, Try.ntmps21
              go_wp2_with fail
              go_ret
              exact ⟨ret_int (by simp), H0.out.below⟩
        · go_enter Try.func21, Try.ntmps21
          go_wp2_with fail
          go_ret
          exact ⟨ret_int (by simp), H0.out.below⟩
    · cases q2
      · cases i
        · cases i2
          · cases d
            · cases d2
              · by_cases hc : c = c2
                · subst hc
                  have ec : (c == c) = true := beq_self_eq_true c
                  go_enter Try.func21, Try.ntmps21
                  go_wp2_with fail
                  refine (HL.out _).mono ?_
                  rintro e w1 ⟨rfl, hb⟩
                  have H1 := Lib.hid (H0.out.up hb)
                  clear hb H0
                  go_wp2_with fail
                  go_ret
                  exact ⟨ret_int (by simp), H1.out.below⟩
                · have ec : (c == c2) = false := beq_eq_false_iff_ne.2 hc
                  cases u
                  · cases v
                    · go_enter Try.func21, Try.ntmps21
                      go_wp2_with fail
                      refine held_begin (by kernel_rfl) H0.out (fun v0 hH0 => ?_)
                      refine wpAnyH_take (i := 0) (v := ?_) rfl (by kernel_rfl) (by kernel_rfl) (by kernel_rfl) (fun _ _ _ h => h) (Or.inl ⟨by rfl, ?_⟩) hH0 ?_
                      rotate_left
                      · (intro v hSw; have k1 := hSw.b0.cell; have k2 := hSw.b1.cell; go_simp; try with_reducible rfl)
                      simp only [Act.put, List.setIfInBounds_toArray, List.set_cons_zero, List.set_cons_succ, List.getElem_toArray, List.getElem_cons_zero]
                      refine wpAnyH_take (i := 1) (v := ?_) rfl (by kernel_rfl) (by kernel_rfl) (by kernel_rfl) (fun _ _ _ h => h) (Or.inl ⟨by rfl, ?_⟩) hH0 ?_
                      rotate_left
                      · (intro v hSw; have k1 := hSw.b0.cell; have k2 := hSw.b1.cell; go_simp; try with_reducible rfl)
                      simp only [Act.put, List.setIfInBounds_toArray, List.set_cons_zero, List.set_cons_succ, List.getElem_toArray, List.getElem_cons_zero, List.getElem_cons_succ]
                      refine wpAnyH_take (i := 3) (v := ?_) rfl (by kernel_rfl) (by kernel_rfl) (by kernel_rfl) (fun _ _ _ h => h) (Or.inl ⟨by rfl, ?_⟩) hH0 ?_
                      rotate_left
                      · (intro v hSw; have k1 := hSw.b0.cell; have k2 := hSw.b1.cell; go_simp; try with_reducible rfl)
                      simp only [Act.put, List.setIfInBounds_toArray, List.set_cons_zero, List.set_cons_succ, List.getElem_toArray, List.getElem_cons_zero, List.getElem_cons_succ]
                      refine wpAnyH_take (i := 4) (v := ?_) rfl (by kernel_rfl) (by kernel_rfl) (by kernel_rfl) (fun _ _ _ h => h) (Or.inl ⟨by rfl, ?_⟩) hH0 ?_
                      rotate_left
                      · (intro v hSw; have k1 := hSw.b0.cell; have k2 := hSw.b1.cell; go_simp; try with_reducible rfl)
                      simp only [Act.put, List.setIfInBounds_toArray, List.set_cons_zero, List.set_cons_succ, List.getElem_toArray, List.getElem_cons_zero, List.getElem_cons_succ]
                      refine wpAnyH_ready (rs := [2]) (by kernel_rfl) (by simp) ?_
                      refine AllReadyH.cons rfl (fun K hK => ?_) AllReadyH.nil
                      go_simp
                      refine (HK.out _).mono ?_
                      rintro e v1 ⟨rfl, hb⟩
                      go_wp2_with fail
                      refine hK.out _ _ (hH0.up hb) (fun hH1 => ?_)
                      clear hK K hH0
                      refine wpAnyH_ready (rs := [5]) (by kernel_rfl) (by simp) ?_
                      refine AllReadyH.cons rfl (fun K hK => ?_) AllReadyH.nil
                      go_simp
                      refine (HR.out _).mono ?_
                      rintro e v2 ⟨rfl, hb⟩
                      go_wp2_with fail
                      refine hK.out _ _ (hH1.up hb) (fun hH2 => ?_)
                      clear hK K hH1
                      refine wpAnyH_take (i := 6) (v := ?_) rfl (by kernel_rfl) (by kernel_rfl) (by kernel_rfl) (fun _ _ _ h => h) (Or.inl ⟨by rfl, ?_⟩) hH2 ?_
                      rotate_left
                      · (intro v hSw; have k1 := hSw.b0.cell; have k2 := hSw.b1.cell; go_simp; try with_reducible rfl)
                      simp only [Act.put, List.setIfInBounds_toArray, List.set_cons_zero, List.set_cons_succ, List.getElem_toArray, List.getElem_cons_zero, List.getElem_cons_succ]
                      refine wpAnyH_take (i := 7) (v := ?_) rfl (by kernel_rfl) (by kernel_rfl) (by kernel_rfl) (fun _ _ _ h => h) (Or.inl ⟨by rfl, ?_⟩) hH2 ?_
                      rotate_left
                      · (intro v hSw; have k1 := hSw.b0.cell; have k2 := hSw.b1.cell; go_simp; try with_reducible rfl)
                      simp only [Act.put, List.setIfInBounds_toArray, List.set_cons_zero, List.set_cons_succ, List.getElem_toArray, List.getElem_cons_zero, List.getElem_cons_succ]
                      refine wpAnyH_done (by kernel_rfl) ?_ _
                      go_wp2_with fail
                      go_ret
                      exact ⟨ret_int (by simp), hH2.below⟩
                    · go_enter Try.func21, Try.ntmps21
                      go_wp2_with fail
                      refine held_begin (by kernel_rfl) H0.out (fun v0 hH0 => ?_)
                      refine wpAnyH_take (i := 0) (v := ?_) rfl (by kernel_rfl) (by kernel_rfl) (by kernel_rfl) (fun _ _ _ h => h) (Or.inl ⟨by rfl, ?_⟩) hH0 ?_
                      rotate_left
                      · (intro v hSw; have k1 := hSw.b0.cell; have k2 := hSw.b1.cell; go_simp; try with_reducible rfl)
                      simp only [Act.put, List.setIfInBounds_toArray, List.set_cons_zero, List.set_cons_succ, List.getElem_toArray, List.getElem_cons_zero]
                      refine wpAnyH_take (i := 1) (v := ?_) rfl (by kernel_rfl) (by kernel_rfl) (by kernel_rfl) (fun _ _ _ h => h) (Or.inl ⟨by rfl, ?_⟩) hH0 ?_
                      rotate_left
                      · (intro v hSw; have k1 := hSw.b0.cell; have k2 := hSw.b1.cell; go_simp; try with_reducible rfl)
                      simp only [Act.put, List.setIfInBounds_toArray, List.set_cons_zero, List.set_cons_succ, List.getElem_toArray, List.getElem_cons_zero, List.getElem_cons_succ]
                      refine wpAnyH_take (i := 3) (v := ?_) rfl (by kernel_rfl) (by kernel_rfl) (by kernel_rfl) (fun _ _ _ h => h) (Or.inl ⟨by rfl, ?_⟩) hH0 ?_
                      rotate_left
                      · (intro v hSw; have k1 := hSw.b0.cell; have k2 := hSw.b1.cell; go_simp; try with_reducible rfl)
                      simp only [Act.put, List.setIfInBounds_toArray, List.set_cons_zero, List.set_cons_succ, List.getElem_toArray, List.getElem_cons_zero, List.getElem_cons_succ]
                      refine wpAnyH_take (i := 4) (v := ?_) rfl (by kernel_rfl) (by kernel_rfl) (by kernel_rfl) (fun _ _ _ h => h) (Or.inl ⟨by rfl, ?_⟩) hH0 ?_
                      rotate_left
                      · (intro v hSw; have k1 := hSw.b0.cell; have k2 := hSw.b1.cell; go_simp; try with_reducible rfl)
                      simp only [Act.put, List.setIfInBounds_toArray, List.set_cons_zero, List.set_cons_succ, List.getElem_toArray, List.getElem_cons_zero, List.getElem_cons_succ]
                      refine wpAnyH_ready (rs := [2]) (by kernel_rfl) (by simp) ?_
                      refine AllReadyH.cons rfl (fun K hK => ?_) AllReadyH.nil
                      go_simp
                      refine (HK.out _).mono ?_
                      rintro e v1 ⟨rfl, hb⟩
                      go_wp2_with fail
                      refine hK.out _ _ (hH0.up hb) (fun hH1 => ?_)
                      clear hK K hH0
                      refine wpAnyH_ready (rs := [5]) (by kernel_rfl) (by simp) ?_
                      refine AllReadyH.cons rfl (fun K hK => ?_) AllReadyH.nil
                      go_simp
                      refine (HR.out _).mono ?_
                      rintro e v2 ⟨rfl, hb⟩
                      go_wp2_with fail
                      refine hK.out _ _ (hH1.up hb) (fun hH2 => ?_)
                      clear hK K hH1
                      refine wpAnyH_take (i := 6) (v := ?_) rfl (by kernel_rfl) (by kernel_rfl) (by kernel_rfl) (fun _ _ _ h => h) (Or.inl ⟨by rfl, ?_⟩) hH2 ?_
                      rotate_left
                      · (intro v hSw; have k1 := hSw.b0.cell; have k2 := hSw.b1.cell; go_simp; try with_reducible rfl)
                      simp only [Act.put, List.setIfInBounds_toArray, List.set_cons_zero, List.set_cons_succ, List.getElem_toArray, List.getElem_cons_zero, List.getElem_cons_succ]
                      refine wpAnyH_take (i := 7) (v := ?_) rfl (by kernel_rfl) (by kernel_rfl) (by kernel_rfl) (fun _ _ _ h => h) (Or.inl ⟨by rfl, ?_⟩) hH2 ?_
                      rotate_left
                      · (intro v hSw; have k1 := hSw.b0.cell; have k2 := hSw.b1.cell; go_simp; try with_reducible rfl)
                      simp only [Act.put, List.setIfInBounds_toArray, List.set_cons_zero, List.set_cons_succ, List.getElem_toArray, List.getElem_cons_zero, List.getElem_cons_succ]
                      refine wpAnyH_done (by kernel_rfl) ?_ _
                      have H6 := Lib.hid hH2
                      have k1 := H6.out.b0.cell
                      have k2 := H6.out.b1.cell
                      go_wp2_with fail
                      refine (HK.out _).mono ?_
                      rintro e w7 ⟨rfl, hb⟩
                      have H7 := Lib.hid (H6.out.up hb)
                      clear hb H6 k1 k2
                      go_wp2_with fail
                      refine (first_any false _).mono ?_
                      rintro e w8 ⟨rfl, hb⟩
                      have H8 := Lib.hid (H7.out.up hb)
                      clear hb H7
                      go_wp2_with fail
                      go_ret
                      exact ⟨ret_int (by simp), H8.out.below⟩
                  · cases v
                    · go_enter Try.func21, Try.ntmps21
                      go_wp2_with fail
                      refine held_begin (by kernel_rfl) H0.out (fun v0 hH0 => ?_)
                      refine wpAnyH_take (i := 0) (v := ?_) rfl (by kernel_rfl) (by kernel_rfl) (by kernel_rfl) (fun _ _ _ h => h) (Or.inl ⟨by rfl, ?_⟩) hH0 ?_
                      rotate_left
                      · (intro v hSw; have k1 := hSw.b0.cell; have k2 := hSw.b1.cell; go_simp; try with_reducible rfl)
                      simp only [Act.put, List.setIfInBounds_toArray, List.set_cons_zero, List.set_cons_succ, List.getElem_toArray, List.getElem_cons_zero]
                      refine wpAnyH_take (i := 1) (v := ?_) rfl (by kernel_rfl) (by kernel_rfl) (by kernel_rfl) (fun _ _ _ h => h) (Or.inl ⟨by rfl, ?_⟩) hH0 ?_
                      rotate_left
                      · (intro v hSw; have k1 := hSw.b0.cell; have k2 := hSw.b1.cell; go_simp; try with_reducible rfl)
                      simp only [Act.put, List.setIfInBounds_toArray, List.set_cons_zero, List.set_cons_succ, List.getElem_toArray, List.getElem_cons_zero, List.getElem_cons_succ]
                      refine wpAnyH_take (i := 3) (v := ?_) rfl (by kernel_rfl) (by kernel_rfl) (by kernel_rfl) (fun _ _ _ h => h) (Or.inl ⟨by rfl, ?_⟩) hH0 ?_
                      rotate_left
                      · (intro v hSw; have k1 := hSw.b0.cell; have k2 := hSw.b1.cell; go_simp; try with_reducible rfl)
                      simp only [Act.put, List.setIfInBounds_toArray, List.set_cons_zero, List.set_cons_succ, List.getElem_toArray, List.getElem_cons_zero, List.getElem_cons_succ]
                      refine wpAnyH_take (i := 4) (v := ?_) rfl (by kernel_rfl) (by kernel_rfl) (by kernel_rfl) (fun _ _ _ h => h) (Or.inl ⟨by rfl, ?_⟩) hH0 ?_
                      rotate_left
                      · (intro v hSw; have k1 := hSw.b0.cell; have k2 := hSw.b1.cell; go_simp; try with_reducible rfl)
                      simp only [Act.put, List.setIfInBounds_toArray, List.set_cons_zero, List.set_cons_succ, List.getElem_toArray, List.getElem_cons_zero, List.getElem_cons_succ]
                      refine wpAnyH_ready (rs := [2]) (by kernel_rfl) (by simp) ?_
                      refine AllReadyH.cons rfl (fun K hK => ?_) AllReadyH.nil
                      go_simp
                      refine (HK.out _).mono ?_
                      rintro e v1 ⟨rfl, hb⟩
                      go_wp2_with fail
                      refine hK.out _ _ (hH0.up hb) (fun hH1 => ?_)
                      clear hK K hH0
                      refine wpAnyH_ready (rs := [5]) (by kernel_rfl) (by simp) ?_
                      refine AllReadyH.cons rfl (fun K hK => ?_) AllReadyH.nil
                      go_simp
                      refine (HR.out _).mono ?_
                      rintro e v2 ⟨rfl, hb⟩
                      go_wp2_with fail
                      refine hK.out _ _ (hH1.up hb) (fun hH2 => ?_)
                      clear hK K hH1
                      refine wpAnyH_take (i := 6) (v := ?_) rfl (by kernel_rfl) (by kernel_rfl) (by kernel_rfl) (fun _ _ _ h => h) (Or.inl ⟨by rfl, ?_⟩) hH2 ?_
                      rotate_left
                      · (intro v hSw; have k1 := hSw.b0.cell; have k2 := hSw.b1.cell; go_simp; try with_reducible rfl)
                      simp only [Act.put, List.setIfInBounds_toArray, List.set_cons_zero, List.set_cons_succ, List.getElem_toArray, List.getElem_cons_zero, List.getElem_cons_succ]
                      refine wpAnyH_take (i := 7) (v := ?_) rfl (by kernel_rfl) (by kernel_rfl) (by kernel_rfl) (fun _ _ _ h => h) (Or.inl ⟨by rfl, ?_⟩) hH2 ?_
                      rotate_left
                      · (intro v hSw; have k1 := hSw.b0.cell; have k2 := hSw.b1.cell; go_simp; try with_reducible rfl)
                      simp only [Act.put, List.setIfInBounds_toArray, List.set_cons_zero, List.set_cons_succ, List.getElem_toArray, List.getElem_cons_zero, List.getElem_cons_succ]
                      refine wpAnyH_done (by kernel_rfl) ?_ _
                      have H6 := Lib.hid hH2
                      have k1 := H6.out.b0.cell
                      have k2 := H6.out.b1.cell
                      go_wp2_with fail
                      refine (HK.out _).mono ?_
                      rintro e w7 ⟨rfl, hb⟩
                      have H7 := Lib.hid (H6.out.up hb)
                      clear hb H6 k1 k2
                      go_wp2_with fail
                      refine (first_any true _).mono ?_
                      rintro e w8 ⟨rfl, hb⟩
                      have H8 := Lib.hid (H7.out.up hb)
                      clear hb H7
                      go_wp2_with fail
                      go_ret
                      exact ⟨ret_int (by simp), H8.out.below⟩
                    · go_enter Try.func21, Try.ntmps21
                      go_wp2_with fail
                      refine held_begin (by kernel_rfl) H0.out (fun v0 hH0 => ?_)
                      refine wpAnyH_take (i := 0) (v := ?_) rfl (by kernel_rfl) (by kernel_rfl) (by kernel_rfl) (fun _ _ _ h => h) (Or.inl ⟨by rfl, ?_⟩) hH0 ?_
                      rotate_left
                      · (intro v hSw; have k1 := hSw.b0.cell; have k2 := hSw.b1.cell; go_simp; try with_reducible rfl)
                      simp only [Act.put, List.setIfInBounds_toArray, List.set_cons_zero, List.set_cons_succ, List.getElem_toArray, List.getElem_cons_zero]
                      refine wpAnyH_take (i := 1) (v := ?_) rfl (by kernel_rfl) (by kernel_rfl) (by kernel_rfl) (fun _ _ _ h => h) (Or.inl ⟨by rfl, ?_⟩) hH0 ?_
                      rotate_left
                      · (intro v hSw; have k1 := hSw.b0.cell; have k2 := hSw.b1.cell; go_simp; try with_reducible rfl)
                      simp only [Act.put, List.setIfInBounds_toArray, List.set_cons_zero, List.set_cons_succ, List.getElem_toArray, List.getElem_cons_zero, List.getElem_cons_succ]
                      refine wpAnyH_take (i := 3) (v := ?_) rfl (by kernel_rfl) (by kernel_rfl) (by kernel_rfl) (fun _ _ _ h => h) (Or.inl ⟨by rfl, ?_⟩) hH0 ?_
                      rotate_left
                      · (intro v hSw; have k1 := hSw.b0.cell; have k2 := hSw.b1.cell; go_simp; try with_reducible rfl)
                      simp only [Act.put, List.setIfInBounds_toArray, List.set_cons_zero, List.set_cons_succ, List.getElem_toArray, List.getElem_cons_zero, List.getElem_cons_succ]
                      refine wpAnyH_take (i := 4) (v := ?_) rfl (by kernel_rfl) (by kernel_rfl) (by kernel_rfl) (fun _ _ _ h => h) (Or.inl ⟨by rfl, ?_⟩) hH0 ?_
                      rotate_left
                      · (intro v hSw; have k1 := hSw.b0.cell; have k2 := hSw.b1.cell; go_simp; try with_reducible rfl)
                      simp only [Act.put, List.setIfInBounds_toArray, List.set_cons_zero, List.set_cons_succ, List.getElem_toArray, List.getElem_cons_zero, List.getElem_cons_succ]
                      refine wpAnyH_ready (rs := [2]) (by kernel_rfl) (by simp) ?_
                      refine AllReadyH.cons rfl (fun K hK => ?_) AllReadyH.nil
                      go_simp
                      refine (HK.out _).mono ?_
                      rintro e v1 ⟨rfl, hb⟩
                      go_wp2_with fail
                      refine hK.out _ _ (hH0.up hb) (fun hH1 => ?_)
                      clear hK K hH0
                      refine wpAnyH_ready (rs := [5]) (by kernel_rfl) (by simp) ?_
                      refine AllReadyH.cons rfl (fun K hK => ?_) AllReadyH.nil
                      go_simp
                      refine (HR.out _).mono ?_
                      rintro e v2 ⟨rfl, hb⟩
                      go_wp2_with fail
                      refine hK.out _ _ (hH1.up hb) (fun hH2 => ?_)
                      clear hK K hH1
                      refine wpAnyH_take (i := 6) (v := ?_) rfl (by kernel_rfl) (by kernel_rfl) (by kernel_rfl) (fun _ _ _ h => h) (Or.inl ⟨by rfl, ?_⟩) hH2 ?_
                      rotate_left
                      · (intro v hSw; have k1 := hSw.b0.cell; have k2 := hSw.b1.cell; go_simp; try with_reducible rfl)
                      simp only [Act.put, List.setIfInBounds_toArray, List.set_cons_zero, List.set_cons_succ, List.getElem_toArray, List.getElem_cons_zero, List.getElem_cons_succ]
                      refine wpAnyH_take (i := 7) (v := ?_) rfl (by kernel_rfl) (by kernel_rfl) (by kernel_rfl) (fun _ _ _ h => h) (Or.inl ⟨by rfl, ?_⟩) hH2 ?_
                      rotate_left
                      · (intro v hSw; have k1 := hSw.b0.cell; have k2 := hSw.b1.cell; go_simp; try with_reducible rfl)
                      simp only [Act.put, List.setIfInBounds_toArray, List.set_cons_zero, List.set_cons_succ, List.getElem_toArray, List.getElem_cons_zero, List.getElem_cons_succ]
                      refine wpAnyH_done (by kernel_rfl) ?_ _
                      go_wp2_with fail
                      go_ret
                      exact ⟨ret_int (by simp), hH2.below⟩
              · go_enter Try.func21, Try.ntmps21
                go_wp2_with fail
                refine (first_any true _).mono ?_
                rintro e w1 ⟨rfl, hb⟩
                have H1 := Lib.hid (H0.out.up hb)
                clear hb H0
                go_wp2_with fail
                go_ret
                exact ⟨ret_int (by simp), H1.out.below⟩
            · cases d2
              · go_enter Try.func21, Try.ntmps21
                go_wp2_with fail
                refine (first_any false _).mono ?_
                rintro e w1 ⟨rfl, hb⟩
                have H1 := Lib.hid (H0.out.up hb)
                clear hb H0
                go_wp2_with fail
                go_ret
                exact ⟨ret_int (by simp), H1.out.below⟩
              · go_enter Try.func21, Try.ntmps21
                go_wp2_with fail
                go_ret
                exact ⟨ret_int (by simp), H0.out.below⟩
          · cases d
            · go_enter Try.func21, Try.ntmps21
              go_wp2_with fail
              refine (first_any true _).mono ?_
              rintro e w1 ⟨rfl, hb⟩
              have H1 := Lib.hid (H0.out.up hb)
              clear hb H0
              go_wp2_with fail
              go_ret
              exact ⟨ret_int (by simp), H1.out.below⟩
            · cases d2
              · go_enter Try.func21, Try.ntmps21
                go_wp2_with fail
                refine (first_any true _).mono ?_
                rintro e w1 ⟨rfl, hb⟩
                have H1 := Lib.hid (H0.out.up hb)
                clear hb H0
                go_wp2_with fail
                go_ret
                exact ⟨ret_int (by simp), H1.out.below⟩
              · go_enter Try.func21, Try.ntmps21
                go_wp2_with fail
                go_ret
                exact ⟨ret_int (by simp), H0.out.below⟩
        · cases i2
          · cases d
            · go_enter Try.func21, Try.ntmps21
              go_wp2_with fail
              refine (first_any false _).mono ?_
              rintro e w1 ⟨rfl, hb⟩
              have H1 := Lib.hid (H0.out.up hb)
              clear hb H0
              go_wp2_with fail
              go_ret
              exact ⟨ret_int (by simp), H1.out.below⟩
            · cases d2
              · go_enter Try.func21, Try.ntmps21
                go_wp2_with fail
                refine (first_any false _).mono ?_
                rintro e w1 ⟨rfl, hb⟩
                have H1 := Lib.hid (H0.out.up hb)
                clear hb H0
                go_wp2_with fail
                go_ret
                exact ⟨ret_int (by simp), H1.out.below⟩
              · go_enter Try.func21, Try.ntmps21
                go_wp2_with fail
                go_ret
                exact ⟨ret_int (by simp), H0.out.below⟩
          · go_enter Try.func21, Try.ntmps21
            go_wp2_with fail
            go_ret
            exact ⟨ret_int (by simp), H0.out.below⟩
      · go_enter Try.func21, Try.ntmps21
        go_wp2_with fail
        go_ret
        exact ⟨ret_int (by simp), H0.out.below⟩
  · have en : (n != n2) = true := bne_iff_ne.2 hn
    go_enter Try.func21, Try.ntmps21
    go_wp2_with fail
    go_ret
    exact ⟨ret_int (by simp), H0.out.below⟩

set_option maxRecDepth 100000 in
set_option maxHeartbeats 4000000 in
theorem decide_any (x y : Hel) (w : World) : Calls Try.prog 11 #[helV x, helV y] w fun e w' => e = .returned (verV (decK x y) (decS x y)) ∧ Below w.heap.size w w' := by
  have hs := fun w => src_any x y w
  have hu := fun w => kind_any x y w
  have hv := fun w => kind_any y x w
  obtain ⟨n, c, b, o, p, i, r, d, q, m⟩ := x
  obtain ⟨n2, c2, b2, o2, p2, i2, r2, d2, q2, m2⟩ := y
  unfold decS decK
  dsimp only [helV] at *
  have HS := Lib.hid hs; clear hs
  have HU := Lib.hid hu; clear hu
  have HV := Lib.hid hv; clear hv
  generalize srcI ⟨n, c, b, o, p, i, r, d, q, m⟩ ⟨n2, c2, b2, o2, p2, i2, r2, d2, q2, m2⟩ = s at *
  generalize kindI ⟨n, c, b, o, p, i, r, d, q, m⟩ ⟨n2, c2, b2, o2, p2, i2, r2, d2, q2, m2⟩ = u at *
  generalize kindI ⟨n2, c2, b2, o2, p2, i2, r2, d2, q2, m2⟩ ⟨n, c, b, o, p, i, r, d, q, m⟩ = v at *
  have H0 := (((Held.refl w).lay [.int .i64 n, .int .u64 c, .int .u64 b, .int .u64 o, .int .u64 p, .bool i, .bool r, .bool d, .bool q, .int .u32 (m : Int)] 28).lay [.int .i64 n2, .int .u64 c2, .int .u64 b2, .int .u64 o2, .int .u64 p2, .bool i2, .bool r2, .bool d2, .bool q2, .int .u32 (m2 : Int)] 28).lay [.int .i64 0, .int .i64 0] 32
  simp only [World.size_alloc] at H0
  replace H0 := Lib.hid H0
  by_cases s0 : s = 0
  · subst s0
    go_enter Try.func11, Try.ntmps11
    go_wp2_with fail
    refine (HS.out _).mono ?_
    rintro e w1 ⟨rfl, hb⟩
    have H1 := Lib.hid (H0.out.up hb)
    clear hb H0
    have c2 := H1.out.b0.cell
    have f2 := H1.out.b0.frozen
    have k1 := H1.out.b1.cell
    have k2 := H1.out.b2.cell
    go_wp2_with fail
    refine (HU.out _).mono ?_
    rintro e w2 ⟨rfl, hb⟩
    have H2 := Lib.hid (H1.out.up hb)
    clear hb H1 c2 f2 k1 k2
    have c2 := H2.out.b0.cell
    have f2 := H2.out.b0.frozen
    have k1 := H2.out.b1.cell
    have k2 := H2.out.b2.cell
    by_cases h4 : u = 4
    · subst h4
      go_wp2_with fail
      refine bodyPost_ret (v := verV 4 (-1)) (by simp [results, Try.results11, go_sem, c2]) rfl ⟨by simp, ?_⟩
      exact below2c H2.out.below (by omega) _ _
    · have e4 : (u == 4) = false := beq_eq_false_iff_ne.2 h4
      by_cases h1 : u = 1
      · subst h1
        go_wp2_with fail
        refine bodyPost_ret (v := verV 1 (-1)) (by simp [results, Try.results11, go_sem, c2]) rfl ⟨by simp, ?_⟩
        exact below2c H2.out.below (by omega) _ _
      · have e1 : (u == 1) = false := beq_eq_false_iff_ne.2 h1
        go_wp2_with fail
        refine bodyPost_ret (v := verV u 0) (by simp [results, Try.results11, go_sem, c2]) rfl ⟨by simp, ?_⟩
        exact below2c H2.out.below (by omega) _ _
  · have e0 : (s == 0) = false := beq_eq_false_iff_ne.2 s0
    by_cases s1 : s = 1
    · subst s1
      go_enter Try.func11, Try.ntmps11
      go_wp2_with fail
      refine (HS.out _).mono ?_
      rintro e w1 ⟨rfl, hb⟩
      have H1 := Lib.hid (H0.out.up hb)
      clear hb H0
      have c2 := H1.out.b0.cell
      have f2 := H1.out.b0.frozen
      have k1 := H1.out.b1.cell
      have k2 := H1.out.b2.cell
      go_wp2_with fail
      refine (HV.out _).mono ?_
      rintro e w2 ⟨rfl, hb⟩
      have H2 := Lib.hid (H1.out.up hb)
      clear hb H1 c2 f2 k1 k2
      have c2 := H2.out.b0.cell
      have f2 := H2.out.b0.frozen
      have k1 := H2.out.b1.cell
      have k2 := H2.out.b2.cell
      by_cases h4 : v = 4
      · subst h4
        go_wp2_with fail
        refine bodyPost_ret (v := verV 4 (-1)) (by simp [results, Try.results11, go_sem, c2]) rfl ⟨by simp, ?_⟩
        exact below2c H2.out.below (by omega) _ _
      · have e4 : (v == 4) = false := beq_eq_false_iff_ne.2 h4
        by_cases h1 : v = 1
        · subst h1
          go_wp2_with fail
          refine bodyPost_ret (v := verV 1 (-1)) (by simp [results, Try.results11, go_sem, c2]) rfl ⟨by simp, ?_⟩
          exact below2c H2.out.below (by omega) _ _
        · have e1 : (v == 1) = false := beq_eq_false_iff_ne.2 h1
          go_wp2_with fail
          refine bodyPost_ret (v := verV v 1) (by simp [results, Try.results11, go_sem, c2]) rfl ⟨by simp, ?_⟩
          exact below2c H2.out.below (by omega) _ _
    · have es : (s == 1) = false := beq_eq_false_iff_ne.2 s1
      go_enter Try.func11, Try.ntmps11
      go_wp2_with fail
      refine (HS.out _).mono ?_
      rintro e w1 ⟨rfl, hb⟩
      have H1 := Lib.hid (H0.out.up hb)
      clear hb H0
      have c2 := H1.out.b0.cell
      have f2 := H1.out.b0.frozen
      have k1 := H1.out.b1.cell
      have k2 := H1.out.b2.cell
      go_wp2_with fail
      refine bodyPost_ret (v := verV 4 (-1)) (by simp [results, Try.results11, go_sem, c2]) rfl ⟨by simp, ?_⟩
      exact below2c H1.out.below (by omega) _ _

end Go.Proofs.Ytjdcpcfjekfdeaa
