/- Lineage: the walk of LineageGrows: for every list of mints within their types, every mint and every generation. No other condition but that the list lies in memory. -/
import Derived.Test.YtpipindifeklbaaLL
import Derived.Deep.CutRange
namespace Go.Proofs.Ytpipindifeklbaa
open Go.RowKit

theorem grows_early (A : Option Addr) (c : Nat) (l : List Mnt) (g p k old : Int) (w : World) (hh : 100 < (l.length : Int) ∨ g = 0) :
    Calls Try.prog 5 #[.slice A l.length c, .agg #[.int .u64 g, .int .u64 p, .int .i64 k], .int .u64 old] w (Yes w) := by
  have HX0 := Lib.hid (Box.new w [.int .u64 g, .int .u64 p, .int .i64 k] 32)
  have HB0 := Lib.hid (below1 (w := w) (o := .cells #[.int .u64 g, .int .u64 p, .int .i64 k] 32))
  by_cases hlen : 100 < (l.length : Int)
  · clear hh HX0
    go_enter Try.func5, Try.ntmps5
    go_wp2_with fail
    refine (lalive_any _).mono ?_
    rintro e w1 ⟨rfl, hb1⟩
    have HB1 := Lib.hid (ext HB0.out hb1); clear hb1 HB0
    go_wp2_with fail
    go_ret
    exact ⟨rfl, HB1.out⟩
  · obtain rfl := hh.resolve_left hlen
    clear hh
    go_enter Try.func5, Try.ntmps5
    go_wp2_with fail
    refine (lalive_any _).mono ?_
    rintro e w1 ⟨rfl, hb1⟩
    have k0 := (HX0.out.below hb1).cell
    have HB1 := Lib.hid (ext HB0.out hb1); clear hb1 HB0 HX0
    go_wp2_with fail
    go_ret
    exact ⟨rfl, HB1.out⟩

set_option maxRecDepth 100000 in
set_option maxHeartbeats 16000000 in
theorem grows_late (A : Option Addr) (c : Nat) (hA : A = none → c = 0) (l : List Mnt) (g p k old : Int) (w : World) (h : Ms w w.heap.size A l) (hu : Wide l) (hmg : U64 g) (hmp : U64 p) (ho : U64 old) (hlen : ¬ 100 < (l.length : Int)) (hg0 : g ≠ 0) :
    Calls Try.prog 5 #[.slice A l.length c, .agg #[.int .u64 g, .int .u64 p, .int .i64 k], .int .u64 old] w (Yes w) := by
  have hm : l.length ≤ 100 := by omega
  have H := Lib.hid h; clear h
  have HU := Lib.hid hu; clear hu
  have HWG := Lib.hid hmg; clear hmg
  have HWP := Lib.hid hmp; clear hmp
  have HWO := Lib.hid ho; clear ho
  have hq0 : (g == 0) = false := beq_eq_false_iff_ne.2 hg0
  have HG0 := Lib.hid hg0; clear hg0
  have HX0 := Lib.hid (Box.new w [.int .u64 g, .int .u64 p, .int .i64 k] 32)
  have HB0 := Lib.hid (below1 (w := w) (o := .cells #[.int .u64 g, .int .u64 p, .int .i64 k] 32))
  go_enter Try.func5, Try.ntmps5
  go_wp2_with fail
  refine (lalive_any _).mono ?_
  rintro e w1 ⟨rfl, hb1⟩
  have HX1 := Lib.hid (HX0.out.below hb1)
  have k0 := HX1.out.cell
  have HB1 := Lib.hid (ext HB0.out hb1); clear hb1 HB0 HX0
  have H1 := Lib.hid (H.out.up HB1.out); clear H
  go_wp2_with fail
  go_loopw [7] (fun i wr => ∃ j n : Nat, j ≤ l.length ∧ i = .int .i64 j ∧ Hid (News l g j) ∧ wr = w1.drewN n) (fun i _ => l.length - (intOf i).toNat)
  case atStart => exact ⟨0, 0, by omega, rfl, news_zero l g, rfl⟩
  case round =>
    obtain ⟨j, n, hj, rfl, HN, rfl⟩ := hrel
    by_cases hlt : j < l.length
    · obtain ⟨a1, rfl, hb1, hc1, hd1, he1⟩ := H1.out j l[j] (List.getElem?_eq_getElem hlt)
      have hon := news_on hlt HN.out
      have HON := Lib.hid hon; clear hon HN
      generalize l[j] = x at *
      obtain ⟨xg, xp, xk⟩ := x
      dsimp only at hc1 hd1 he1 HON
      clear HX1 H1
      by_cases h1 : xg = g
      · subst h1
        go_wp2
        go_quiet (fail)
        go_wp2
        go_ret
        exact ⟨rfl, below_drewN (below_drewN HB1.out _) _⟩
      · have q1 : (xg == g) = false := beq_eq_false_iff_ne.2 h1
        by_cases h2 : xp = g
        · subst h2
          clear h1
          go_wp2
          go_quiet (fail)
          go_wp2
          go_ret
          exact ⟨rfl, below_drewN (below_drewN HB1.out _) _⟩
        · have q2 : (xp == g) = false := beq_eq_false_iff_ne.2 h2
          have HN := Lib.hid (HON.out h1 h2)
          clear h1 h2 HON
          go_wp2
          go_quiet (fail)
          go_wp2
          go_roundw
          case rel => exact ⟨j + 1, _, by omega, by go_num, HN, rfl⟩
          case measure => simp [intOf]; omega
    · obtain rfl : j = l.length := by omega
      have hn := news_end HN.out
      have HNE := Lib.hid hn; clear hn HN
      have HX2 := Lib.hid (HX1.out.below (below_drewN (Below.refl _ _) n))
      have H2 := Lib.hid (H1.out.up (below_drewN (Below.refl _ _) n))
      have HB2 := Lib.hid (below_drewN HB1.out n)
      clear HX1 H1 HB1
      replace k0 := HX2.out.cell
      generalize w1.drewN n = w2 at *
      by_cases hpg : p = g
      · subst hpg
        clear HNE
        go_wp2
        go_ret
        exact ⟨rfl, HB2.out⟩
      · have q3 : (p == g) = false := beq_eq_false_iff_ne.2 hpg
        by_cases hog : old = g
        · subst hog
          clear HNE
          go_wp2
          go_ret
          exact ⟨rfl, HB2.out⟩
        · have q4 : (old == g) = false := beq_eq_false_iff_ne.2 hog
          have HPG := Lib.hid hpg; clear hpg
          have HOG := Lib.hid hog; clear hog
          go_upto_region 12 with fail
          rename_i K0 aK
          have HK : ∀ (y54 y56 y58 y59 : Value) (B : Option Addr) (c2 : Nat) (w6 : World), Ms w6 w6.heap.size B (l ++ [⟨g, p, k⟩]) → Below w2.heap.size w2 w6 → K0 { tmps := #[.slice A l.length c, .agg #[.int .u64 g, .int .u64 p, .int .i64 k], .int .u64 old, undef, .pointer (some ⟨w.heap.size, 0, none⟩), undef, u6, .int .i64 l.length, .slice B (l.length + 1) c2, .bool true, .bool false, .slice A l.length c, .int .i64 l.length, .bool (decide (100 < (l.length : Int))), .bool (decide (100 < (l.length : Int))), .pointer (some ⟨w.heap.size, 0, none⟩), .int .u64 g, .bool false, .bool (decide (100 < (l.length : Int))), .int .i64 l.length, .slice A l.length c, .int .i64 l.length, .bool false, u23, u24, u25, u26, u27, u28, u29, u30, u31, u32, u33, u34, u35, u36, u37, u38, u39, u40, u41, u42, .pointer (some ⟨w.heap.size, 1, none⟩), .int .u64 p, .pointer (some ⟨w.heap.size, 0, none⟩), .int .u64 g, .bool false, .bool false, .int .u64 old, .pointer (some ⟨w.heap.size, 0, none⟩), .int .u64 g, .bool false, .bool false, y54, .slice A l.length c, y56, .agg #[.int .u64 g, .int .u64 p, .int .i64 k], y58, y59, undef, undef, undef, undef, undef, undef, undef, undef, undef, undef, undef, undef, undef, undef, undef, undef, undef, undef, undef, undef, undef, undef, undef, undef, undef, undef, undef, undef, undef], defers := [] } w6 := by
            intro y54 y56 y58 y59 B c2 w6 hms hbv
            refine aK _ _ ?_
            have HX6 := Lib.hid (HX2.out.below hbv)
            have HA6 := Lib.hid (H2.out.up hbv)
            have HB6 := Lib.hid (ext HB2.out hbv)
            have hw := wide_more (m := ⟨g, p, k⟩) HU.out HWG.out HWP.out
            have k1 := fun v (q : Below w6.heap.size w6 v) => line_any B c2 (l ++ [⟨g, p, k⟩]) g v (hms.up q) hw HWG.out (by simp; omega)
            have k2 := fun v (q : Below w6.heap.size w6 v) => line_any A c l p v (HA6.out.up q) HU.out HWP.out (by omega)
            have k3 := fun v (q : Below w6.heap.size w6 v) => line_any B c2 (l ++ [⟨g, p, k⟩]) old v (hms.up q) hw HWO.out (by simp; omega)
            have k4 := fun v (q : Below w6.heap.size w6 v) => line_any A c l old v (HA6.out.up q) HU.out HWO.out (by omega)
            have k5 := fun v (q : Below w6.heap.size w6 v) => right_any B c2 (l ++ [⟨g, p, k⟩]) v (hms.up q) hw (by simp; omega)
            have k6 := fun v (q : Below w6.heap.size w6 v) => right_any A c l v (HA6.out.up q) HU.out (by omega)
            have e1 : (l ++ [(⟨g, p, k⟩ : Mnt)]).length = l.length + 1 := by simp
            have e2 : lineL (l ++ [(⟨g, p, k⟩ : Mnt)]) g = g :: lineL l p := line_new (m := ⟨g, p, k⟩) HG0.out HNE.out.1 HNE.out.2 HPG.out
            have e3 : lineL (l ++ [(⟨g, p, k⟩ : Mnt)]) old = lineL l old := line_old (m := ⟨g, p, k⟩) HG0.out HNE.out.2 HOG.out
            have e4 : rightL (l ++ [(⟨g, p, k⟩ : Mnt)]) = rightL l := right_more (m := ⟨g, p, k⟩) HG0.out HNE.out.1
            rw [e1, e2] at k1
            rw [e1, e3] at k3
            rw [e1, e4] at k5
            have n1 := line_len l p
            have n2 := line_len l old
            have er : (rightL l == rightL l) = true := beq_self_eq_true _
            generalize lineL l p = X at *
            generalize lineL l old = Z at *
            generalize rightL l = r at *
            have K1 := Lib.hid k1; clear k1
            have K2 := Lib.hid k2; clear k2
            have K3 := Lib.hid k3; clear k3
            have K4 := Lib.hid k4; clear k4
            have K5 := Lib.hid k5; clear k5
            have K6 := Lib.hid k6; clear k6
            have HXL := Lib.hid n1; clear n1
            have HZL := Lib.hid n2; clear n2
            clear e1 e2 e3 e4 hw hms hbv aK HA6 HU HWG HWP HWO HG0 HNE HPG HOG H2 HX2 HB2 k0
            go_wp2_with fail
            refine held_begin (by kernel_rfl) (Held.refl w6) (fun v0 hH0 => ?_)
            refine wpAnyH_take (i := 0) (v := ?_) rfl (by kernel_rfl) (by kernel_rfl) (by kernel_rfl) (fun _ _ _ h => h) (Or.inl ⟨by rfl, ?_⟩) hH0 ?_
            rotate_left
            · (intro v hSw; have k0 := (HX6.out.below hSw.below).cell; go_simp; try with_reducible rfl)
            simp only [Act.put, List.setIfInBounds_toArray, List.set_cons_zero, List.set_cons_succ, List.getElem_toArray, List.getElem_cons_zero]
            refine wpAnyH_take (i := 1) (v := ?_) rfl (by kernel_rfl) (by kernel_rfl) (by kernel_rfl) (fun _ _ _ h => h) (Or.inl ⟨by rfl, ?_⟩) hH0 ?_
            rotate_left
            · (intro v hSw; have k0 := (HX6.out.below hSw.below).cell; go_simp; try with_reducible rfl)
            simp only [Act.put, List.setIfInBounds_toArray, List.set_cons_zero, List.set_cons_succ, List.getElem_toArray, List.getElem_cons_zero, List.getElem_cons_succ]
            refine wpAnyH_take (i := 2) (v := ?_) rfl (by kernel_rfl) (by kernel_rfl) (by kernel_rfl) (fun _ _ _ h => h) (Or.inl ⟨by rfl, ?_⟩) hH0 ?_
            rotate_left
            · (intro v hSw; have k0 := (HX6.out.below hSw.below).cell; go_simp; try with_reducible rfl)
            simp only [Act.put, List.setIfInBounds_toArray, List.set_cons_zero, List.set_cons_succ, List.getElem_toArray, List.getElem_cons_zero, List.getElem_cons_succ]
            refine wpAnyH_take (i := 4) (v := ?_) rfl (by kernel_rfl) (by kernel_rfl) (by kernel_rfl) (fun _ _ _ h => h) (Or.inl ⟨by rfl, ?_⟩) hH0 ?_
            rotate_left
            · (intro v hSw; have k0 := (HX6.out.below hSw.below).cell; go_simp; try with_reducible rfl)
            simp only [Act.put, List.setIfInBounds_toArray, List.set_cons_zero, List.set_cons_succ, List.getElem_toArray, List.getElem_cons_zero, List.getElem_cons_succ]
            refine wpAnyH_take (i := 5) (v := ?_) rfl (by kernel_rfl) (by kernel_rfl) (by kernel_rfl) (fun _ _ _ h => h) (Or.inl ⟨by rfl, ?_⟩) hH0 ?_
            rotate_left
            · (intro v hSw; have k0 := (HX6.out.below hSw.below).cell; go_simp; try with_reducible rfl)
            simp only [Act.put, List.setIfInBounds_toArray, List.set_cons_zero, List.set_cons_succ, List.getElem_toArray, List.getElem_cons_zero, List.getElem_cons_succ]
            refine wpAnyH_take (i := 7) (v := ?_) rfl (by kernel_rfl) (by kernel_rfl) (by kernel_rfl) (fun _ _ _ h => h) (Or.inl ⟨by rfl, ?_⟩) hH0 ?_
            rotate_left
            · (intro v hSw; have k0 := (HX6.out.below hSw.below).cell; go_simp; try with_reducible rfl)
            simp only [Act.put, List.setIfInBounds_toArray, List.set_cons_zero, List.set_cons_succ, List.getElem_toArray, List.getElem_cons_zero, List.getElem_cons_succ]
            refine wpAnyH_take (i := 8) (v := ?_) rfl (by kernel_rfl) (by kernel_rfl) (by kernel_rfl) (fun _ _ _ h => h) (Or.inl ⟨by rfl, ?_⟩) hH0 ?_
            rotate_left
            · (intro v hSw; have k0 := (HX6.out.below hSw.below).cell; go_simp; try with_reducible rfl)
            simp only [Act.put, List.setIfInBounds_toArray, List.set_cons_zero, List.set_cons_succ, List.getElem_toArray, List.getElem_cons_zero, List.getElem_cons_succ]
            refine wpAnyH_take (i := 9) (v := ?_) rfl (by kernel_rfl) (by kernel_rfl) (by kernel_rfl) (fun _ _ _ h => h) (Or.inl ⟨by rfl, ?_⟩) hH0 ?_
            rotate_left
            · (intro v hSw; have k0 := (HX6.out.below hSw.below).cell; go_simp; try with_reducible rfl)
            simp only [Act.put, List.setIfInBounds_toArray, List.set_cons_zero, List.set_cons_succ, List.getElem_toArray, List.getElem_cons_zero, List.getElem_cons_succ]
            refine wpAnyH_ready (rs := [3, 6]) (by kernel_rfl) (by simp) ?_
            refine AllReadyH.cons rfl (fun K hK => ?_) ?_
            · go_simp
              refine (K1.out _ hH0.below).mono ?_
              rintro e v1 ⟨B3, c3, rfl, hes, hnw, hb⟩
              obtain ⟨ax, rfl, hlt, _⟩ := hes 0 g rfl
              have KX := Lib.hid hes
              have hnx := hnw.2 ax rfl
              try have KD := Lib.hid (Nat.ne_of_lt (Nat.lt_of_lt_of_le KB.out.lt hnx))
              clear hes hnw hlt hnx
              try replace KB := Lib.hid (KB.out.below hb)
              try replace KO := Lib.hid (own_lift KO.out hb)
              go_wp2_with fail
              refine hK.out _ _ (hH0.up hb) (fun hH1 => ?_)
              clear hb hK K hH0
              refine wpAnyH_ready (rs := [6, 10]) (by kernel_rfl) (by simp) ?_
              refine AllReadyH.cons rfl (fun K hK => ?_) ?_
              · have KB := Lib.hid (Box.new v1 [.int .u64 g] 23)
                have KO := Lib.hid (own_one (e := 23) v1 w6.heap.size hH1.below.size (.int .u64 g))
                try (obtain ⟨a2, ha2, hlt2, _⟩ := KX.out 0 g rfl; injection ha2 with ha2; subst ha2; have KD := Lib.hid (Nat.ne_of_gt hlt2); clear hlt2)
                try replace KX := Lib.hid (KX.out.up (below1 (o := .cells #[.int .u64 g] 23)))
                try replace KY := Lib.hid (KY.out.up (below1 (o := .cells #[.int .u64 g] 23)))
                go_simp
                refine hK.out _ _ (hH1.alloc (.cells #[.int .u64 g] 23)) (fun hH2 => ?_)
                clear hK K hH1
                refine wpAnyH_ready (rs := [10]) (by kernel_rfl) (by simp) ?_
                refine AllReadyH.cons rfl (fun K hK => ?_) AllReadyH.nil
                go_simp
                refine (K2.out _ hH2.below).mono ?_
                rintro e v3 ⟨C, c10, rfl, hes, hnw, hb⟩
                have KY := Lib.hid hes
                have KYN := Lib.hid hnw.1
                clear hes hnw
                try replace KX := Lib.hid (KX.out.up hb)
                try replace KB := Lib.hid (KB.out.below hb)
                try replace KO := Lib.hid (own_lift KO.out hb)
                go_wp2_with fail
                refine hK.out _ _ (hH2.up hb) (fun hH3 => ?_)
                clear hb hK K hH2
                refine wpAnyH_ready (rs := [11]) (by kernel_rfl) (by simp) ?_
                refine AllReadyH.cons rfl (fun K hK => ?_) AllReadyH.nil
                try simp only [Act.put, List.setIfInBounds_toArray, List.set_cons_zero, List.set_cons_succ, List.getElem_toArray, List.getElem_cons_zero, List.getElem_cons_succ]
                refine Eq.mpr (if_pos (by rfl)) ?_
                refine app_usW (Operand.tmp 66) (Operand.tmp 70) rfl _ w6.heap.size hH3.below.size (.slice (some ⟨_, 0, none⟩) 1 1) [g] rfl KO.out C c10 X KYN.out rfl KY.out (by simp; have := HXL.out; omega) (fun x4 v4 hown hgrow => ?_)
                have hH4x := hH3.grown0 hgrow (own_low KO.out)
                replace KX := Lib.hid (KX.out.grownU hgrow (by intro a ha q; injection ha with ha; subst ha; simp [Value.ownBlock] at q; exact KD.out q))
                obtain ⟨D, c11, rfl, _, hz⟩ := own_us hown
                have KZ := Lib.hid hz
                clear hown hgrow hz KO KB KD KY KYN
                refine hK.out _ _ hH4x (fun hH4 => ?_)
                clear hK K hH3 hH4x
                refine wpAnyH_ready (rs := [12]) (by kernel_rfl) (by simp) ?_
                refine AllReadyH.cons rfl (fun K hK => ?_) AllReadyH.nil
                go_simp
                refine (rsamen_any (some ax) D c3 c11 (g :: X) v4 KX.out KZ.out (by have := HXL.out; simp [maxLen]; omega)).mono ?_
                rintro e v5 ⟨rfl, hb⟩
                clear KX KZ
                go_wp2_with fail
                refine hK.out _ _ (hH4.up hb) (fun hH5 => ?_)
                clear hb hK K hH4
                refine wpAnyH_take (i := 13) (v := ?_) rfl (by kernel_rfl) (by kernel_rfl) (by kernel_rfl) (fun _ _ _ h => h) (Or.inl ⟨by rfl, ?_⟩) hH5 ?_
                rotate_left
                · (intro v hSw; have k0 := (HX6.out.below hSw.below).cell; go_simp; try with_reducible rfl)
                simp only [Act.put, List.setIfInBounds_toArray, List.set_cons_zero, List.set_cons_succ, List.getElem_toArray, List.getElem_cons_zero, List.getElem_cons_succ]
                refine wpAnyH_take (i := 14) (v := ?_) rfl (by kernel_rfl) (by kernel_rfl) (by kernel_rfl) (fun _ _ _ h => h) (Or.inl ⟨by rfl, ?_⟩) hH5 ?_
                rotate_left
                · (intro v hSw; have k0 := (HX6.out.below hSw.below).cell; go_simp; try with_reducible rfl)
                simp only [Act.put, List.setIfInBounds_toArray, List.set_cons_zero, List.set_cons_succ, List.getElem_toArray, List.getElem_cons_zero, List.getElem_cons_succ]
                refine wpAnyH_take (i := 15) (v := ?_) rfl (by kernel_rfl) (by kernel_rfl) (by kernel_rfl) (fun _ _ _ h => h) (Or.inl ⟨by rfl, ?_⟩) hH5 ?_
                rotate_left
                · (intro v hSw; have k0 := (HX6.out.below hSw.below).cell; go_simp; try with_reducible rfl)
                simp only [Act.put, List.setIfInBounds_toArray, List.set_cons_zero, List.set_cons_succ, List.getElem_toArray, List.getElem_cons_zero, List.getElem_cons_succ]
                refine wpAnyH_take (i := 17) (v := ?_) rfl (by kernel_rfl) (by kernel_rfl) (by kernel_rfl) (fun _ _ _ h => h) (Or.inl ⟨by rfl, ?_⟩) hH5 ?_
                rotate_left
                · (intro v hSw; have k0 := (HX6.out.below hSw.below).cell; go_simp; try with_reducible rfl)
                simp only [Act.put, List.setIfInBounds_toArray, List.set_cons_zero, List.set_cons_succ, List.getElem_toArray, List.getElem_cons_zero, List.getElem_cons_succ]
                refine wpAnyH_take (i := 18) (v := ?_) rfl (by kernel_rfl) (by kernel_rfl) (by kernel_rfl) (fun _ _ _ h => h) (Or.inl ⟨by rfl, ?_⟩) hH5 ?_
                rotate_left
                · (intro v hSw; have k0 := (HX6.out.below hSw.below).cell; go_simp; try with_reducible rfl)
                simp only [Act.put, List.setIfInBounds_toArray, List.set_cons_zero, List.set_cons_succ, List.getElem_toArray, List.getElem_cons_zero, List.getElem_cons_succ]
                refine wpAnyH_ready (rs := [16]) (by kernel_rfl) (by simp) ?_
                refine AllReadyH.cons rfl (fun K hK => ?_) AllReadyH.nil
                go_simp
                refine (K3.out _ hH5.below).mono ?_
                rintro e v6 ⟨E3, c16, rfl, hes, _, hb⟩
                have KE := Lib.hid hes
                clear hes
                go_wp2_with fail
                refine hK.out _ _ (hH5.up hb) (fun hH6 => ?_)
                clear hb hK K hH5
                refine wpAnyH_ready (rs := [19]) (by kernel_rfl) (by simp) ?_
                refine AllReadyH.cons rfl (fun K hK => ?_) AllReadyH.nil
                go_simp
                refine (K4.out _ hH6.below).mono ?_
                rintro e v7 ⟨F3, c19, rfl, hes, _, hb⟩
                have KF := Lib.hid hes
                replace KE := Lib.hid (KE.out.up hb)
                clear hes
                go_wp2_with fail
                refine hK.out _ _ (hH6.up hb) (fun hH7 => ?_)
                clear hb hK K hH6
                refine wpAnyH_ready (rs := [20]) (by kernel_rfl) (by simp) ?_
                refine AllReadyH.cons rfl (fun K hK => ?_) AllReadyH.nil
                go_simp
                refine (rsamen_any E3 F3 c16 c19 Z v7 KE.out KF.out (by have := HZL.out; unfold maxLen; omega)).mono ?_
                rintro e v8 ⟨rfl, hb⟩
                clear KE KF
                go_wp2_with fail
                refine hK.out _ _ (hH7.up hb) (fun hH8 => ?_)
                clear hb hK K hH7
                refine wpAnyH_take (i := 21) (v := ?_) rfl (by kernel_rfl) (by kernel_rfl) (by kernel_rfl) (fun _ _ _ h => h) (Or.inl ⟨by rfl, ?_⟩) hH8 ?_
                rotate_left
                · (intro v hSw; have k0 := (HX6.out.below hSw.below).cell; go_simp; try with_reducible rfl)
                simp only [Act.put, List.setIfInBounds_toArray, List.set_cons_zero, List.set_cons_succ, List.getElem_toArray, List.getElem_cons_zero, List.getElem_cons_succ]
                refine wpAnyH_take (i := 22) (v := ?_) rfl (by kernel_rfl) (by kernel_rfl) (by kernel_rfl) (fun _ _ _ h => h) (Or.inl ⟨by rfl, ?_⟩) hH8 ?_
                rotate_left
                · (intro v hSw; have k0 := (HX6.out.below hSw.below).cell; go_simp; try with_reducible rfl)
                simp only [Act.put, List.setIfInBounds_toArray, List.set_cons_zero, List.set_cons_succ, List.getElem_toArray, List.getElem_cons_zero, List.getElem_cons_succ]
                refine wpAnyH_take (i := 23) (v := ?_) rfl (by kernel_rfl) (by kernel_rfl) (by kernel_rfl) (fun _ _ _ h => h) (Or.inl ⟨by rfl, ?_⟩) hH8 ?_
                rotate_left
                · (intro v hSw; have k0 := (HX6.out.below hSw.below).cell; go_simp; try with_reducible rfl)
                simp only [Act.put, List.setIfInBounds_toArray, List.set_cons_zero, List.set_cons_succ, List.getElem_toArray, List.getElem_cons_zero, List.getElem_cons_succ]
                refine wpAnyH_take (i := 25) (v := ?_) rfl (by kernel_rfl) (by kernel_rfl) (by kernel_rfl) (fun _ _ _ h => h) (Or.inl ⟨by rfl, ?_⟩) hH8 ?_
                rotate_left
                · (intro v hSw; have k0 := (HX6.out.below hSw.below).cell; go_simp; try with_reducible rfl)
                simp only [Act.put, List.setIfInBounds_toArray, List.set_cons_zero, List.set_cons_succ, List.getElem_toArray, List.getElem_cons_zero, List.getElem_cons_succ]
                refine wpAnyH_ready (rs := [24]) (by kernel_rfl) (by simp) ?_
                refine AllReadyH.cons rfl (fun K hK => ?_) AllReadyH.nil
                go_simp
                refine (K5.out _ hH8.below).mono ?_
                rintro e v9 ⟨rfl, hb⟩
                go_wp2_with fail
                refine hK.out _ _ (hH8.up hb) (fun hH9 => ?_)
                clear hb hK K hH8
                refine wpAnyH_ready (rs := [26]) (by kernel_rfl) (by simp) ?_
                refine AllReadyH.cons rfl (fun K hK => ?_) AllReadyH.nil
                go_simp
                refine (K6.out _ hH9.below).mono ?_
                rintro e v10 ⟨rfl, hb⟩
                go_wp2_with fail
                refine hK.out _ _ (hH9.up hb) (fun hH10 => ?_)
                clear hb hK K hH9
                refine wpAnyH_take (i := 27) (v := ?_) rfl (by kernel_rfl) (by kernel_rfl) (by kernel_rfl) (fun _ _ _ h => h) (Or.inl ⟨by rfl, ?_⟩) hH10 ?_
                rotate_left
                · (intro v hSw; have k0 := (HX6.out.below hSw.below).cell; go_simp; try with_reducible rfl)
                simp only [Act.put, List.setIfInBounds_toArray, List.set_cons_zero, List.set_cons_succ, List.getElem_toArray, List.getElem_cons_zero, List.getElem_cons_succ]
                refine wpAnyH_take (i := 28) (v := ?_) rfl (by kernel_rfl) (by kernel_rfl) (by kernel_rfl) (fun _ _ _ h => h) (Or.inl ⟨by rfl, ?_⟩) hH10 ?_
                rotate_left
                · (intro v hSw; have k0 := (HX6.out.below hSw.below).cell; go_simp; try with_reducible rfl)
                simp only [Act.put, List.setIfInBounds_toArray, List.set_cons_zero, List.set_cons_succ, List.getElem_toArray, List.getElem_cons_zero, List.getElem_cons_succ]
                refine wpAnyH_take (i := 29) (v := ?_) rfl (by kernel_rfl) (by kernel_rfl) (by kernel_rfl) (fun _ _ _ h => h) (Or.inl ⟨by rfl, ?_⟩) hH10 ?_
                rotate_left
                · (intro v hSw; have k0 := (HX6.out.below hSw.below).cell; go_simp; try with_reducible rfl)
                simp only [Act.put, List.setIfInBounds_toArray, List.set_cons_zero, List.set_cons_succ, List.getElem_toArray, List.getElem_cons_zero, List.getElem_cons_succ]
                refine wpAnyH_done (by kernel_rfl) ?_ _
                go_wp2_with fail
                go_ret
                exact ⟨rfl, ext HB6.out hH10.below⟩
              refine AllReadyH.cons rfl (fun K hK => ?_) AllReadyH.nil
              go_simp
              refine (K2.out _ hH1.below).mono ?_
              rintro e v11 ⟨C, c10, rfl, hes, hnw, hb⟩
              have KY := Lib.hid hes
              have KYN := Lib.hid hnw.1
              clear hes hnw
              try replace KX := Lib.hid (KX.out.up hb)
              try replace KB := Lib.hid (KB.out.below hb)
              try replace KO := Lib.hid (own_lift KO.out hb)
              go_wp2_with fail
              refine hK.out _ _ (hH1.up hb) (fun hH11 => ?_)
              clear hb hK K hH1
              refine wpAnyH_ready (rs := [6]) (by kernel_rfl) (by simp) ?_
              refine AllReadyH.cons rfl (fun K hK => ?_) AllReadyH.nil
              have KB := Lib.hid (Box.new v11 [.int .u64 g] 23)
              have KO := Lib.hid (own_one (e := 23) v11 w6.heap.size hH11.below.size (.int .u64 g))
              try (obtain ⟨a2, ha2, hlt2, _⟩ := KX.out 0 g rfl; injection ha2 with ha2; subst ha2; have KD := Lib.hid (Nat.ne_of_gt hlt2); clear hlt2)
              try replace KX := Lib.hid (KX.out.up (below1 (o := .cells #[.int .u64 g] 23)))
              try replace KY := Lib.hid (KY.out.up (below1 (o := .cells #[.int .u64 g] 23)))
              go_simp
              refine hK.out _ _ (hH11.alloc (.cells #[.int .u64 g] 23)) (fun hH12 => ?_)
              clear hK K hH11
              refine wpAnyH_ready (rs := [11]) (by kernel_rfl) (by simp) ?_
              refine AllReadyH.cons rfl (fun K hK => ?_) AllReadyH.nil
              try simp only [Act.put, List.setIfInBounds_toArray, List.set_cons_zero, List.set_cons_succ, List.getElem_toArray, List.getElem_cons_zero, List.getElem_cons_succ]
              refine Eq.mpr (if_pos (by rfl)) ?_
              refine app_usW (Operand.tmp 66) (Operand.tmp 70) rfl _ w6.heap.size hH12.below.size (.slice (some ⟨_, 0, none⟩) 1 1) [g] rfl KO.out C c10 X KYN.out rfl KY.out (by simp; have := HXL.out; omega) (fun x4 v13 hown hgrow => ?_)
              have hH13x := hH12.grown0 hgrow (own_low KO.out)
              replace KX := Lib.hid (KX.out.grownU hgrow (by intro a ha q; injection ha with ha; subst ha; simp [Value.ownBlock] at q; exact KD.out q))
              obtain ⟨D, c11, rfl, _, hz⟩ := own_us hown
              have KZ := Lib.hid hz
              clear hown hgrow hz KO KB KD KY KYN
              refine hK.out _ _ hH13x (fun hH13 => ?_)
              clear hK K hH12 hH13x
              refine wpAnyH_ready (rs := [12]) (by kernel_rfl) (by simp) ?_
              refine AllReadyH.cons rfl (fun K hK => ?_) AllReadyH.nil
              go_simp
              refine (rsamen_any (some ax) D c3 c11 (g :: X) v13 KX.out KZ.out (by have := HXL.out; simp [maxLen]; omega)).mono ?_
              rintro e v14 ⟨rfl, hb⟩
              clear KX KZ
              go_wp2_with fail
              refine hK.out _ _ (hH13.up hb) (fun hH14 => ?_)
              clear hb hK K hH13
              refine wpAnyH_take (i := 13) (v := ?_) rfl (by kernel_rfl) (by kernel_rfl) (by kernel_rfl) (fun _ _ _ h => h) (Or.inl ⟨by rfl, ?_⟩) hH14 ?_
              rotate_left
              · (intro v hSw; have k0 := (HX6.out.below hSw.below).cell; go_simp; try with_reducible rfl)
              simp only [Act.put, List.setIfInBounds_toArray, List.set_cons_zero, List.set_cons_succ, List.getElem_toArray, List.getElem_cons_zero, List.getElem_cons_succ]
              refine wpAnyH_take (i := 14) (v := ?_) rfl (by kernel_rfl) (by kernel_rfl) (by kernel_rfl) (fun _ _ _ h => h) (Or.inl ⟨by rfl, ?_⟩) hH14 ?_
              rotate_left
              · (intro v hSw; have k0 := (HX6.out.below hSw.below).cell; go_simp; try with_reducible rfl)
              simp only [Act.put, List.setIfInBounds_toArray, List.set_cons_zero, List.set_cons_succ, List.getElem_toArray, List.getElem_cons_zero, List.getElem_cons_succ]
              refine wpAnyH_take (i := 15) (v := ?_) rfl (by kernel_rfl) (by kernel_rfl) (by kernel_rfl) (fun _ _ _ h => h) (Or.inl ⟨by rfl, ?_⟩) hH14 ?_
              rotate_left
              · (intro v hSw; have k0 := (HX6.out.below hSw.below).cell; go_simp; try with_reducible rfl)
              simp only [Act.put, List.setIfInBounds_toArray, List.set_cons_zero, List.set_cons_succ, List.getElem_toArray, List.getElem_cons_zero, List.getElem_cons_succ]
              refine wpAnyH_take (i := 17) (v := ?_) rfl (by kernel_rfl) (by kernel_rfl) (by kernel_rfl) (fun _ _ _ h => h) (Or.inl ⟨by rfl, ?_⟩) hH14 ?_
              rotate_left
              · (intro v hSw; have k0 := (HX6.out.below hSw.below).cell; go_simp; try with_reducible rfl)
              simp only [Act.put, List.setIfInBounds_toArray, List.set_cons_zero, List.set_cons_succ, List.getElem_toArray, List.getElem_cons_zero, List.getElem_cons_succ]
              refine wpAnyH_take (i := 18) (v := ?_) rfl (by kernel_rfl) (by kernel_rfl) (by kernel_rfl) (fun _ _ _ h => h) (Or.inl ⟨by rfl, ?_⟩) hH14 ?_
              rotate_left
              · (intro v hSw; have k0 := (HX6.out.below hSw.below).cell; go_simp; try with_reducible rfl)
              simp only [Act.put, List.setIfInBounds_toArray, List.set_cons_zero, List.set_cons_succ, List.getElem_toArray, List.getElem_cons_zero, List.getElem_cons_succ]
              refine wpAnyH_ready (rs := [16]) (by kernel_rfl) (by simp) ?_
              refine AllReadyH.cons rfl (fun K hK => ?_) AllReadyH.nil
              go_simp
              refine (K3.out _ hH14.below).mono ?_
              rintro e v15 ⟨E3, c16, rfl, hes, _, hb⟩
              have KE := Lib.hid hes
              clear hes
              go_wp2_with fail
              refine hK.out _ _ (hH14.up hb) (fun hH15 => ?_)
              clear hb hK K hH14
              refine wpAnyH_ready (rs := [19]) (by kernel_rfl) (by simp) ?_
              refine AllReadyH.cons rfl (fun K hK => ?_) AllReadyH.nil
              go_simp
              refine (K4.out _ hH15.below).mono ?_
              rintro e v16 ⟨F3, c19, rfl, hes, _, hb⟩
              have KF := Lib.hid hes
              replace KE := Lib.hid (KE.out.up hb)
              clear hes
              go_wp2_with fail
              refine hK.out _ _ (hH15.up hb) (fun hH16 => ?_)
              clear hb hK K hH15
              refine wpAnyH_ready (rs := [20]) (by kernel_rfl) (by simp) ?_
              refine AllReadyH.cons rfl (fun K hK => ?_) AllReadyH.nil
              go_simp
              refine (rsamen_any E3 F3 c16 c19 Z v16 KE.out KF.out (by have := HZL.out; unfold maxLen; omega)).mono ?_
              rintro e v17 ⟨rfl, hb⟩
              clear KE KF
              go_wp2_with fail
              refine hK.out _ _ (hH16.up hb) (fun hH17 => ?_)
              clear hb hK K hH16
              refine wpAnyH_take (i := 21) (v := ?_) rfl (by kernel_rfl) (by kernel_rfl) (by kernel_rfl) (fun _ _ _ h => h) (Or.inl ⟨by rfl, ?_⟩) hH17 ?_
              rotate_left
              · (intro v hSw; have k0 := (HX6.out.below hSw.below).cell; go_simp; try with_reducible rfl)
              simp only [Act.put, List.setIfInBounds_toArray, List.set_cons_zero, List.set_cons_succ, List.getElem_toArray, List.getElem_cons_zero, List.getElem_cons_succ]
              refine wpAnyH_take (i := 22) (v := ?_) rfl (by kernel_rfl) (by kernel_rfl) (by kernel_rfl) (fun _ _ _ h => h) (Or.inl ⟨by rfl, ?_⟩) hH17 ?_
              rotate_left
              · (intro v hSw; have k0 := (HX6.out.below hSw.below).cell; go_simp; try with_reducible rfl)
              simp only [Act.put, List.setIfInBounds_toArray, List.set_cons_zero, List.set_cons_succ, List.getElem_toArray, List.getElem_cons_zero, List.getElem_cons_succ]
              refine wpAnyH_take (i := 23) (v := ?_) rfl (by kernel_rfl) (by kernel_rfl) (by kernel_rfl) (fun _ _ _ h => h) (Or.inl ⟨by rfl, ?_⟩) hH17 ?_
              rotate_left
              · (intro v hSw; have k0 := (HX6.out.below hSw.below).cell; go_simp; try with_reducible rfl)
              simp only [Act.put, List.setIfInBounds_toArray, List.set_cons_zero, List.set_cons_succ, List.getElem_toArray, List.getElem_cons_zero, List.getElem_cons_succ]
              refine wpAnyH_take (i := 25) (v := ?_) rfl (by kernel_rfl) (by kernel_rfl) (by kernel_rfl) (fun _ _ _ h => h) (Or.inl ⟨by rfl, ?_⟩) hH17 ?_
              rotate_left
              · (intro v hSw; have k0 := (HX6.out.below hSw.below).cell; go_simp; try with_reducible rfl)
              simp only [Act.put, List.setIfInBounds_toArray, List.set_cons_zero, List.set_cons_succ, List.getElem_toArray, List.getElem_cons_zero, List.getElem_cons_succ]
              refine wpAnyH_ready (rs := [24]) (by kernel_rfl) (by simp) ?_
              refine AllReadyH.cons rfl (fun K hK => ?_) AllReadyH.nil
              go_simp
              refine (K5.out _ hH17.below).mono ?_
              rintro e v18 ⟨rfl, hb⟩
              go_wp2_with fail
              refine hK.out _ _ (hH17.up hb) (fun hH18 => ?_)
              clear hb hK K hH17
              refine wpAnyH_ready (rs := [26]) (by kernel_rfl) (by simp) ?_
              refine AllReadyH.cons rfl (fun K hK => ?_) AllReadyH.nil
              go_simp
              refine (K6.out _ hH18.below).mono ?_
              rintro e v19 ⟨rfl, hb⟩
              go_wp2_with fail
              refine hK.out _ _ (hH18.up hb) (fun hH19 => ?_)
              clear hb hK K hH18
              refine wpAnyH_take (i := 27) (v := ?_) rfl (by kernel_rfl) (by kernel_rfl) (by kernel_rfl) (fun _ _ _ h => h) (Or.inl ⟨by rfl, ?_⟩) hH19 ?_
              rotate_left
              · (intro v hSw; have k0 := (HX6.out.below hSw.below).cell; go_simp; try with_reducible rfl)
              simp only [Act.put, List.setIfInBounds_toArray, List.set_cons_zero, List.set_cons_succ, List.getElem_toArray, List.getElem_cons_zero, List.getElem_cons_succ]
              refine wpAnyH_take (i := 28) (v := ?_) rfl (by kernel_rfl) (by kernel_rfl) (by kernel_rfl) (fun _ _ _ h => h) (Or.inl ⟨by rfl, ?_⟩) hH19 ?_
              rotate_left
              · (intro v hSw; have k0 := (HX6.out.below hSw.below).cell; go_simp; try with_reducible rfl)
              simp only [Act.put, List.setIfInBounds_toArray, List.set_cons_zero, List.set_cons_succ, List.getElem_toArray, List.getElem_cons_zero, List.getElem_cons_succ]
              refine wpAnyH_take (i := 29) (v := ?_) rfl (by kernel_rfl) (by kernel_rfl) (by kernel_rfl) (fun _ _ _ h => h) (Or.inl ⟨by rfl, ?_⟩) hH19 ?_
              rotate_left
              · (intro v hSw; have k0 := (HX6.out.below hSw.below).cell; go_simp; try with_reducible rfl)
              simp only [Act.put, List.setIfInBounds_toArray, List.set_cons_zero, List.set_cons_succ, List.getElem_toArray, List.getElem_cons_zero, List.getElem_cons_succ]
              refine wpAnyH_done (by kernel_rfl) ?_ _
              go_wp2_with fail
              go_ret
              exact ⟨rfl, ext HB6.out hH19.below⟩
            refine AllReadyH.cons rfl (fun K hK => ?_) AllReadyH.nil
            have KB := Lib.hid (Box.new v0 [.int .u64 g] 23)
            have KO := Lib.hid (own_one (e := 23) v0 w6.heap.size hH0.below.size (.int .u64 g))
            try (obtain ⟨a2, ha2, hlt2, _⟩ := KX.out 0 g rfl; injection ha2 with ha2; subst ha2; have KD := Lib.hid (Nat.ne_of_gt hlt2); clear hlt2)
            try replace KX := Lib.hid (KX.out.up (below1 (o := .cells #[.int .u64 g] 23)))
            try replace KY := Lib.hid (KY.out.up (below1 (o := .cells #[.int .u64 g] 23)))
            go_simp
            refine hK.out _ _ (hH0.alloc (.cells #[.int .u64 g] 23)) (fun hH20 => ?_)
            clear hK K hH0
            refine wpAnyH_ready (rs := [3]) (by kernel_rfl) (by simp) ?_
            refine AllReadyH.cons rfl (fun K hK => ?_) AllReadyH.nil
            go_simp
            refine (K1.out _ hH20.below).mono ?_
            rintro e v21 ⟨B3, c3, rfl, hes, hnw, hb⟩
            obtain ⟨ax, rfl, hlt, _⟩ := hes 0 g rfl
            have KX := Lib.hid hes
            have hnx := hnw.2 ax rfl
            try have KD := Lib.hid (Nat.ne_of_lt (Nat.lt_of_lt_of_le KB.out.lt hnx))
            clear hes hnw hlt hnx
            try replace KB := Lib.hid (KB.out.below hb)
            try replace KO := Lib.hid (own_lift KO.out hb)
            go_wp2_with fail
            refine hK.out _ _ (hH20.up hb) (fun hH21 => ?_)
            clear hb hK K hH20
            refine wpAnyH_ready (rs := [10]) (by kernel_rfl) (by simp) ?_
            refine AllReadyH.cons rfl (fun K hK => ?_) AllReadyH.nil
            go_simp
            refine (K2.out _ hH21.below).mono ?_
            rintro e v22 ⟨C, c10, rfl, hes, hnw, hb⟩
            have KY := Lib.hid hes
            have KYN := Lib.hid hnw.1
            clear hes hnw
            try replace KX := Lib.hid (KX.out.up hb)
            try replace KB := Lib.hid (KB.out.below hb)
            try replace KO := Lib.hid (own_lift KO.out hb)
            go_wp2_with fail
            refine hK.out _ _ (hH21.up hb) (fun hH22 => ?_)
            clear hb hK K hH21
            refine wpAnyH_ready (rs := [11]) (by kernel_rfl) (by simp) ?_
            refine AllReadyH.cons rfl (fun K hK => ?_) AllReadyH.nil
            try simp only [Act.put, List.setIfInBounds_toArray, List.set_cons_zero, List.set_cons_succ, List.getElem_toArray, List.getElem_cons_zero, List.getElem_cons_succ]
            refine Eq.mpr (if_pos (by rfl)) ?_
            refine app_usW (Operand.tmp 66) (Operand.tmp 70) rfl _ w6.heap.size hH22.below.size (.slice (some ⟨_, 0, none⟩) 1 1) [g] rfl KO.out C c10 X KYN.out rfl KY.out (by simp; have := HXL.out; omega) (fun x4 v23 hown hgrow => ?_)
            have hH23x := hH22.grown0 hgrow (own_low KO.out)
            replace KX := Lib.hid (KX.out.grownU hgrow (by intro a ha q; injection ha with ha; subst ha; simp [Value.ownBlock] at q; exact KD.out q))
            obtain ⟨D, c11, rfl, _, hz⟩ := own_us hown
            have KZ := Lib.hid hz
            clear hown hgrow hz KO KB KD KY KYN
            refine hK.out _ _ hH23x (fun hH23 => ?_)
            clear hK K hH22 hH23x
            refine wpAnyH_ready (rs := [12]) (by kernel_rfl) (by simp) ?_
            refine AllReadyH.cons rfl (fun K hK => ?_) AllReadyH.nil
            go_simp
            refine (rsamen_any (some ax) D c3 c11 (g :: X) v23 KX.out KZ.out (by have := HXL.out; simp [maxLen]; omega)).mono ?_
            rintro e v24 ⟨rfl, hb⟩
            clear KX KZ
            go_wp2_with fail
            refine hK.out _ _ (hH23.up hb) (fun hH24 => ?_)
            clear hb hK K hH23
            refine wpAnyH_take (i := 13) (v := ?_) rfl (by kernel_rfl) (by kernel_rfl) (by kernel_rfl) (fun _ _ _ h => h) (Or.inl ⟨by rfl, ?_⟩) hH24 ?_
            rotate_left
            · (intro v hSw; have k0 := (HX6.out.below hSw.below).cell; go_simp; try with_reducible rfl)
            simp only [Act.put, List.setIfInBounds_toArray, List.set_cons_zero, List.set_cons_succ, List.getElem_toArray, List.getElem_cons_zero, List.getElem_cons_succ]
            refine wpAnyH_take (i := 14) (v := ?_) rfl (by kernel_rfl) (by kernel_rfl) (by kernel_rfl) (fun _ _ _ h => h) (Or.inl ⟨by rfl, ?_⟩) hH24 ?_
            rotate_left
            · (intro v hSw; have k0 := (HX6.out.below hSw.below).cell; go_simp; try with_reducible rfl)
            simp only [Act.put, List.setIfInBounds_toArray, List.set_cons_zero, List.set_cons_succ, List.getElem_toArray, List.getElem_cons_zero, List.getElem_cons_succ]
            refine wpAnyH_take (i := 15) (v := ?_) rfl (by kernel_rfl) (by kernel_rfl) (by kernel_rfl) (fun _ _ _ h => h) (Or.inl ⟨by rfl, ?_⟩) hH24 ?_
            rotate_left
            · (intro v hSw; have k0 := (HX6.out.below hSw.below).cell; go_simp; try with_reducible rfl)
            simp only [Act.put, List.setIfInBounds_toArray, List.set_cons_zero, List.set_cons_succ, List.getElem_toArray, List.getElem_cons_zero, List.getElem_cons_succ]
            refine wpAnyH_take (i := 17) (v := ?_) rfl (by kernel_rfl) (by kernel_rfl) (by kernel_rfl) (fun _ _ _ h => h) (Or.inl ⟨by rfl, ?_⟩) hH24 ?_
            rotate_left
            · (intro v hSw; have k0 := (HX6.out.below hSw.below).cell; go_simp; try with_reducible rfl)
            simp only [Act.put, List.setIfInBounds_toArray, List.set_cons_zero, List.set_cons_succ, List.getElem_toArray, List.getElem_cons_zero, List.getElem_cons_succ]
            refine wpAnyH_take (i := 18) (v := ?_) rfl (by kernel_rfl) (by kernel_rfl) (by kernel_rfl) (fun _ _ _ h => h) (Or.inl ⟨by rfl, ?_⟩) hH24 ?_
            rotate_left
            · (intro v hSw; have k0 := (HX6.out.below hSw.below).cell; go_simp; try with_reducible rfl)
            simp only [Act.put, List.setIfInBounds_toArray, List.set_cons_zero, List.set_cons_succ, List.getElem_toArray, List.getElem_cons_zero, List.getElem_cons_succ]
            refine wpAnyH_ready (rs := [16]) (by kernel_rfl) (by simp) ?_
            refine AllReadyH.cons rfl (fun K hK => ?_) AllReadyH.nil
            go_simp
            refine (K3.out _ hH24.below).mono ?_
            rintro e v25 ⟨E3, c16, rfl, hes, _, hb⟩
            have KE := Lib.hid hes
            clear hes
            go_wp2_with fail
            refine hK.out _ _ (hH24.up hb) (fun hH25 => ?_)
            clear hb hK K hH24
            refine wpAnyH_ready (rs := [19]) (by kernel_rfl) (by simp) ?_
            refine AllReadyH.cons rfl (fun K hK => ?_) AllReadyH.nil
            go_simp
            refine (K4.out _ hH25.below).mono ?_
            rintro e v26 ⟨F3, c19, rfl, hes, _, hb⟩
            have KF := Lib.hid hes
            replace KE := Lib.hid (KE.out.up hb)
            clear hes
            go_wp2_with fail
            refine hK.out _ _ (hH25.up hb) (fun hH26 => ?_)
            clear hb hK K hH25
            refine wpAnyH_ready (rs := [20]) (by kernel_rfl) (by simp) ?_
            refine AllReadyH.cons rfl (fun K hK => ?_) AllReadyH.nil
            go_simp
            refine (rsamen_any E3 F3 c16 c19 Z v26 KE.out KF.out (by have := HZL.out; unfold maxLen; omega)).mono ?_
            rintro e v27 ⟨rfl, hb⟩
            clear KE KF
            go_wp2_with fail
            refine hK.out _ _ (hH26.up hb) (fun hH27 => ?_)
            clear hb hK K hH26
            refine wpAnyH_take (i := 21) (v := ?_) rfl (by kernel_rfl) (by kernel_rfl) (by kernel_rfl) (fun _ _ _ h => h) (Or.inl ⟨by rfl, ?_⟩) hH27 ?_
            rotate_left
            · (intro v hSw; have k0 := (HX6.out.below hSw.below).cell; go_simp; try with_reducible rfl)
            simp only [Act.put, List.setIfInBounds_toArray, List.set_cons_zero, List.set_cons_succ, List.getElem_toArray, List.getElem_cons_zero, List.getElem_cons_succ]
            refine wpAnyH_take (i := 22) (v := ?_) rfl (by kernel_rfl) (by kernel_rfl) (by kernel_rfl) (fun _ _ _ h => h) (Or.inl ⟨by rfl, ?_⟩) hH27 ?_
            rotate_left
            · (intro v hSw; have k0 := (HX6.out.below hSw.below).cell; go_simp; try with_reducible rfl)
            simp only [Act.put, List.setIfInBounds_toArray, List.set_cons_zero, List.set_cons_succ, List.getElem_toArray, List.getElem_cons_zero, List.getElem_cons_succ]
            refine wpAnyH_take (i := 23) (v := ?_) rfl (by kernel_rfl) (by kernel_rfl) (by kernel_rfl) (fun _ _ _ h => h) (Or.inl ⟨by rfl, ?_⟩) hH27 ?_
            rotate_left
            · (intro v hSw; have k0 := (HX6.out.below hSw.below).cell; go_simp; try with_reducible rfl)
            simp only [Act.put, List.setIfInBounds_toArray, List.set_cons_zero, List.set_cons_succ, List.getElem_toArray, List.getElem_cons_zero, List.getElem_cons_succ]
            refine wpAnyH_take (i := 25) (v := ?_) rfl (by kernel_rfl) (by kernel_rfl) (by kernel_rfl) (fun _ _ _ h => h) (Or.inl ⟨by rfl, ?_⟩) hH27 ?_
            rotate_left
            · (intro v hSw; have k0 := (HX6.out.below hSw.below).cell; go_simp; try with_reducible rfl)
            simp only [Act.put, List.setIfInBounds_toArray, List.set_cons_zero, List.set_cons_succ, List.getElem_toArray, List.getElem_cons_zero, List.getElem_cons_succ]
            refine wpAnyH_ready (rs := [24]) (by kernel_rfl) (by simp) ?_
            refine AllReadyH.cons rfl (fun K hK => ?_) AllReadyH.nil
            go_simp
            refine (K5.out _ hH27.below).mono ?_
            rintro e v28 ⟨rfl, hb⟩
            go_wp2_with fail
            refine hK.out _ _ (hH27.up hb) (fun hH28 => ?_)
            clear hb hK K hH27
            refine wpAnyH_ready (rs := [26]) (by kernel_rfl) (by simp) ?_
            refine AllReadyH.cons rfl (fun K hK => ?_) AllReadyH.nil
            go_simp
            refine (K6.out _ hH28.below).mono ?_
            rintro e v29 ⟨rfl, hb⟩
            go_wp2_with fail
            refine hK.out _ _ (hH28.up hb) (fun hH29 => ?_)
            clear hb hK K hH28
            refine wpAnyH_take (i := 27) (v := ?_) rfl (by kernel_rfl) (by kernel_rfl) (by kernel_rfl) (fun _ _ _ h => h) (Or.inl ⟨by rfl, ?_⟩) hH29 ?_
            rotate_left
            · (intro v hSw; have k0 := (HX6.out.below hSw.below).cell; go_simp; try with_reducible rfl)
            simp only [Act.put, List.setIfInBounds_toArray, List.set_cons_zero, List.set_cons_succ, List.getElem_toArray, List.getElem_cons_zero, List.getElem_cons_succ]
            refine wpAnyH_take (i := 28) (v := ?_) rfl (by kernel_rfl) (by kernel_rfl) (by kernel_rfl) (fun _ _ _ h => h) (Or.inl ⟨by rfl, ?_⟩) hH29 ?_
            rotate_left
            · (intro v hSw; have k0 := (HX6.out.below hSw.below).cell; go_simp; try with_reducible rfl)
            simp only [Act.put, List.setIfInBounds_toArray, List.set_cons_zero, List.set_cons_succ, List.getElem_toArray, List.getElem_cons_zero, List.getElem_cons_succ]
            refine wpAnyH_take (i := 29) (v := ?_) rfl (by kernel_rfl) (by kernel_rfl) (by kernel_rfl) (fun _ _ _ h => h) (Or.inl ⟨by rfl, ?_⟩) hH29 ?_
            rotate_left
            · (intro v hSw; have k0 := (HX6.out.below hSw.below).cell; go_simp; try with_reducible rfl)
            simp only [Act.put, List.setIfInBounds_toArray, List.set_cons_zero, List.set_cons_succ, List.getElem_toArray, List.getElem_cons_zero, List.getElem_cons_succ]
            refine wpAnyH_done (by kernel_rfl) ?_ _
            go_wp2_with fail
            go_ret
            exact ⟨rfl, ext HB6.out hH29.below⟩
          clear aK HU HWG HWP HWO HG0 HNE HPG HOG HB2 k0
          refine held_begin (by kernel_rfl) (Held.refl w2) (fun v0 hH0 => ?_)
          refine wpAnyH_take (i := 1) (v := ?_) rfl (by kernel_rfl) (by kernel_rfl) (by kernel_rfl) (fun _ _ _ h => h) (Or.inl ⟨by rfl, ?_⟩) hH0 ?_
          rotate_left
          · (intro v hSw; have k0 := (HX2.out.below hSw.below).cell; go_simp; try with_reducible rfl)
          simp only [Act.put, List.setIfInBounds_toArray, List.set_cons_zero, List.set_cons_succ, List.getElem_toArray, List.getElem_cons_zero, List.getElem_cons_succ]
          refine wpAnyH_take (i := 3) (v := ?_) rfl (by kernel_rfl) (by kernel_rfl) (by kernel_rfl) (fun _ _ _ h => h) (Or.inl ⟨by rfl, ?_⟩) hH0 ?_
          rotate_left
          · (intro v hSw; have k0 := (HX2.out.below hSw.below).cell; go_simp; try with_reducible rfl)
          simp only [Act.put, List.setIfInBounds_toArray, List.set_cons_zero, List.set_cons_succ, List.getElem_toArray, List.getElem_cons_zero, List.getElem_cons_succ]
          refine wpAnyH_ready (rs := [0, 4]) (by kernel_rfl) (by simp) ?_
          refine AllReadyH.cons rfl (fun K hK => ?_) ?_
          · have KO := Lib.hid (own_bare (e := 32) (size := 3) v0 w2.heap.size hH0.below.size)
            try replace KB := Lib.hid (KB.out.alloc (.cells #[] 32))
            try simp only [World.size_alloc] at KO
            go_simp
            refine hK.out _ _ (hH0.alloc (.cells #[] 32)) (fun hH1 => ?_)
            clear hK K hH0
            refine wpAnyH_ready (rs := [2, 4]) (by kernel_rfl) (by simp) ?_
            refine AllReadyH.cons rfl (fun K hK => ?_) ?_
            · try simp only [Act.put, List.setIfInBounds_toArray, List.set_cons_zero, List.set_cons_succ, List.getElem_toArray, List.getElem_cons_zero, List.getElem_cons_succ]
              refine Eq.mpr (if_pos (by rfl)) ?_
              refine app_msW (Operand.tmp 54) (Operand.tmp 55) rfl _ w2.heap.size hH1.below.size (.slice (some ⟨_, 0, none⟩) 0 0) [] rfl KO.out A c l hA rfl (H2.out.up hH1.below) (by simp; omega) (fun x2 v2 hown hgrow => ?_)
              have hH2x := hH1.grown0 hgrow (own_low KO.out)
              try replace KB := Lib.hid (KB.out.grownB hgrow (by simp [Value.ownBlock]))
              rw [List.nil_append] at hown
              have KR := Lib.hid hown
              clear hown hgrow KO
              refine hK.out _ _ hH2x (fun hH2 => ?_)
              clear hK K hH1 hH2x
              refine wpAnyH_ready (rs := [4]) (by kernel_rfl) (by simp) ?_
              refine AllReadyH.cons rfl (fun K hK => ?_) AllReadyH.nil
              have KB := Lib.hid (Box.new v2 [.int .u64 g, .int .u64 p, .int .i64 k] 32)
              try replace KO := Lib.hid (KO.out.alloc (.cells #[.int .u64 g, .int .u64 p, .int .i64 k] 32))
              try replace KR := Lib.hid (KR.out.alloc (.cells #[.int .u64 g, .int .u64 p, .int .i64 k] 32))
              try simp only [World.size_alloc] at KB
              go_simp
              refine hK.out _ _ (hH2.alloc (.cells #[.int .u64 g, .int .u64 p, .int .i64 k] 32)) (fun hH3 => ?_)
              clear hK K hH2
              refine wpAnyH_ready (rs := [5]) (by kernel_rfl) (by simp) ?_
              refine AllReadyH.cons rfl (fun K hK => ?_) AllReadyH.nil
              try simp only [Act.put, List.setIfInBounds_toArray, List.set_cons_zero, List.set_cons_succ, List.getElem_toArray, List.getElem_cons_zero, List.getElem_cons_succ]
              refine Eq.mpr (if_pos (by rfl)) ?_
              refine app_msW (Operand.tmp 56) (Operand.tmp 58) rfl _ w2.heap.size hH3.below.size x2 l rfl KR.out _ 1 [⟨g, p, k⟩] (fun q => by cases q) rfl (ms_one (m := ⟨g, p, k⟩) KB.out) (by simp; omega) (fun x3 v4 hown hgrow => ?_)
              have hH4x := hH3.grown0 hgrow (own_low KR.out)
              obtain ⟨B, c2, rfl, _, hB⟩ := own_ms hown
              have KM := Lib.hid hB
              clear hown hgrow KR KB hB
              refine hK.out _ _ hH4x (fun hH4 => ?_)
              clear hK K hH3 hH4x
              refine wpAnyH_take (i := 6) (v := ?_) rfl (by kernel_rfl) (by kernel_rfl) (by kernel_rfl) (fun _ _ _ h => h) (Or.inl ⟨by rfl, ?_⟩) hH4 ?_
              rotate_left
              · (intro v hSw; have k0 := (HX2.out.below hSw.below).cell; go_simp; try with_reducible rfl)
              simp only [Act.put, List.setIfInBounds_toArray, List.set_cons_zero, List.set_cons_succ, List.getElem_toArray, List.getElem_cons_zero, List.getElem_cons_succ]
              refine wpAnyH_done (by kernel_rfl) ?_ _
              exact HK _ _ _ _ _ _ _ KM.out hH4.below
            refine AllReadyH.cons rfl (fun K hK => ?_) AllReadyH.nil
            have KB := Lib.hid (Box.new (v0.alloc (.cells #[] 32)) [.int .u64 g, .int .u64 p, .int .i64 k] 32)
            try replace KO := Lib.hid (KO.out.alloc (.cells #[.int .u64 g, .int .u64 p, .int .i64 k] 32))
            try replace KR := Lib.hid (KR.out.alloc (.cells #[.int .u64 g, .int .u64 p, .int .i64 k] 32))
            try simp only [World.size_alloc] at KB
            go_simp
            refine hK.out _ _ (hH1.alloc (.cells #[.int .u64 g, .int .u64 p, .int .i64 k] 32)) (fun hH5 => ?_)
            clear hK K hH1
            refine wpAnyH_ready (rs := [2]) (by kernel_rfl) (by simp) ?_
            refine AllReadyH.cons rfl (fun K hK => ?_) AllReadyH.nil
            try simp only [Act.put, List.setIfInBounds_toArray, List.set_cons_zero, List.set_cons_succ, List.getElem_toArray, List.getElem_cons_zero, List.getElem_cons_succ]
            refine Eq.mpr (if_pos (by rfl)) ?_
            refine app_msW (Operand.tmp 54) (Operand.tmp 55) rfl _ w2.heap.size hH5.below.size (.slice (some ⟨_, 0, none⟩) 0 0) [] rfl KO.out A c l hA rfl (H2.out.up hH5.below) (by simp; omega) (fun x2 v6 hown hgrow => ?_)
            have hH6x := hH5.grown0 hgrow (own_low KO.out)
            try replace KB := Lib.hid (KB.out.grownB hgrow (by simp [Value.ownBlock]))
            rw [List.nil_append] at hown
            have KR := Lib.hid hown
            clear hown hgrow KO
            refine hK.out _ _ hH6x (fun hH6 => ?_)
            clear hK K hH5 hH6x
            refine wpAnyH_ready (rs := [5]) (by kernel_rfl) (by simp) ?_
            refine AllReadyH.cons rfl (fun K hK => ?_) AllReadyH.nil
            try simp only [Act.put, List.setIfInBounds_toArray, List.set_cons_zero, List.set_cons_succ, List.getElem_toArray, List.getElem_cons_zero, List.getElem_cons_succ]
            refine Eq.mpr (if_pos (by rfl)) ?_
            refine app_msW (Operand.tmp 56) (Operand.tmp 58) rfl _ w2.heap.size hH6.below.size x2 l rfl KR.out _ 1 [⟨g, p, k⟩] (fun q => by cases q) rfl (ms_one (m := ⟨g, p, k⟩) KB.out) (by simp; omega) (fun x3 v7 hown hgrow => ?_)
            have hH7x := hH6.grown0 hgrow (own_low KR.out)
            obtain ⟨B, c2, rfl, _, hB⟩ := own_ms hown
            have KM := Lib.hid hB
            clear hown hgrow KR KB hB
            refine hK.out _ _ hH7x (fun hH7 => ?_)
            clear hK K hH6 hH7x
            refine wpAnyH_take (i := 6) (v := ?_) rfl (by kernel_rfl) (by kernel_rfl) (by kernel_rfl) (fun _ _ _ h => h) (Or.inl ⟨by rfl, ?_⟩) hH7 ?_
            rotate_left
            · (intro v hSw; have k0 := (HX2.out.below hSw.below).cell; go_simp; try with_reducible rfl)
            simp only [Act.put, List.setIfInBounds_toArray, List.set_cons_zero, List.set_cons_succ, List.getElem_toArray, List.getElem_cons_zero, List.getElem_cons_succ]
            refine wpAnyH_done (by kernel_rfl) ?_ _
            exact HK _ _ _ _ _ _ _ KM.out hH7.below
          refine AllReadyH.cons rfl (fun K hK => ?_) AllReadyH.nil
          have KB := Lib.hid (Box.new v0 [.int .u64 g, .int .u64 p, .int .i64 k] 32)
          try replace KO := Lib.hid (KO.out.alloc (.cells #[.int .u64 g, .int .u64 p, .int .i64 k] 32))
          try replace KR := Lib.hid (KR.out.alloc (.cells #[.int .u64 g, .int .u64 p, .int .i64 k] 32))
          try simp only [World.size_alloc] at KB
          go_simp
          refine hK.out _ _ (hH0.alloc (.cells #[.int .u64 g, .int .u64 p, .int .i64 k] 32)) (fun hH8 => ?_)
          clear hK K hH0
          refine wpAnyH_ready (rs := [0]) (by kernel_rfl) (by simp) ?_
          refine AllReadyH.cons rfl (fun K hK => ?_) AllReadyH.nil
          have KO := Lib.hid (own_bare (e := 32) (size := 3) (v0.alloc (.cells #[.int .u64 g, .int .u64 p, .int .i64 k] 32)) w2.heap.size hH8.below.size)
          try replace KB := Lib.hid (KB.out.alloc (.cells #[] 32))
          try simp only [World.size_alloc] at KO
          go_simp
          refine hK.out _ _ (hH8.alloc (.cells #[] 32)) (fun hH9 => ?_)
          clear hK K hH8
          refine wpAnyH_ready (rs := [2]) (by kernel_rfl) (by simp) ?_
          refine AllReadyH.cons rfl (fun K hK => ?_) AllReadyH.nil
          try simp only [Act.put, List.setIfInBounds_toArray, List.set_cons_zero, List.set_cons_succ, List.getElem_toArray, List.getElem_cons_zero, List.getElem_cons_succ]
          refine Eq.mpr (if_pos (by rfl)) ?_
          refine app_msW (Operand.tmp 54) (Operand.tmp 55) rfl _ w2.heap.size hH9.below.size (.slice (some ⟨_, 0, none⟩) 0 0) [] rfl KO.out A c l hA rfl (H2.out.up hH9.below) (by simp; omega) (fun x2 v10 hown hgrow => ?_)
          have hH10x := hH9.grown0 hgrow (own_low KO.out)
          try replace KB := Lib.hid (KB.out.grownB hgrow (by simp [Value.ownBlock]))
          rw [List.nil_append] at hown
          have KR := Lib.hid hown
          clear hown hgrow KO
          refine hK.out _ _ hH10x (fun hH10 => ?_)
          clear hK K hH9 hH10x
          refine wpAnyH_ready (rs := [5]) (by kernel_rfl) (by simp) ?_
          refine AllReadyH.cons rfl (fun K hK => ?_) AllReadyH.nil
          try simp only [Act.put, List.setIfInBounds_toArray, List.set_cons_zero, List.set_cons_succ, List.getElem_toArray, List.getElem_cons_zero, List.getElem_cons_succ]
          refine Eq.mpr (if_pos (by rfl)) ?_
          refine app_msW (Operand.tmp 56) (Operand.tmp 58) rfl _ w2.heap.size hH10.below.size x2 l rfl KR.out _ 1 [⟨g, p, k⟩] (fun q => by cases q) rfl (ms_one (m := ⟨g, p, k⟩) KB.out) (by simp; omega) (fun x3 v11 hown hgrow => ?_)
          have hH11x := hH10.grown0 hgrow (own_low KR.out)
          obtain ⟨B, c2, rfl, _, hB⟩ := own_ms hown
          have KM := Lib.hid hB
          clear hown hgrow KR KB hB
          refine hK.out _ _ hH11x (fun hH11 => ?_)
          clear hK K hH10 hH11x
          refine wpAnyH_take (i := 6) (v := ?_) rfl (by kernel_rfl) (by kernel_rfl) (by kernel_rfl) (fun _ _ _ h => h) (Or.inl ⟨by rfl, ?_⟩) hH11 ?_
          rotate_left
          · (intro v hSw; have k0 := (HX2.out.below hSw.below).cell; go_simp; try with_reducible rfl)
          simp only [Act.put, List.setIfInBounds_toArray, List.set_cons_zero, List.set_cons_succ, List.getElem_toArray, List.getElem_cons_zero, List.getElem_cons_succ]
          refine wpAnyH_done (by kernel_rfl) ?_ _
          exact HK _ _ _ _ _ _ _ KM.out hH11.below
end Go.Proofs.Ytpipindifeklbaa
