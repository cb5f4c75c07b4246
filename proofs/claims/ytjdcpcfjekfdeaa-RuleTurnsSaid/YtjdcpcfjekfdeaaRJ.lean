/- Rule: the walk of RuleTurns. No condition but the width of the masks. -/
import Derived.Test.YtjdcpcfjekfdeaaRH
import Derived.Test.YtjdcpcfjekfdeaaR1
namespace Go.Proofs.Ytjdcpcfjekfdeaa
open Go.RowKit

set_option maxRecDepth 100000 in
set_option maxHeartbeats 16000000 in
theorem turns_no (x y : Hel) (w : World) (hx : x.m < 4294967296) (hy : y.m < 4294967296) (hr : (x.right && y.right) = false) : Calls Try.prog 5 #[helV x, helV y] w (Yes w) := by
  have h1 := fun w => rhright_any x w hx
  have h2 := fun w => rhright_any y w hy
  have hg : x.right = true → y.right = false := fun h => by rw [h] at hr; simpa using hr
  clear hr hx hy
  generalize x.right = g at *
  generalize y.right = g2 at *
  obtain ⟨n, c, b, o, p, i, r, d, q, m⟩ := x
  obtain ⟨n2, c2, b2, o2, p2, i2, r2, d2, q2, m2⟩ := y
  dsimp only [helV] at *
  have HR1 := Lib.hid h1; clear h1
  have HR2 := Lib.hid h2; clear h2
  have HG := Lib.hid hg; clear hg
  have H0 := ((Held.refl w).lay [.int .i64 n, .int .u64 c, .int .u64 b, .int .u64 o, .int .u64 p, .bool i, .bool r, .bool d, .bool q, .int .u32 (m : Int)] 28).lay [.int .i64 n2, .int .u64 c2, .int .u64 b2, .int .u64 o2, .int .u64 p2, .bool i2, .bool r2, .bool d2, .bool q2, .int .u32 (m2 : Int)] 28
  simp only [World.size_alloc] at H0
  replace H0 := Lib.hid H0
  cases g
  · clear HG
    go_enter Try.func5, Try.ntmps5
    go_wp2_with fail
    refine (ualive_any _).mono ?_
    rintro e w1 ⟨rfl, hb⟩
    have H1 := Lib.hid (H0.out.up hb)
    clear hb H0
    have k0 := H1.out.b0.cell
    have k1 := H1.out.b1.cell
    go_wp2_with fail
    refine (HR1.out _).mono ?_
    rintro e w2 ⟨rfl, hb⟩
    have H2 := Lib.hid (H1.out.up hb)
    clear hb H1 k0 k1
    have k0 := H2.out.b0.cell
    have k1 := H2.out.b1.cell
    go_wp2_with fail
    go_ret
    exact ⟨rfl, H2.out.below⟩
  · obtain rfl := HG.out rfl
    clear HG
    go_enter Try.func5, Try.ntmps5
    go_wp2_with fail
    refine (ualive_any _).mono ?_
    rintro e w1 ⟨rfl, hb⟩
    have H1 := Lib.hid (H0.out.up hb)
    clear hb H0
    have k0 := H1.out.b0.cell
    have k1 := H1.out.b1.cell
    go_wp2_with fail
    refine (HR1.out _).mono ?_
    rintro e w2 ⟨rfl, hb⟩
    have H2 := Lib.hid (H1.out.up hb)
    clear hb H1 k0 k1
    have k0 := H2.out.b0.cell
    have k1 := H2.out.b1.cell
    go_wp2_with fail
    refine (HR2.out _).mono ?_
    rintro e w3 ⟨rfl, hb⟩
    have H3 := Lib.hid (H2.out.up hb)
    clear hb H2 k0 k1
    have k0 := H3.out.b0.cell
    have k1 := H3.out.b1.cell
    go_wp2_with fail
    go_ret
    exact ⟨rfl, H3.out.below⟩

set_option maxRecDepth 100000 in
set_option maxHeartbeats 16000000 in
theorem turns_yes (x y : Hel) (w : World) (hx : x.m < 4294967296) (hy : y.m < 4294967296) (hr : x.right = true) (hs : y.right = true) : Calls Try.prog 5 #[helV x, helV y] w (Yes w) := by
  have h1 := fun w => rhright_any x w hx
  have h2 := fun w => rhright_any y w hy
  rw [hr] at h1
  rw [hs] at h2
  have hd := fun w => decide_any x y w
  obtain ⟨n1, n2x, c1⟩ := Hel.right_n hr
  obtain ⟨n3, n4, c3⟩ := Hel.right_n hs
  have he := fun w => decide_any y x w
  rw [turn_kind x y c1] at he
  have hn := turn_src x y
  clear hr hs hx hy n1 n2x n3 n4 c1 c3
  obtain ⟨n, c, b, o, p, i, r, d, q, m⟩ := x
  obtain ⟨n2, c2, b2, o2, p2, i2, r2, d2, q2, m2⟩ := y
  dsimp only [helV] at *
  generalize decK ⟨n, c, b, o, p, i, r, d, q, m⟩ ⟨n2, c2, b2, o2, p2, i2, r2, d2, q2, m2⟩ = K at *
  generalize decS ⟨n, c, b, o, p, i, r, d, q, m⟩ ⟨n2, c2, b2, o2, p2, i2, r2, d2, q2, m2⟩ = S at *
  generalize decS ⟨n2, c2, b2, o2, p2, i2, r2, d2, q2, m2⟩ ⟨n, c, b, o, p, i, r, d, q, m⟩ = S2 at *
  have ht := fun w => target_any K S w
  have HE := Lib.hid he; clear he
  have HN := Lib.hid hn; clear hn
  have HT := Lib.hid ht; clear ht
  have eK : (K != K) = false := bne_self_eq_false K
  have HR1 := Lib.hid h1; clear h1
  have HR2 := Lib.hid h2; clear h2
  have HD := Lib.hid hd; clear hd
  have H0 := ((Held.refl w).lay [.int .i64 n, .int .u64 c, .int .u64 b, .int .u64 o, .int .u64 p, .bool i, .bool r, .bool d, .bool q, .int .u32 (m : Int)] 28).lay [.int .i64 n2, .int .u64 c2, .int .u64 b2, .int .u64 o2, .int .u64 p2, .bool i2, .bool r2, .bool d2, .bool q2, .int .u32 (m2 : Int)] 28
  simp only [World.size_alloc] at H0
  replace H0 := Lib.hid H0
  go_enter Try.func5, Try.ntmps5
  go_wp2_with fail
  refine (ualive_any _).mono ?_
  rintro e w1 ⟨rfl, hb⟩
  have H1 := Lib.hid (H0.out.up hb)
  clear hb H0
  have k0 := H1.out.b0.cell
  have k1 := H1.out.b1.cell
  go_wp2_with fail
  refine (HR1.out _).mono ?_
  rintro e w2 ⟨rfl, hb⟩
  have H2 := Lib.hid (H1.out.up hb)
  clear hb H1 k0 k1
  have k0 := H2.out.b0.cell
  have k1 := H2.out.b1.cell
  go_wp2_with fail
  refine (HR2.out _).mono ?_
  rintro e w3 ⟨rfl, hb⟩
  have H3 := Lib.hid (H2.out.up hb)
  clear hb H2 k0 k1
  have k0 := H3.out.b0.cell
  have k1 := H3.out.b1.cell
  clear k0 k1
  go_wp2_with fail
  rename_i K0 aK
  have HK : ∀ (b5 b6 : Nat) (v : World), Held w [(b6, [.int .i64 K, .int .i64 S2]), (b5, [.int .i64 K, .int .i64 S]), (w.heap.size + 1, [.int .i64 n2, .int .u64 c2, .int .u64 b2, .int .u64 o2, .int .u64 p2, .bool i2, .bool r2, .bool d2, .bool q2, .int .u32 (m2 : Int)]), (w.heap.size, [.int .i64 n, .int .u64 c, .int .u64 b, .int .u64 o, .int .u64 p, .bool i, .bool r, .bool d, .bool q, .int .u32 (m : Int)])] [] v → K0 { tmps := #[.agg #[.int .i64 n, .int .u64 c, .int .u64 b, .int .u64 o, .int .u64 p, .bool i, .bool r, .bool d, .bool q, .int .u32 (m : Int)], .agg #[.int .i64 n2, .int .u64 c2, .int .u64 b2, .int .u64 o2, .int .u64 p2, .bool i2, .bool r2, .bool d2, .bool q2, .int .u32 (m2 : Int)], .pointer (some ⟨w.heap.size, 0, none⟩), .pointer (some ⟨(w.heap.size + 1), 0, none⟩), .bool false, .pointer (some ⟨b5, 0, none⟩), .pointer (some ⟨b6, 0, none⟩), .bool true, .bool false, .agg #[.int .i64 n, .int .u64 c, .int .u64 b, .int .u64 o, .int .u64 p, .bool i, .bool r, .bool d, .bool q, .int .u32 (m : Int)], .bool true, .bool false, .bool false, .agg #[.int .i64 n2, .int .u64 c2, .int .u64 b2, .int .u64 o2, .int .u64 p2, .bool i2, .bool r2, .bool d2, .bool q2, .int .u32 (m2 : Int)], .bool true, .bool false, .bool false, .agg #[.int .i64 n, .int .u64 c, .int .u64 b, .int .u64 o, .int .u64 p, .bool i, .bool r, .bool d, .bool q, .int .u32 (m : Int)], .agg #[.int .i64 n2, .int .u64 c2, .int .u64 b2, .int .u64 o2, .int .u64 p2, .bool i2, .bool r2, .bool d2, .bool q2, .int .u32 (m2 : Int)], verV K S, .agg #[.int .i64 n2, .int .u64 c2, .int .u64 b2, .int .u64 o2, .int .u64 p2, .bool i2, .bool r2, .bool d2, .bool q2, .int .u32 (m2 : Int)], .agg #[.int .i64 n, .int .u64 c, .int .u64 b, .int .u64 o, .int .u64 p, .bool i, .bool r, .bool d, .bool q, .int .u32 (m : Int)], verV K S2, undef, undef, undef, undef, undef, undef, undef, undef, undef, undef, undef, undef, undef, undef, undef, undef, undef, undef, undef, undef, undef, undef, undef, undef, undef, undef, undef, undef, undef, undef, undef, undef, undef, undef], defers := [] } v := by
    intro b5 b6 v hh
    refine aK _ _ ?_
    have H6 := Lib.hid hh
    clear hh aK H3 HD HE HR1 HR2
    have k0 := H6.out.boxs.hd.cell
    have k1 := H6.out.boxs.tl.hd.cell
    have k2 := H6.out.boxs.tl.tl.hd.cell
    have k3 := H6.out.boxs.tl.tl.tl.hd.cell
    by_cases hc : c = c2
    · subst hc
      have ec : (c == c) = true := beq_self_eq_true c
      cases q
      · cases q2
        · by_cases hr : r = r2
          · subst hr
            have er : (r == r) = true := beq_self_eq_true r
            clear HN
            go_wp2_with fail
            go_ret
            exact ⟨rfl, H6.out.below⟩
          · have er : (r == r2) = false := beq_eq_false_iff_ne.2 hr
            have eS : (tgtI S == S2) = true := beq_iff_eq.2 (HN.out (by simp [hr]))
            clear HN
            go_wp2_with fail
            clear k0 k1 k2 k3
            refine held_begin (by kernel_rfl) H6.out (fun v0 hH0 => ?_)
            refine wpAnyH_take (i := 0) (v := ?_) rfl (by kernel_rfl) (by kernel_rfl) (by kernel_rfl) (fun _ _ _ h => h) (Or.inl ⟨by rfl, ?_⟩) hH0 ?_
            rotate_left
            · (intro v hSw; have k0 := hSw.boxs.hd.cell; have k1 := hSw.boxs.tl.hd.cell; have k2 := hSw.boxs.tl.tl.hd.cell; have k3 := hSw.boxs.tl.tl.tl.hd.cell; go_simp; try with_reducible rfl)
            simp only [Act.put, List.setIfInBounds_toArray, List.set_cons_zero, List.set_cons_succ, List.getElem_toArray, List.getElem_cons_zero]
            refine wpAnyH_take (i := 2) (v := ?_) rfl (by kernel_rfl) (by kernel_rfl) (by kernel_rfl) (fun _ _ _ h => h) (Or.inl ⟨by rfl, ?_⟩) hH0 ?_
            rotate_left
            · (intro v hSw; have k0 := hSw.boxs.hd.cell; have k1 := hSw.boxs.tl.hd.cell; have k2 := hSw.boxs.tl.tl.hd.cell; have k3 := hSw.boxs.tl.tl.tl.hd.cell; go_simp; try with_reducible rfl)
            simp only [Act.put, List.setIfInBounds_toArray, List.set_cons_zero, List.set_cons_succ, List.getElem_toArray, List.getElem_cons_zero, List.getElem_cons_succ]
            refine wpAnyH_take (i := 3) (v := ?_) rfl (by kernel_rfl) (by kernel_rfl) (by kernel_rfl) (fun _ _ _ h => h) (Or.inl ⟨by rfl, ?_⟩) hH0 ?_
            rotate_left
            · (intro v hSw; have k0 := hSw.boxs.hd.cell; have k1 := hSw.boxs.tl.hd.cell; have k2 := hSw.boxs.tl.tl.hd.cell; have k3 := hSw.boxs.tl.tl.tl.hd.cell; go_simp; try with_reducible rfl)
            simp only [Act.put, List.setIfInBounds_toArray, List.set_cons_zero, List.set_cons_succ, List.getElem_toArray, List.getElem_cons_zero, List.getElem_cons_succ]
            refine wpAnyH_ready (rs := [1]) (by kernel_rfl) (by simp) ?_
            refine AllReadyH.cons rfl (fun K hK => ?_) AllReadyH.nil
            go_simp
            refine (HT.out _).mono ?_
            rintro e v1 ⟨rfl, hb⟩
            go_wp2_with fail
            refine hK.out _ _ (hH0.up hb) (fun hH1 => ?_)
            clear hK K hH0
            refine wpAnyH_take (i := 4) (v := ?_) rfl (by kernel_rfl) (by kernel_rfl) (by kernel_rfl) (fun _ _ _ h => h) (Or.inl ⟨by rfl, ?_⟩) hH1 ?_
            rotate_left
            · (intro v hSw; have k0 := hSw.boxs.hd.cell; have k1 := hSw.boxs.tl.hd.cell; have k2 := hSw.boxs.tl.tl.hd.cell; have k3 := hSw.boxs.tl.tl.tl.hd.cell; go_simp; try with_reducible rfl)
            simp only [Act.put, List.setIfInBounds_toArray, List.set_cons_zero, List.set_cons_succ, List.getElem_toArray, List.getElem_cons_zero, List.getElem_cons_succ]
            refine wpAnyH_take (i := 5) (v := ?_) rfl (by kernel_rfl) (by kernel_rfl) (by kernel_rfl) (fun _ _ _ h => h) (Or.inl ⟨by rfl, ?_⟩) hH1 ?_
            rotate_left
            · (intro v hSw; have k0 := hSw.boxs.hd.cell; have k1 := hSw.boxs.tl.hd.cell; have k2 := hSw.boxs.tl.tl.hd.cell; have k3 := hSw.boxs.tl.tl.tl.hd.cell; go_simp; try with_reducible rfl)
            simp only [Act.put, List.setIfInBounds_toArray, List.set_cons_zero, List.set_cons_succ, List.getElem_toArray, List.getElem_cons_zero, List.getElem_cons_succ]
            refine wpAnyH_done (by kernel_rfl) ?_ _
            go_wp2_with fail
            go_ret
            exact ⟨rfl, hH1.below⟩
        · have eS : (tgtI S == S2) = true := beq_iff_eq.2 (HN.out (by simp))
          clear HN
          go_wp2_with fail
          clear k0 k1 k2 k3
          refine held_begin (by kernel_rfl) H6.out (fun v0 hH0 => ?_)
          refine wpAnyH_take (i := 0) (v := ?_) rfl (by kernel_rfl) (by kernel_rfl) (by kernel_rfl) (fun _ _ _ h => h) (Or.inl ⟨by rfl, ?_⟩) hH0 ?_
          rotate_left
          · (intro v hSw; have k0 := hSw.boxs.hd.cell; have k1 := hSw.boxs.tl.hd.cell; have k2 := hSw.boxs.tl.tl.hd.cell; have k3 := hSw.boxs.tl.tl.tl.hd.cell; go_simp; try with_reducible rfl)
          simp only [Act.put, List.setIfInBounds_toArray, List.set_cons_zero, List.set_cons_succ, List.getElem_toArray, List.getElem_cons_zero]
          refine wpAnyH_take (i := 2) (v := ?_) rfl (by kernel_rfl) (by kernel_rfl) (by kernel_rfl) (fun _ _ _ h => h) (Or.inl ⟨by rfl, ?_⟩) hH0 ?_
          rotate_left
          · (intro v hSw; have k0 := hSw.boxs.hd.cell; have k1 := hSw.boxs.tl.hd.cell; have k2 := hSw.boxs.tl.tl.hd.cell; have k3 := hSw.boxs.tl.tl.tl.hd.cell; go_simp; try with_reducible rfl)
          simp only [Act.put, List.setIfInBounds_toArray, List.set_cons_zero, List.set_cons_succ, List.getElem_toArray, List.getElem_cons_zero, List.getElem_cons_succ]
          refine wpAnyH_take (i := 3) (v := ?_) rfl (by kernel_rfl) (by kernel_rfl) (by kernel_rfl) (fun _ _ _ h => h) (Or.inl ⟨by rfl, ?_⟩) hH0 ?_
          rotate_left
          · (intro v hSw; have k0 := hSw.boxs.hd.cell; have k1 := hSw.boxs.tl.hd.cell; have k2 := hSw.boxs.tl.tl.hd.cell; have k3 := hSw.boxs.tl.tl.tl.hd.cell; go_simp; try with_reducible rfl)
          simp only [Act.put, List.setIfInBounds_toArray, List.set_cons_zero, List.set_cons_succ, List.getElem_toArray, List.getElem_cons_zero, List.getElem_cons_succ]
          refine wpAnyH_ready (rs := [1]) (by kernel_rfl) (by simp) ?_
          refine AllReadyH.cons rfl (fun K hK => ?_) AllReadyH.nil
          go_simp
          refine (HT.out _).mono ?_
          rintro e v1 ⟨rfl, hb⟩
          go_wp2_with fail
          refine hK.out _ _ (hH0.up hb) (fun hH1 => ?_)
          clear hK K hH0
          refine wpAnyH_take (i := 4) (v := ?_) rfl (by kernel_rfl) (by kernel_rfl) (by kernel_rfl) (fun _ _ _ h => h) (Or.inl ⟨by rfl, ?_⟩) hH1 ?_
          rotate_left
          · (intro v hSw; have k0 := hSw.boxs.hd.cell; have k1 := hSw.boxs.tl.hd.cell; have k2 := hSw.boxs.tl.tl.hd.cell; have k3 := hSw.boxs.tl.tl.tl.hd.cell; go_simp; try with_reducible rfl)
          simp only [Act.put, List.setIfInBounds_toArray, List.set_cons_zero, List.set_cons_succ, List.getElem_toArray, List.getElem_cons_zero, List.getElem_cons_succ]
          refine wpAnyH_take (i := 5) (v := ?_) rfl (by kernel_rfl) (by kernel_rfl) (by kernel_rfl) (fun _ _ _ h => h) (Or.inl ⟨by rfl, ?_⟩) hH1 ?_
          rotate_left
          · (intro v hSw; have k0 := hSw.boxs.hd.cell; have k1 := hSw.boxs.tl.hd.cell; have k2 := hSw.boxs.tl.tl.hd.cell; have k3 := hSw.boxs.tl.tl.tl.hd.cell; go_simp; try with_reducible rfl)
          simp only [Act.put, List.setIfInBounds_toArray, List.set_cons_zero, List.set_cons_succ, List.getElem_toArray, List.getElem_cons_zero, List.getElem_cons_succ]
          refine wpAnyH_done (by kernel_rfl) ?_ _
          go_wp2_with fail
          go_ret
          exact ⟨rfl, hH1.below⟩
      · have eS : (tgtI S == S2) = true := beq_iff_eq.2 (HN.out (by simp))
        clear HN
        go_wp2_with fail
        clear k0 k1 k2 k3
        refine held_begin (by kernel_rfl) H6.out (fun v0 hH0 => ?_)
        refine wpAnyH_take (i := 0) (v := ?_) rfl (by kernel_rfl) (by kernel_rfl) (by kernel_rfl) (fun _ _ _ h => h) (Or.inl ⟨by rfl, ?_⟩) hH0 ?_
        rotate_left
        · (intro v hSw; have k0 := hSw.boxs.hd.cell; have k1 := hSw.boxs.tl.hd.cell; have k2 := hSw.boxs.tl.tl.hd.cell; have k3 := hSw.boxs.tl.tl.tl.hd.cell; go_simp; try with_reducible rfl)
        simp only [Act.put, List.setIfInBounds_toArray, List.set_cons_zero, List.set_cons_succ, List.getElem_toArray, List.getElem_cons_zero]
        refine wpAnyH_take (i := 2) (v := ?_) rfl (by kernel_rfl) (by kernel_rfl) (by kernel_rfl) (fun _ _ _ h => h) (Or.inl ⟨by rfl, ?_⟩) hH0 ?_
        rotate_left
        · (intro v hSw; have k0 := hSw.boxs.hd.cell; have k1 := hSw.boxs.tl.hd.cell; have k2 := hSw.boxs.tl.tl.hd.cell; have k3 := hSw.boxs.tl.tl.tl.hd.cell; go_simp; try with_reducible rfl)
        simp only [Act.put, List.setIfInBounds_toArray, List.set_cons_zero, List.set_cons_succ, List.getElem_toArray, List.getElem_cons_zero, List.getElem_cons_succ]
        refine wpAnyH_take (i := 3) (v := ?_) rfl (by kernel_rfl) (by kernel_rfl) (by kernel_rfl) (fun _ _ _ h => h) (Or.inl ⟨by rfl, ?_⟩) hH0 ?_
        rotate_left
        · (intro v hSw; have k0 := hSw.boxs.hd.cell; have k1 := hSw.boxs.tl.hd.cell; have k2 := hSw.boxs.tl.tl.hd.cell; have k3 := hSw.boxs.tl.tl.tl.hd.cell; go_simp; try with_reducible rfl)
        simp only [Act.put, List.setIfInBounds_toArray, List.set_cons_zero, List.set_cons_succ, List.getElem_toArray, List.getElem_cons_zero, List.getElem_cons_succ]
        refine wpAnyH_ready (rs := [1]) (by kernel_rfl) (by simp) ?_
        refine AllReadyH.cons rfl (fun K hK => ?_) AllReadyH.nil
        go_simp
        refine (HT.out _).mono ?_
        rintro e v1 ⟨rfl, hb⟩
        go_wp2_with fail
        refine hK.out _ _ (hH0.up hb) (fun hH1 => ?_)
        clear hK K hH0
        refine wpAnyH_take (i := 4) (v := ?_) rfl (by kernel_rfl) (by kernel_rfl) (by kernel_rfl) (fun _ _ _ h => h) (Or.inl ⟨by rfl, ?_⟩) hH1 ?_
        rotate_left
        · (intro v hSw; have k0 := hSw.boxs.hd.cell; have k1 := hSw.boxs.tl.hd.cell; have k2 := hSw.boxs.tl.tl.hd.cell; have k3 := hSw.boxs.tl.tl.tl.hd.cell; go_simp; try with_reducible rfl)
        simp only [Act.put, List.setIfInBounds_toArray, List.set_cons_zero, List.set_cons_succ, List.getElem_toArray, List.getElem_cons_zero, List.getElem_cons_succ]
        refine wpAnyH_take (i := 5) (v := ?_) rfl (by kernel_rfl) (by kernel_rfl) (by kernel_rfl) (fun _ _ _ h => h) (Or.inl ⟨by rfl, ?_⟩) hH1 ?_
        rotate_left
        · (intro v hSw; have k0 := hSw.boxs.hd.cell; have k1 := hSw.boxs.tl.hd.cell; have k2 := hSw.boxs.tl.tl.hd.cell; have k3 := hSw.boxs.tl.tl.tl.hd.cell; go_simp; try with_reducible rfl)
        simp only [Act.put, List.setIfInBounds_toArray, List.set_cons_zero, List.set_cons_succ, List.getElem_toArray, List.getElem_cons_zero, List.getElem_cons_succ]
        refine wpAnyH_done (by kernel_rfl) ?_ _
        go_wp2_with fail
        go_ret
        exact ⟨rfl, hH1.below⟩
    · have ec : (c == c2) = false := beq_eq_false_iff_ne.2 hc
      have eS : (tgtI S == S2) = true := beq_iff_eq.2 (HN.out (by simp [hc]))
      clear HN
      go_wp2_with fail
      clear k0 k1 k2 k3
      refine held_begin (by kernel_rfl) H6.out (fun v0 hH0 => ?_)
      refine wpAnyH_take (i := 0) (v := ?_) rfl (by kernel_rfl) (by kernel_rfl) (by kernel_rfl) (fun _ _ _ h => h) (Or.inl ⟨by rfl, ?_⟩) hH0 ?_
      rotate_left
      · (intro v hSw; have k0 := hSw.boxs.hd.cell; have k1 := hSw.boxs.tl.hd.cell; have k2 := hSw.boxs.tl.tl.hd.cell; have k3 := hSw.boxs.tl.tl.tl.hd.cell; go_simp; try with_reducible rfl)
      simp only [Act.put, List.setIfInBounds_toArray, List.set_cons_zero, List.set_cons_succ, List.getElem_toArray, List.getElem_cons_zero]
      refine wpAnyH_take (i := 2) (v := ?_) rfl (by kernel_rfl) (by kernel_rfl) (by kernel_rfl) (fun _ _ _ h => h) (Or.inl ⟨by rfl, ?_⟩) hH0 ?_
      rotate_left
      · (intro v hSw; have k0 := hSw.boxs.hd.cell; have k1 := hSw.boxs.tl.hd.cell; have k2 := hSw.boxs.tl.tl.hd.cell; have k3 := hSw.boxs.tl.tl.tl.hd.cell; go_simp; try with_reducible rfl)
      simp only [Act.put, List.setIfInBounds_toArray, List.set_cons_zero, List.set_cons_succ, List.getElem_toArray, List.getElem_cons_zero, List.getElem_cons_succ]
      refine wpAnyH_take (i := 3) (v := ?_) rfl (by kernel_rfl) (by kernel_rfl) (by kernel_rfl) (fun _ _ _ h => h) (Or.inl ⟨by rfl, ?_⟩) hH0 ?_
      rotate_left
      · (intro v hSw; have k0 := hSw.boxs.hd.cell; have k1 := hSw.boxs.tl.hd.cell; have k2 := hSw.boxs.tl.tl.hd.cell; have k3 := hSw.boxs.tl.tl.tl.hd.cell; go_simp; try with_reducible rfl)
      simp only [Act.put, List.setIfInBounds_toArray, List.set_cons_zero, List.set_cons_succ, List.getElem_toArray, List.getElem_cons_zero, List.getElem_cons_succ]
      refine wpAnyH_ready (rs := [1]) (by kernel_rfl) (by simp) ?_
      refine AllReadyH.cons rfl (fun K hK => ?_) AllReadyH.nil
      go_simp
      refine (HT.out _).mono ?_
      rintro e v1 ⟨rfl, hb⟩
      go_wp2_with fail
      refine hK.out _ _ (hH0.up hb) (fun hH1 => ?_)
      clear hK K hH0
      refine wpAnyH_take (i := 4) (v := ?_) rfl (by kernel_rfl) (by kernel_rfl) (by kernel_rfl) (fun _ _ _ h => h) (Or.inl ⟨by rfl, ?_⟩) hH1 ?_
      rotate_left
      · (intro v hSw; have k0 := hSw.boxs.hd.cell; have k1 := hSw.boxs.tl.hd.cell; have k2 := hSw.boxs.tl.tl.hd.cell; have k3 := hSw.boxs.tl.tl.tl.hd.cell; go_simp; try with_reducible rfl)
      simp only [Act.put, List.setIfInBounds_toArray, List.set_cons_zero, List.set_cons_succ, List.getElem_toArray, List.getElem_cons_zero, List.getElem_cons_succ]
      refine wpAnyH_take (i := 5) (v := ?_) rfl (by kernel_rfl) (by kernel_rfl) (by kernel_rfl) (fun _ _ _ h => h) (Or.inl ⟨by rfl, ?_⟩) hH1 ?_
      rotate_left
      · (intro v hSw; have k0 := hSw.boxs.hd.cell; have k1 := hSw.boxs.tl.hd.cell; have k2 := hSw.boxs.tl.tl.hd.cell; have k3 := hSw.boxs.tl.tl.tl.hd.cell; go_simp; try with_reducible rfl)
      simp only [Act.put, List.setIfInBounds_toArray, List.set_cons_zero, List.set_cons_succ, List.getElem_toArray, List.getElem_cons_zero, List.getElem_cons_succ]
      refine wpAnyH_done (by kernel_rfl) ?_ _
      go_wp2_with fail
      go_ret
      exact ⟨rfl, hH1.below⟩
  clear aK HN HT eK HR1 HR2
  refine held_begin (by kernel_rfl) H3.out (fun v0 hH0 => ?_)
  refine wpAnyH_take (i := 0) (v := ?_) rfl (by kernel_rfl) (by kernel_rfl) (by kernel_rfl) (fun _ _ _ h => h) (Or.inl ⟨by rfl, ?_⟩) hH0 ?_
  rotate_left
  · (intro v hSw; have k1 := hSw.b0.cell; have k2 := hSw.b1.cell; go_simp; try with_reducible rfl)
  simp only [Act.put, List.setIfInBounds_toArray, List.set_cons_zero, List.set_cons_succ, List.getElem_toArray, List.getElem_cons_zero]
  refine wpAnyH_take (i := 1) (v := ?_) rfl (by kernel_rfl) (by kernel_rfl) (by kernel_rfl) (fun _ _ _ h => h) (Or.inl ⟨by rfl, ?_⟩) hH0 ?_
  rotate_left
  · (intro v hSw; have k1 := hSw.b0.cell; have k2 := hSw.b1.cell; go_simp; try with_reducible rfl)
  simp only [Act.put, List.setIfInBounds_toArray, List.set_cons_zero, List.set_cons_succ, List.getElem_toArray, List.getElem_cons_zero, List.getElem_cons_succ]
  refine wpAnyH_take (i := 3) (v := ?_) rfl (by kernel_rfl) (by kernel_rfl) (by kernel_rfl) (fun _ _ _ h => h) (Or.inl ⟨by rfl, ?_⟩) hH0 ?_
  rotate_left
  · (intro v hSw; have k1 := hSw.b0.cell; have k2 := hSw.b1.cell; go_simp; try with_reducible rfl)
  simp only [Act.put, List.setIfInBounds_toArray, List.set_cons_zero, List.set_cons_succ, List.getElem_toArray, List.getElem_cons_zero, List.getElem_cons_succ]
  refine wpAnyH_take (i := 4) (v := ?_) rfl (by kernel_rfl) (by kernel_rfl) (by kernel_rfl) (fun _ _ _ h => h) (Or.inl ⟨by rfl, ?_⟩) hH0 ?_
  rotate_left
  · (intro v hSw; have k1 := hSw.b0.cell; have k2 := hSw.b1.cell; go_simp; try with_reducible rfl)
  simp only [Act.put, List.setIfInBounds_toArray, List.set_cons_zero, List.set_cons_succ, List.getElem_toArray, List.getElem_cons_zero, List.getElem_cons_succ]
  refine wpAnyH_ready (rs := [2, 6, 7]) (by kernel_rfl) (by simp) ?_
  refine AllReadyH.cons rfl (fun K hK => ?_) ?_
  · go_simp
    refine (HD.out _).mono ?_
    rintro e v1 ⟨rfl, hb⟩
    go_wp2_with fail
    refine hK.out _ _ (hH0.up hb) (fun hH1 => ?_)
    clear hK K hH0
    refine wpAnyH_ready (rs := [5, 6, 7]) (by kernel_rfl) (by simp) ?_
    refine AllReadyH.cons rfl (fun K hK => ?_) ?_
    · go_simp
      refine (HE.out _).mono ?_
      rintro e v2 ⟨rfl, hb⟩
      go_wp2_with fail
      refine hK.out _ _ (hH1.up hb) (fun hH2 => ?_)
      clear hK K hH1
      refine wpAnyH_ready (rs := [6, 7]) (by kernel_rfl) (by simp) ?_
      refine AllReadyH.cons rfl (fun K hK => ?_) ?_
      · go_simp
        have hne3 := hH2.fresh
        refine hK.out _ _ (hH2.alloc _) (fun hX => ?_)
        refine laid_own hH2 (n := 2) rfl (fun v3 hH3 => ?_)
        clear hK K hX hH2
        refine wpAnyH_ready (rs := [7]) (by kernel_rfl) (by simp) ?_
        refine AllReadyH.cons rfl (fun K hK => ?_) AllReadyH.nil
        go_simp
        have hne4 := hH3.fresh
        refine hK.out _ _ (hH3.alloc _) (fun hX => ?_)
        refine laid_own hH3 (n := 2) rfl (fun v4 hH4 => ?_)
        clear hK K hX hH3
        refine wpAnyH_ready (rs := [8]) (by kernel_rfl) (by simp) ?_
        refine AllReadyH.cons rfl (fun K hK => ?_) AllReadyH.nil
        obtain ⟨z0, z1, hx⟩ := hH4.o1.two
        have kx := hx.cell
        have fx := hx.frozen
        go_simp
        refine hK.out _ _ (hH4.set2 ⟨2, by simp⟩ _ _) (fun hX => ?_)
        refine stored2 hH4 ⟨2, by simp⟩ hx (fun v5 hW hy => ?_)
        clear hK K hX hH4 hx kx fx
        refine fixed (M' := [(v3.heap.size, 2)]) hW hy rfl (fun y hy e => by rw [List.mem_singleton] at hy; subst hy; exact hne4 _ (List.mem_singleton.2 rfl) e.symm) (by simp) rest_snd (fun hH5 => ?_)
        clear hW hy
        refine wpAnyH_ready (rs := [9]) (by kernel_rfl) (by simp) ?_
        refine AllReadyH.cons rfl (fun K hK => ?_) AllReadyH.nil
        obtain ⟨z0, z1, hx⟩ := hH5.o0.two
        have kx := hx.cell
        have fx := hx.frozen
        go_simp
        refine hK.out _ _ (hH5.set2 ⟨2, by simp⟩ _ _) (fun hX => ?_)
        refine stored2 hH5 ⟨2, by simp⟩ hx (fun v6 hW hy => ?_)
        clear hK K hX hH5 hx kx fx
        refine fixed (M' := []) hW hy rfl (by simp) (by simp) rest_one (fun hH6 => ?_)
        clear hW hy
        refine wpAnyH_done (by kernel_rfl) ?_ _
        first | exact HK _ _ _ hH6 | exact HK _ _ _ hH6.swap
      refine AllReadyH.cons rfl (fun K hK => ?_) AllReadyH.nil
      go_simp
      have hne7 := hH2.fresh
      refine hK.out _ _ (hH2.alloc _) (fun hX => ?_)
      refine laid_own hH2 (n := 2) rfl (fun v7 hH7 => ?_)
      clear hK K hX hH2
      refine wpAnyH_ready (rs := [6]) (by kernel_rfl) (by simp) ?_
      refine AllReadyH.cons rfl (fun K hK => ?_) AllReadyH.nil
      go_simp
      have hne8 := hH7.fresh
      refine hK.out _ _ (hH7.alloc _) (fun hX => ?_)
      refine laid_own hH7 (n := 2) rfl (fun v8 hH8 => ?_)
      clear hK K hX hH7
      refine wpAnyH_ready (rs := [8]) (by kernel_rfl) (by simp) ?_
      refine AllReadyH.cons rfl (fun K hK => ?_) AllReadyH.nil
      obtain ⟨z0, z1, hx⟩ := hH8.o0.two
      have kx := hx.cell
      have fx := hx.frozen
      go_simp
      refine hK.out _ _ (hH8.set2 ⟨2, by simp⟩ _ _) (fun hX => ?_)
      refine stored2 hH8 ⟨2, by simp⟩ hx (fun v9 hW hy => ?_)
      clear hK K hX hH8 hx kx fx
      refine fixed (M' := [(v2.heap.size, 2)]) hW hy rfl (fun y hy => hne8 y hy) (by simp) rest_fst (fun hH9 => ?_)
      clear hW hy
      refine wpAnyH_ready (rs := [9]) (by kernel_rfl) (by simp) ?_
      refine AllReadyH.cons rfl (fun K hK => ?_) AllReadyH.nil
      obtain ⟨z0, z1, hx⟩ := hH9.o0.two
      have kx := hx.cell
      have fx := hx.frozen
      go_simp
      refine hK.out _ _ (hH9.set2 ⟨2, by simp⟩ _ _) (fun hX => ?_)
      refine stored2 hH9 ⟨2, by simp⟩ hx (fun v10 hW hy => ?_)
      clear hK K hX hH9 hx kx fx
      refine fixed (M' := []) hW hy rfl (by simp) (by simp) rest_one (fun hH10 => ?_)
      clear hW hy
      refine wpAnyH_done (by kernel_rfl) ?_ _
      first | exact HK _ _ _ hH10 | exact HK _ _ _ hH10.swap
    refine AllReadyH.cons rfl (fun K hK => ?_) ?_
    · go_simp
      have hne11 := hH1.fresh
      refine hK.out _ _ (hH1.alloc _) (fun hX => ?_)
      refine laid_own hH1 (n := 2) rfl (fun v11 hH11 => ?_)
      clear hK K hX hH1
      refine wpAnyH_ready (rs := [5, 7]) (by kernel_rfl) (by simp) ?_
      refine AllReadyH.cons rfl (fun K hK => ?_) ?_
      · go_simp
        refine (HE.out _).mono ?_
        rintro e v12 ⟨rfl, hb⟩
        go_wp2_with fail
        refine hK.out _ _ (hH11.up hb) (fun hH12 => ?_)
        clear hK K hH11
        refine wpAnyH_ready (rs := [7]) (by kernel_rfl) (by simp) ?_
        refine AllReadyH.cons rfl (fun K hK => ?_) AllReadyH.nil
        go_simp
        have hne13 := hH12.fresh
        refine hK.out _ _ (hH12.alloc _) (fun hX => ?_)
        refine laid_own hH12 (n := 2) rfl (fun v13 hH13 => ?_)
        clear hK K hX hH12
        refine wpAnyH_ready (rs := [8]) (by kernel_rfl) (by simp) ?_
        refine AllReadyH.cons rfl (fun K hK => ?_) AllReadyH.nil
        obtain ⟨z0, z1, hx⟩ := hH13.o1.two
        have kx := hx.cell
        have fx := hx.frozen
        go_simp
        refine hK.out _ _ (hH13.set2 ⟨2, by simp⟩ _ _) (fun hX => ?_)
        refine stored2 hH13 ⟨2, by simp⟩ hx (fun v14 hW hy => ?_)
        clear hK K hX hH13 hx kx fx
        refine fixed (M' := [(v12.heap.size, 2)]) hW hy rfl (fun y hy e => by rw [List.mem_singleton] at hy; subst hy; exact hne13 _ (List.mem_singleton.2 rfl) e.symm) (by simp) rest_snd (fun hH14 => ?_)
        clear hW hy
        refine wpAnyH_ready (rs := [9]) (by kernel_rfl) (by simp) ?_
        refine AllReadyH.cons rfl (fun K hK => ?_) AllReadyH.nil
        obtain ⟨z0, z1, hx⟩ := hH14.o0.two
        have kx := hx.cell
        have fx := hx.frozen
        go_simp
        refine hK.out _ _ (hH14.set2 ⟨2, by simp⟩ _ _) (fun hX => ?_)
        refine stored2 hH14 ⟨2, by simp⟩ hx (fun v15 hW hy => ?_)
        clear hK K hX hH14 hx kx fx
        refine fixed (M' := []) hW hy rfl (by simp) (by simp) rest_one (fun hH15 => ?_)
        clear hW hy
        refine wpAnyH_done (by kernel_rfl) ?_ _
        first | exact HK _ _ _ hH15 | exact HK _ _ _ hH15.swap
      refine AllReadyH.cons rfl (fun K hK => ?_) AllReadyH.nil
      go_simp
      have hne16 := hH11.fresh
      refine hK.out _ _ (hH11.alloc _) (fun hX => ?_)
      refine laid_own hH11 (n := 2) rfl (fun v16 hH16 => ?_)
      clear hK K hX hH11
      refine wpAnyH_ready (rs := [5]) (by kernel_rfl) (by simp) ?_
      refine AllReadyH.cons rfl (fun K hK => ?_) AllReadyH.nil
      go_simp
      refine (HE.out _).mono ?_
      rintro e v17 ⟨rfl, hb⟩
      go_wp2_with fail
      refine hK.out _ _ (hH16.up hb) (fun hH17 => ?_)
      clear hK K hH16
      refine wpAnyH_ready (rs := [8]) (by kernel_rfl) (by simp) ?_
      refine AllReadyH.cons rfl (fun K hK => ?_) AllReadyH.nil
      obtain ⟨z0, z1, hx⟩ := hH17.o1.two
      have kx := hx.cell
      have fx := hx.frozen
      go_simp
      refine hK.out _ _ (hH17.set2 ⟨2, by simp⟩ _ _) (fun hX => ?_)
      refine stored2 hH17 ⟨2, by simp⟩ hx (fun v18 hW hy => ?_)
      clear hK K hX hH17 hx kx fx
      refine fixed (M' := [(v11.heap.size, 2)]) hW hy rfl (fun y hy e => by rw [List.mem_singleton] at hy; subst hy; exact hne16 _ (List.mem_singleton.2 rfl) e.symm) (by simp) rest_snd (fun hH18 => ?_)
      clear hW hy
      refine wpAnyH_ready (rs := [9]) (by kernel_rfl) (by simp) ?_
      refine AllReadyH.cons rfl (fun K hK => ?_) AllReadyH.nil
      obtain ⟨z0, z1, hx⟩ := hH18.o0.two
      have kx := hx.cell
      have fx := hx.frozen
      go_simp
      refine hK.out _ _ (hH18.set2 ⟨2, by simp⟩ _ _) (fun hX => ?_)
      refine stored2 hH18 ⟨2, by simp⟩ hx (fun v19 hW hy => ?_)
      clear hK K hX hH18 hx kx fx
      refine fixed (M' := []) hW hy rfl (by simp) (by simp) rest_one (fun hH19 => ?_)
      clear hW hy
      refine wpAnyH_done (by kernel_rfl) ?_ _
      first | exact HK _ _ _ hH19 | exact HK _ _ _ hH19.swap
    refine AllReadyH.cons rfl (fun K hK => ?_) AllReadyH.nil
    go_simp
    have hne20 := hH1.fresh
    refine hK.out _ _ (hH1.alloc _) (fun hX => ?_)
    refine laid_own hH1 (n := 2) rfl (fun v20 hH20 => ?_)
    clear hK K hX hH1
    refine wpAnyH_ready (rs := [5, 6]) (by kernel_rfl) (by simp) ?_
    refine AllReadyH.cons rfl (fun K hK => ?_) ?_
    · go_simp
      refine (HE.out _).mono ?_
      rintro e v21 ⟨rfl, hb⟩
      go_wp2_with fail
      refine hK.out _ _ (hH20.up hb) (fun hH21 => ?_)
      clear hK K hH20
      refine wpAnyH_ready (rs := [6]) (by kernel_rfl) (by simp) ?_
      refine AllReadyH.cons rfl (fun K hK => ?_) AllReadyH.nil
      go_simp
      have hne22 := hH21.fresh
      refine hK.out _ _ (hH21.alloc _) (fun hX => ?_)
      refine laid_own hH21 (n := 2) rfl (fun v22 hH22 => ?_)
      clear hK K hX hH21
      refine wpAnyH_ready (rs := [8]) (by kernel_rfl) (by simp) ?_
      refine AllReadyH.cons rfl (fun K hK => ?_) AllReadyH.nil
      obtain ⟨z0, z1, hx⟩ := hH22.o0.two
      have kx := hx.cell
      have fx := hx.frozen
      go_simp
      refine hK.out _ _ (hH22.set2 ⟨2, by simp⟩ _ _) (fun hX => ?_)
      refine stored2 hH22 ⟨2, by simp⟩ hx (fun v23 hW hy => ?_)
      clear hK K hX hH22 hx kx fx
      refine fixed (M' := [(v1.heap.size, 2)]) hW hy rfl (fun y hy => hne22 y hy) (by simp) rest_fst (fun hH23 => ?_)
      clear hW hy
      refine wpAnyH_ready (rs := [9]) (by kernel_rfl) (by simp) ?_
      refine AllReadyH.cons rfl (fun K hK => ?_) AllReadyH.nil
      obtain ⟨z0, z1, hx⟩ := hH23.o0.two
      have kx := hx.cell
      have fx := hx.frozen
      go_simp
      refine hK.out _ _ (hH23.set2 ⟨2, by simp⟩ _ _) (fun hX => ?_)
      refine stored2 hH23 ⟨2, by simp⟩ hx (fun v24 hW hy => ?_)
      clear hK K hX hH23 hx kx fx
      refine fixed (M' := []) hW hy rfl (by simp) (by simp) rest_one (fun hH24 => ?_)
      clear hW hy
      refine wpAnyH_done (by kernel_rfl) ?_ _
      first | exact HK _ _ _ hH24 | exact HK _ _ _ hH24.swap
    refine AllReadyH.cons rfl (fun K hK => ?_) AllReadyH.nil
    go_simp
    have hne25 := hH20.fresh
    refine hK.out _ _ (hH20.alloc _) (fun hX => ?_)
    refine laid_own hH20 (n := 2) rfl (fun v25 hH25 => ?_)
    clear hK K hX hH20
    refine wpAnyH_ready (rs := [5]) (by kernel_rfl) (by simp) ?_
    refine AllReadyH.cons rfl (fun K hK => ?_) AllReadyH.nil
    go_simp
    refine (HE.out _).mono ?_
    rintro e v26 ⟨rfl, hb⟩
    go_wp2_with fail
    refine hK.out _ _ (hH25.up hb) (fun hH26 => ?_)
    clear hK K hH25
    refine wpAnyH_ready (rs := [8]) (by kernel_rfl) (by simp) ?_
    refine AllReadyH.cons rfl (fun K hK => ?_) AllReadyH.nil
    obtain ⟨z0, z1, hx⟩ := hH26.o0.two
    have kx := hx.cell
    have fx := hx.frozen
    go_simp
    refine hK.out _ _ (hH26.set2 ⟨2, by simp⟩ _ _) (fun hX => ?_)
    refine stored2 hH26 ⟨2, by simp⟩ hx (fun v27 hW hy => ?_)
    clear hK K hX hH26 hx kx fx
    refine fixed (M' := [(v1.heap.size, 2)]) hW hy rfl (fun y hy => hne25 y hy) (by simp) rest_fst (fun hH27 => ?_)
    clear hW hy
    refine wpAnyH_ready (rs := [9]) (by kernel_rfl) (by simp) ?_
    refine AllReadyH.cons rfl (fun K hK => ?_) AllReadyH.nil
    obtain ⟨z0, z1, hx⟩ := hH27.o0.two
    have kx := hx.cell
    have fx := hx.frozen
    go_simp
    refine hK.out _ _ (hH27.set2 ⟨2, by simp⟩ _ _) (fun hX => ?_)
    refine stored2 hH27 ⟨2, by simp⟩ hx (fun v28 hW hy => ?_)
    clear hK K hX hH27 hx kx fx
    refine fixed (M' := []) hW hy rfl (by simp) (by simp) rest_one (fun hH28 => ?_)
    clear hW hy
    refine wpAnyH_done (by kernel_rfl) ?_ _
    first | exact HK _ _ _ hH28 | exact HK _ _ _ hH28.swap
  refine AllReadyH.cons rfl (fun K hK => ?_) ?_
  · go_simp
    have hne29 := hH0.fresh
    refine hK.out _ _ (hH0.alloc _) (fun hX => ?_)
    refine laid_own hH0 (n := 2) rfl (fun v29 hH29 => ?_)
    clear hK K hX hH0
    refine wpAnyH_ready (rs := [2, 7]) (by kernel_rfl) (by simp) ?_
    refine AllReadyH.cons rfl (fun K hK => ?_) ?_
    · go_simp
      refine (HD.out _).mono ?_
      rintro e v30 ⟨rfl, hb⟩
      go_wp2_with fail
      refine hK.out _ _ (hH29.up hb) (fun hH30 => ?_)
      clear hK K hH29
      refine wpAnyH_ready (rs := [5, 7]) (by kernel_rfl) (by simp) ?_
      refine AllReadyH.cons rfl (fun K hK => ?_) ?_
      · go_simp
        refine (HE.out _).mono ?_
        rintro e v31 ⟨rfl, hb⟩
        go_wp2_with fail
        refine hK.out _ _ (hH30.up hb) (fun hH31 => ?_)
        clear hK K hH30
        refine wpAnyH_ready (rs := [7]) (by kernel_rfl) (by simp) ?_
        refine AllReadyH.cons rfl (fun K hK => ?_) AllReadyH.nil
        go_simp
        have hne32 := hH31.fresh
        refine hK.out _ _ (hH31.alloc _) (fun hX => ?_)
        refine laid_own hH31 (n := 2) rfl (fun v32 hH32 => ?_)
        clear hK K hX hH31
        refine wpAnyH_ready (rs := [8]) (by kernel_rfl) (by simp) ?_
        refine AllReadyH.cons rfl (fun K hK => ?_) AllReadyH.nil
        obtain ⟨z0, z1, hx⟩ := hH32.o1.two
        have kx := hx.cell
        have fx := hx.frozen
        go_simp
        refine hK.out _ _ (hH32.set2 ⟨2, by simp⟩ _ _) (fun hX => ?_)
        refine stored2 hH32 ⟨2, by simp⟩ hx (fun v33 hW hy => ?_)
        clear hK K hX hH32 hx kx fx
        refine fixed (M' := [(v31.heap.size, 2)]) hW hy rfl (fun y hy e => by rw [List.mem_singleton] at hy; subst hy; exact hne32 _ (List.mem_singleton.2 rfl) e.symm) (by simp) rest_snd (fun hH33 => ?_)
        clear hW hy
        refine wpAnyH_ready (rs := [9]) (by kernel_rfl) (by simp) ?_
        refine AllReadyH.cons rfl (fun K hK => ?_) AllReadyH.nil
        obtain ⟨z0, z1, hx⟩ := hH33.o0.two
        have kx := hx.cell
        have fx := hx.frozen
        go_simp
        refine hK.out _ _ (hH33.set2 ⟨2, by simp⟩ _ _) (fun hX => ?_)
        refine stored2 hH33 ⟨2, by simp⟩ hx (fun v34 hW hy => ?_)
        clear hK K hX hH33 hx kx fx
        refine fixed (M' := []) hW hy rfl (by simp) (by simp) rest_one (fun hH34 => ?_)
        clear hW hy
        refine wpAnyH_done (by kernel_rfl) ?_ _
        first | exact HK _ _ _ hH34 | exact HK _ _ _ hH34.swap
      refine AllReadyH.cons rfl (fun K hK => ?_) AllReadyH.nil
      go_simp
      have hne35 := hH30.fresh
      refine hK.out _ _ (hH30.alloc _) (fun hX => ?_)
      refine laid_own hH30 (n := 2) rfl (fun v35 hH35 => ?_)
      clear hK K hX hH30
      refine wpAnyH_ready (rs := [5]) (by kernel_rfl) (by simp) ?_
      refine AllReadyH.cons rfl (fun K hK => ?_) AllReadyH.nil
      go_simp
      refine (HE.out _).mono ?_
      rintro e v36 ⟨rfl, hb⟩
      go_wp2_with fail
      refine hK.out _ _ (hH35.up hb) (fun hH36 => ?_)
      clear hK K hH35
      refine wpAnyH_ready (rs := [8]) (by kernel_rfl) (by simp) ?_
      refine AllReadyH.cons rfl (fun K hK => ?_) AllReadyH.nil
      obtain ⟨z0, z1, hx⟩ := hH36.o1.two
      have kx := hx.cell
      have fx := hx.frozen
      go_simp
      refine hK.out _ _ (hH36.set2 ⟨2, by simp⟩ _ _) (fun hX => ?_)
      refine stored2 hH36 ⟨2, by simp⟩ hx (fun v37 hW hy => ?_)
      clear hK K hX hH36 hx kx fx
      refine fixed (M' := [(v30.heap.size, 2)]) hW hy rfl (fun y hy e => by rw [List.mem_singleton] at hy; subst hy; exact hne35 _ (List.mem_singleton.2 rfl) e.symm) (by simp) rest_snd (fun hH37 => ?_)
      clear hW hy
      refine wpAnyH_ready (rs := [9]) (by kernel_rfl) (by simp) ?_
      refine AllReadyH.cons rfl (fun K hK => ?_) AllReadyH.nil
      obtain ⟨z0, z1, hx⟩ := hH37.o0.two
      have kx := hx.cell
      have fx := hx.frozen
      go_simp
      refine hK.out _ _ (hH37.set2 ⟨2, by simp⟩ _ _) (fun hX => ?_)
      refine stored2 hH37 ⟨2, by simp⟩ hx (fun v38 hW hy => ?_)
      clear hK K hX hH37 hx kx fx
      refine fixed (M' := []) hW hy rfl (by simp) (by simp) rest_one (fun hH38 => ?_)
      clear hW hy
      refine wpAnyH_done (by kernel_rfl) ?_ _
      first | exact HK _ _ _ hH38 | exact HK _ _ _ hH38.swap
    refine AllReadyH.cons rfl (fun K hK => ?_) AllReadyH.nil
    go_simp
    have hne39 := hH29.fresh
    refine hK.out _ _ (hH29.alloc _) (fun hX => ?_)
    refine laid_own hH29 (n := 2) rfl (fun v39 hH39 => ?_)
    clear hK K hX hH29
    refine wpAnyH_ready (rs := [2]) (by kernel_rfl) (by simp) ?_
    refine AllReadyH.cons rfl (fun K hK => ?_) AllReadyH.nil
    go_simp
    refine (HD.out _).mono ?_
    rintro e v40 ⟨rfl, hb⟩
    go_wp2_with fail
    refine hK.out _ _ (hH39.up hb) (fun hH40 => ?_)
    clear hK K hH39
    refine wpAnyH_ready (rs := [5]) (by kernel_rfl) (by simp) ?_
    refine AllReadyH.cons rfl (fun K hK => ?_) AllReadyH.nil
    go_simp
    refine (HE.out _).mono ?_
    rintro e v41 ⟨rfl, hb⟩
    go_wp2_with fail
    refine hK.out _ _ (hH40.up hb) (fun hH41 => ?_)
    clear hK K hH40
    refine wpAnyH_ready (rs := [8]) (by kernel_rfl) (by simp) ?_
    refine AllReadyH.cons rfl (fun K hK => ?_) AllReadyH.nil
    obtain ⟨z0, z1, hx⟩ := hH41.o1.two
    have kx := hx.cell
    have fx := hx.frozen
    go_simp
    refine hK.out _ _ (hH41.set2 ⟨2, by simp⟩ _ _) (fun hX => ?_)
    refine stored2 hH41 ⟨2, by simp⟩ hx (fun v42 hW hy => ?_)
    clear hK K hX hH41 hx kx fx
    refine fixed (M' := [(v29.heap.size, 2)]) hW hy rfl (fun y hy e => by rw [List.mem_singleton] at hy; subst hy; exact hne39 _ (List.mem_singleton.2 rfl) e.symm) (by simp) rest_snd (fun hH42 => ?_)
    clear hW hy
    refine wpAnyH_ready (rs := [9]) (by kernel_rfl) (by simp) ?_
    refine AllReadyH.cons rfl (fun K hK => ?_) AllReadyH.nil
    obtain ⟨z0, z1, hx⟩ := hH42.o0.two
    have kx := hx.cell
    have fx := hx.frozen
    go_simp
    refine hK.out _ _ (hH42.set2 ⟨2, by simp⟩ _ _) (fun hX => ?_)
    refine stored2 hH42 ⟨2, by simp⟩ hx (fun v43 hW hy => ?_)
    clear hK K hX hH42 hx kx fx
    refine fixed (M' := []) hW hy rfl (by simp) (by simp) rest_one (fun hH43 => ?_)
    clear hW hy
    refine wpAnyH_done (by kernel_rfl) ?_ _
    first | exact HK _ _ _ hH43 | exact HK _ _ _ hH43.swap
  refine AllReadyH.cons rfl (fun K hK => ?_) AllReadyH.nil
  go_simp
  have hne44 := hH0.fresh
  refine hK.out _ _ (hH0.alloc _) (fun hX => ?_)
  refine laid_own hH0 (n := 2) rfl (fun v44 hH44 => ?_)
  clear hK K hX hH0
  refine wpAnyH_ready (rs := [2, 6]) (by kernel_rfl) (by simp) ?_
  refine AllReadyH.cons rfl (fun K hK => ?_) ?_
  · go_simp
    refine (HD.out _).mono ?_
    rintro e v45 ⟨rfl, hb⟩
    go_wp2_with fail
    refine hK.out _ _ (hH44.up hb) (fun hH45 => ?_)
    clear hK K hH44
    refine wpAnyH_ready (rs := [5, 6]) (by kernel_rfl) (by simp) ?_
    refine AllReadyH.cons rfl (fun K hK => ?_) ?_
    · go_simp
      refine (HE.out _).mono ?_
      rintro e v46 ⟨rfl, hb⟩
      go_wp2_with fail
      refine hK.out _ _ (hH45.up hb) (fun hH46 => ?_)
      clear hK K hH45
      refine wpAnyH_ready (rs := [6]) (by kernel_rfl) (by simp) ?_
      refine AllReadyH.cons rfl (fun K hK => ?_) AllReadyH.nil
      go_simp
      have hne47 := hH46.fresh
      refine hK.out _ _ (hH46.alloc _) (fun hX => ?_)
      refine laid_own hH46 (n := 2) rfl (fun v47 hH47 => ?_)
      clear hK K hX hH46
      refine wpAnyH_ready (rs := [8]) (by kernel_rfl) (by simp) ?_
      refine AllReadyH.cons rfl (fun K hK => ?_) AllReadyH.nil
      obtain ⟨z0, z1, hx⟩ := hH47.o0.two
      have kx := hx.cell
      have fx := hx.frozen
      go_simp
      refine hK.out _ _ (hH47.set2 ⟨2, by simp⟩ _ _) (fun hX => ?_)
      refine stored2 hH47 ⟨2, by simp⟩ hx (fun v48 hW hy => ?_)
      clear hK K hX hH47 hx kx fx
      refine fixed (M' := [(v0.heap.size, 2)]) hW hy rfl (fun y hy => hne47 y hy) (by simp) rest_fst (fun hH48 => ?_)
      clear hW hy
      refine wpAnyH_ready (rs := [9]) (by kernel_rfl) (by simp) ?_
      refine AllReadyH.cons rfl (fun K hK => ?_) AllReadyH.nil
      obtain ⟨z0, z1, hx⟩ := hH48.o0.two
      have kx := hx.cell
      have fx := hx.frozen
      go_simp
      refine hK.out _ _ (hH48.set2 ⟨2, by simp⟩ _ _) (fun hX => ?_)
      refine stored2 hH48 ⟨2, by simp⟩ hx (fun v49 hW hy => ?_)
      clear hK K hX hH48 hx kx fx
      refine fixed (M' := []) hW hy rfl (by simp) (by simp) rest_one (fun hH49 => ?_)
      clear hW hy
      refine wpAnyH_done (by kernel_rfl) ?_ _
      first | exact HK _ _ _ hH49 | exact HK _ _ _ hH49.swap
    refine AllReadyH.cons rfl (fun K hK => ?_) AllReadyH.nil
    go_simp
    have hne50 := hH45.fresh
    refine hK.out _ _ (hH45.alloc _) (fun hX => ?_)
    refine laid_own hH45 (n := 2) rfl (fun v50 hH50 => ?_)
    clear hK K hX hH45
    refine wpAnyH_ready (rs := [5]) (by kernel_rfl) (by simp) ?_
    refine AllReadyH.cons rfl (fun K hK => ?_) AllReadyH.nil
    go_simp
    refine (HE.out _).mono ?_
    rintro e v51 ⟨rfl, hb⟩
    go_wp2_with fail
    refine hK.out _ _ (hH50.up hb) (fun hH51 => ?_)
    clear hK K hH50
    refine wpAnyH_ready (rs := [8]) (by kernel_rfl) (by simp) ?_
    refine AllReadyH.cons rfl (fun K hK => ?_) AllReadyH.nil
    obtain ⟨z0, z1, hx⟩ := hH51.o0.two
    have kx := hx.cell
    have fx := hx.frozen
    go_simp
    refine hK.out _ _ (hH51.set2 ⟨2, by simp⟩ _ _) (fun hX => ?_)
    refine stored2 hH51 ⟨2, by simp⟩ hx (fun v52 hW hy => ?_)
    clear hK K hX hH51 hx kx fx
    refine fixed (M' := [(v0.heap.size, 2)]) hW hy rfl (fun y hy => hne50 y hy) (by simp) rest_fst (fun hH52 => ?_)
    clear hW hy
    refine wpAnyH_ready (rs := [9]) (by kernel_rfl) (by simp) ?_
    refine AllReadyH.cons rfl (fun K hK => ?_) AllReadyH.nil
    obtain ⟨z0, z1, hx⟩ := hH52.o0.two
    have kx := hx.cell
    have fx := hx.frozen
    go_simp
    refine hK.out _ _ (hH52.set2 ⟨2, by simp⟩ _ _) (fun hX => ?_)
    refine stored2 hH52 ⟨2, by simp⟩ hx (fun v53 hW hy => ?_)
    clear hK K hX hH52 hx kx fx
    refine fixed (M' := []) hW hy rfl (by simp) (by simp) rest_one (fun hH53 => ?_)
    clear hW hy
    refine wpAnyH_done (by kernel_rfl) ?_ _
    first | exact HK _ _ _ hH53 | exact HK _ _ _ hH53.swap
  refine AllReadyH.cons rfl (fun K hK => ?_) AllReadyH.nil
  go_simp
  have hne54 := hH44.fresh
  refine hK.out _ _ (hH44.alloc _) (fun hX => ?_)
  refine laid_own hH44 (n := 2) rfl (fun v54 hH54 => ?_)
  clear hK K hX hH44
  refine wpAnyH_ready (rs := [2]) (by kernel_rfl) (by simp) ?_
  refine AllReadyH.cons rfl (fun K hK => ?_) AllReadyH.nil
  go_simp
  refine (HD.out _).mono ?_
  rintro e v55 ⟨rfl, hb⟩
  go_wp2_with fail
  refine hK.out _ _ (hH54.up hb) (fun hH55 => ?_)
  clear hK K hH54
  refine wpAnyH_ready (rs := [5]) (by kernel_rfl) (by simp) ?_
  refine AllReadyH.cons rfl (fun K hK => ?_) AllReadyH.nil
  go_simp
  refine (HE.out _).mono ?_
  rintro e v56 ⟨rfl, hb⟩
  go_wp2_with fail
  refine hK.out _ _ (hH55.up hb) (fun hH56 => ?_)
  clear hK K hH55
  refine wpAnyH_ready (rs := [8]) (by kernel_rfl) (by simp) ?_
  refine AllReadyH.cons rfl (fun K hK => ?_) AllReadyH.nil
  obtain ⟨z0, z1, hx⟩ := hH56.o0.two
  have kx := hx.cell
  have fx := hx.frozen
  go_simp
  refine hK.out _ _ (hH56.set2 ⟨2, by simp⟩ _ _) (fun hX => ?_)
  refine stored2 hH56 ⟨2, by simp⟩ hx (fun v57 hW hy => ?_)
  clear hK K hX hH56 hx kx fx
  refine fixed (M' := [(v0.heap.size, 2)]) hW hy rfl (fun y hy => hne54 y hy) (by simp) rest_fst (fun hH57 => ?_)
  clear hW hy
  refine wpAnyH_ready (rs := [9]) (by kernel_rfl) (by simp) ?_
  refine AllReadyH.cons rfl (fun K hK => ?_) AllReadyH.nil
  obtain ⟨z0, z1, hx⟩ := hH57.o0.two
  have kx := hx.cell
  have fx := hx.frozen
  go_simp
  refine hK.out _ _ (hH57.set2 ⟨2, by simp⟩ _ _) (fun hX => ?_)
  refine stored2 hH57 ⟨2, by simp⟩ hx (fun v58 hW hy => ?_)
  clear hK K hX hH57 hx kx fx
  refine fixed (M' := []) hW hy rfl (by simp) (by simp) rest_one (fun hH58 => ?_)
  clear hW hy
  refine wpAnyH_done (by kernel_rfl) ?_ _
  first | exact HK _ _ _ hH58 | exact HK _ _ _ hH58.swap

theorem turns_law (x y : Hel) (w : World) (hx : x.m < 4294967296) (hy : y.m < 4294967296) : Calls Try.prog 5 #[helV x, helV y] w (Yes w) := by
  cases hr : (x.right && y.right)
  · exact turns_no x y w hx hy hr
  · rw [Bool.and_eq_true] at hr
    exact turns_yes x y w hx hy hr.1 hr.2

end Go.Proofs.Ytjdcpcfjekfdeaa
