/- Rule: the walk of RuleSafe: data are copied from the second one. No condition but the width of the masks. -/
import Derived.Test.YtjdcpcfjekfdeaaRH
import Derived.Test.YtjdcpcfjekfdeaaR2
namespace Go.Proofs.Ytjdcpcfjekfdeaa
open Go.RowKit

set_option maxRecDepth 100000 in
set_option maxHeartbeats 16000000 in
theorem safe12_yes (x y : Hel) (w : World) (hx : x.m < 4294967296) (hy : y.m < 4294967296) (hr : x.right = true) (hs : y.right = true) (hn : x.n = y.n) (hk : decK x y = 2) (hsrc : decS x y = 1) (hq : safeP y x) : Calls Try.prog 6 #[helV x, helV y] w (Yes w) := by
  have h1 := fun w => rhright_any x w hx
  have h2 := fun w => rhright_any y w hy
  rw [hr] at h1
  rw [hs] at h2
  have hd := fun w => decide_any x y w
  rw [hsrc, hk] at hd
  clear hr hs hx hy hsrc hk
  unfold safeP plH at hq
  obtain ⟨n, c, b, o, p, i, r, d, q, m⟩ := x
  obtain ⟨n2, c2, b2, o2, p2, i2, r2, d2, q2, m2⟩ := y
  dsimp only [helV] at *
  obtain ⟨rfl, rfl, rfl, hv⟩ := hq
  have hp := fun w => rplace_any c2 b2 o2 p2 c w
  generalize placeI c2 b2 o2 p2 c = v at *
  have en : (n != n2) = false := by
    rw [hn]
    exact bne_self_eq_false n2
  have ew1 : IntKind.i64.wrap 1 = 1 := by decide
  have ew0 : IntKind.i64.wrap 0 = 0 := by decide
  clear hn
  have HR1 := Lib.hid h1; clear h1
  have HR2 := Lib.hid h2; clear h2
  have HD := Lib.hid hd; clear hd
  have HP := Lib.hid hp; clear hp
  have H0 := ((Held.refl w).lay [.int .i64 n, .int .u64 c, .int .u64 b, .int .u64 o, .int .u64 p, .bool i, .bool r, .bool d, .bool false, .int .u32 (m : Int)] 28).lay [.int .i64 n2, .int .u64 c2, .int .u64 b2, .int .u64 o2, .int .u64 p2, .bool false, .bool r2, .bool false, .bool q2, .int .u32 (m2 : Int)] 28
  simp only [World.size_alloc] at H0
  replace H0 := Lib.hid H0
  go_enter Try.func6, Try.ntmps6
  go_wp2_with fail
  refine (ualive_any _).mono ?_
  rintro e w1 ⟨rfl, hb⟩
  have H1 := Lib.hid (H0.out.up hb)
  clear hb H0
  have k0 := H1.out.b0.cell
  have k1 := H1.out.b1.cell
  go_wp2_with fail
  refine (HR1.out _).mono ?_
  rintro e w2 ⟨rfl, hb⟩
  have H2 := Lib.hid (H1.out.up hb)
  clear hb H1 k0 k1
  have k0 := H2.out.b0.cell
  have k1 := H2.out.b1.cell
  go_wp2_with fail
  refine (HR2.out _).mono ?_
  rintro e w3 ⟨rfl, hb⟩
  have H3 := Lib.hid (H2.out.up hb)
  clear hb H2 k0 k1
  have k0 := H3.out.b0.cell
  have k1 := H3.out.b1.cell
  go_wp2_with fail
  refine (HD.out _).mono ?_
  rintro e w4 ⟨rfl, hb⟩
  have H4 := Lib.hid ((H3.out.up hb).lay [.int .i64 2, .int .i64 1] 32)
  clear hb H3 k0 k1
  have k0 := H4.out.b0.cell
  have k1 := H4.out.b1.cell
  have k2 := H4.out.b2.cell
  go_wp2_with (with_reducible refine stop_store 39 ?_)
  refine Lib.hid ?_
  have hz := H4.out.lay [.int .i64 0, .int .u64 0, .int .u64 0, .int .u64 0, .int .u64 0, .bool false, .bool false, .bool false, .bool false, .int .u32 0, .int .i64 0, .int .u64 0, .int .u64 0, .int .u64 0, .int .u64 0, .bool false, .bool false, .bool false, .bool false, .int .u32 0] 39
  simp only [World.size_alloc] at hz
  refine wpList_store_mid rfl _ _ _ rfl _ 0 #[.int .i64 n, .int .u64 c, .int .u64 b, .int .u64 o, .int .u64 p, .bool i, .bool r, .bool d, .bool false, .int .u32 (m : Int), .int .i64 n2, .int .u64 c2, .int .u64 b2, .int .u64 o2, .int .u64 p2, .bool false, .bool r2, .bool false, .bool q2, .int .u32 (m2 : Int)] rfl rfl hz.boxs.hd.there (by kernel_rfl) (by simp [Value.oneCell'])  ?_
  have hlt := H4.out.boxs.tl.hd.lt
  simp only [World.size_alloc] at hlt
  have H5 := Held.fill (by omega) (by simp; omega) [.int .i64 n, .int .u64 c, .int .u64 b, .int .u64 o, .int .u64 p, .bool i, .bool r, .bool d, .bool false, .int .u32 (m : Int), .int .i64 n2, .int .u64 c2, .int .u64 b2, .int .u64 o2, .int .u64 p2, .bool false, .bool r2, .bool false, .bool q2, .int .u32 (m2 : Int)] _ 0 _ hz
  generalize World.setCells _ _ _ _ = w5 at H5 ⊢
  clear hz hlt H4 k0 k1 k2
  simp only [over, List.set_cons_zero, List.set_cons_succ] at H5
  replace H5 := Lib.hid H5
  simp only [Act.put]
  have j0 := H5.out.b0.cell
  have j1 := H5.out.b1.cell
  have j2 := H5.out.b2.cell
  have j3 := H5.out.b3.cell
  go_wp2_with fail
  clear j0 j1 j2 j3
  rename_i K0 aK
  have HK : ∀ (b7 b8 : Nat) (v1 : World), Held w [(b8, [.int .i64 n, .int .u64 c, .int .u64 b, .int .u64 o, .int .u64 p, .bool i, .bool r, .bool d, .bool false, .int .u32 (m : Int)]), (b7, [.int .i64 n2, .int .u64 c2, .int .u64 b2, .int .u64 o2, .int .u64 p2, .bool false, .bool r2, .bool false, .bool q2, .int .u32 (m2 : Int)]), (w4.heap.size + 1, [.int .i64 n, .int .u64 c, .int .u64 b, .int .u64 o, .int .u64 p, .bool i, .bool r, .bool d, .bool false, .int .u32 (m : Int), .int .i64 n2, .int .u64 c2, .int .u64 b2, .int .u64 o2, .int .u64 p2, .bool false, .bool r2, .bool false, .bool q2, .int .u32 (m2 : Int)]), (w4.heap.size, [.int .i64 2, .int .i64 1]), (w.heap.size + 1, [.int .i64 n2, .int .u64 c2, .int .u64 b2, .int .u64 o2, .int .u64 p2, .bool false, .bool r2, .bool false, .bool q2, .int .u32 (m2 : Int)]), (w.heap.size, [.int .i64 n, .int .u64 c, .int .u64 b, .int .u64 o, .int .u64 p, .bool i, .bool r, .bool d, .bool false, .int .u32 (m : Int)])] [] v1 → K0 { tmps := #[.agg #[.int .i64 n, .int .u64 c, .int .u64 b, .int .u64 o, .int .u64 p, .bool i, .bool r, .bool d, .bool false, .int .u32 ↑m], .agg #[.int .i64 n2, .int .u64 c2, .int .u64 b2, .int .u64 o2, .int .u64 p2, .bool false, .bool r2, .bool false, .bool q2, .int .u32 ↑m2], .pointer (some ⟨w.heap.size, 0, none⟩), .pointer (some ⟨w.heap.size + 1, 0, none⟩), .bool false, .pointer (some ⟨w4.heap.size, 0, none⟩), .pointer (some ⟨w4.heap.size + 1, 0, none⟩), .pointer (some ⟨b7, 0, none⟩), .pointer (some ⟨b8, 0, none⟩), .bool true, .bool false, .agg #[.int .i64 n, .int .u64 c, .int .u64 b, .int .u64 o, .int .u64 p, .bool i, .bool r, .bool d, .bool false, .int .u32 ↑m], .bool true, .bool false, .bool false, .agg #[.int .i64 n2, .int .u64 c2, .int .u64 b2, .int .u64 o2, .int .u64 p2, .bool false, .bool r2, .bool false, .bool q2, .int .u32 ↑m2], .bool true, .bool false, .bool false, .agg #[.int .i64 n, .int .u64 c, .int .u64 b, .int .u64 o, .int .u64 p, .bool i, .bool r, .bool d, .bool false, .int .u32 ↑m], .agg #[.int .i64 n2, .int .u64 c2, .int .u64 b2, .int .u64 o2, .int .u64 p2, .bool false, .bool r2, .bool false, .bool q2, .int .u32 ↑m2], verV 2 1, .pointer (some ⟨w4.heap.size, 0, none⟩), .int .i64 2, .bool false, .bool false, undef, undef, undef, .bool false, undef, undef, undef, undef, undef, undef, undef, undef, undef, undef, undef, undef, undef, .agg #[.int .i64 n, .int .u64 c, .int .u64 b, .int .u64 o, .int .u64 p, .bool i, .bool r, .bool d, .bool false, .int .u32 ↑m], .agg #[.int .i64 n2, .int .u64 c2, .int .u64 b2, .int .u64 o2, .int .u64 p2, .bool false, .bool r2, .bool false, .bool q2, .int .u32 ↑m2], .agg #[.int .i64 n, .int .u64 c, .int .u64 b, .int .u64 o, .int .u64 p, .bool i, .bool r, .bool d, .bool false, .int .u32 ↑m, .int .i64 n2, .int .u64 c2, .int .u64 b2, .int .u64 o2, .int .u64 p2, .bool false, .bool r2, .bool false, .bool q2, .int .u32 ↑m2], .pointer (some ⟨w4.heap.size, 1, none⟩), .int .i64 1, .bool true, .bool true, .pointer (some ⟨w4.heap.size, 1, none⟩), .int .i64 1, .bool false, .bool false, .bool false, .pointer (some ⟨w.heap.size, 0, none⟩), .int .i64 n, .pointer (some ⟨w.heap.size + 1, 0, none⟩), .int .i64 n2, .bool false, .bool false, .pointer (some ⟨w4.heap.size, 1, none⟩), .int .i64 1, .pointer (some ⟨w4.heap.size + 1, 10, none⟩), .agg #[.int .i64 n2, .int .u64 c2, .int .u64 b2, .int .u64 o2, .int .u64 p2, .bool false, .bool r2, .bool false, .bool q2, .int .u32 ↑m2], .pointer (some ⟨w4.heap.size, 1, none⟩), .int .i64 1, .int .i64 0, .pointer (some ⟨w4.heap.size + 1, 0, none⟩), .agg #[.int .i64 n, .int .u64 c, .int .u64 b, .int .u64 o, .int .u64 p, .bool i, .bool r, .bool d, .bool false, .int .u32 ↑m], undef, undef, undef, undef, undef, undef, undef, undef, undef, undef, undef, undef, undef, undef, undef, undef, undef, undef, undef, undef, undef, undef, undef, undef, undef, undef, undef, undef, undef, undef], defers := [] } v1 := by
    intro b7 b8 v1 hh
    refine aK _ _ ?_
    have H6 := Lib.hid hh
    clear hh aK H5 HD HR1 HR2
    have k0 := H6.out.boxs.hd.cell
    have k1 := H6.out.boxs.tl.hd.cell
    have k2 := H6.out.boxs.tl.tl.hd.cell
    have k3 := H6.out.boxs.tl.tl.tl.hd.cell
    have k4 := H6.out.boxs.tl.tl.tl.tl.hd.cell
    have k5 := H6.out.boxs.tl.tl.tl.tl.tl.hd.cell
    cases d
    · cases i
      · have ev : decide (0 ≤ v) = true := decide_eq_true (by simpa using hv)
        clear hv
        go_wp2_with fail
        refine (HP.out _).mono ?_
        rintro e w7 ⟨rfl, hb⟩
        have H7 := Lib.hid (H6.out.up hb)
        clear hb H6 k0 k1 k2 k3 k4 k5
        go_wp2_with fail
        go_ret
        exact ⟨rfl, H7.out.below⟩
      · go_wp2_with fail
        go_ret
        exact ⟨rfl, H6.out.below⟩
    · go_wp2_with fail
      go_ret
      exact ⟨rfl, H6.out.below⟩
  clear aK HP hv HR1 HR2 HD
  refine held_begin (by kernel_rfl) H5.out (fun v0 hH0 => ?_)
  refine wpAnyH_take (i := 0) (v := ?_) rfl (by kernel_rfl) (by kernel_rfl) (by kernel_rfl) (fun _ _ _ h => h) (Or.inl ⟨by rfl, ?_⟩) hH0 ?_
  rotate_left
  · (intro v hSw; have k0 := hSw.b0.cell; have k1 := hSw.b1.cell; have k2 := hSw.b2.cell; have k3 := hSw.b3.cell; go_simp; try with_reducible rfl)
  simp only [Act.put, List.setIfInBounds_toArray, List.set_cons_zero, List.set_cons_succ, List.getElem_toArray, List.getElem_cons_zero]
  refine wpAnyH_take (i := 1) (v := ?_) rfl (by kernel_rfl) (by kernel_rfl) (by kernel_rfl) (fun _ _ _ h => h) (Or.inl ⟨by rfl, ?_⟩) hH0 ?_
  rotate_left
  · (intro v hSw; have k0 := hSw.b0.cell; have k1 := hSw.b1.cell; have k2 := hSw.b2.cell; have k3 := hSw.b3.cell; go_simp; try with_reducible rfl)
  simp only [Act.put, List.setIfInBounds_toArray, List.set_cons_zero, List.set_cons_succ, List.getElem_toArray, List.getElem_cons_zero, List.getElem_cons_succ]
  refine wpAnyH_take (i := 2) (v := ?_) rfl (by kernel_rfl) (by kernel_rfl) (by kernel_rfl) (fun _ _ _ h => h) (Or.inl ⟨by rfl, ?_⟩) hH0 ?_
  rotate_left
  · (intro v hSw; have k0 := hSw.b0.cell; have k1 := hSw.b1.cell; have k2 := hSw.b2.cell; have k3 := hSw.b3.cell; go_simp; try with_reducible rfl)
  simp only [Act.put, List.setIfInBounds_toArray, List.set_cons_zero, List.set_cons_succ, List.getElem_toArray, List.getElem_cons_zero, List.getElem_cons_succ]
  refine wpAnyH_take (i := 3) (v := ?_) rfl (by kernel_rfl) (by kernel_rfl) (by kernel_rfl) (fun _ _ _ h => h) (Or.inl ⟨by rfl, ?_⟩) hH0 ?_
  rotate_left
  · (intro v hSw; have k0 := hSw.b0.cell; have k1 := hSw.b1.cell; have k2 := hSw.b2.cell; have k3 := hSw.b3.cell; go_simp; try with_reducible rfl)
  simp only [Act.put, List.setIfInBounds_toArray, List.set_cons_zero, List.set_cons_succ, List.getElem_toArray, List.getElem_cons_zero, List.getElem_cons_succ]
  refine wpAnyH_take (i := 4) (v := ?_) rfl (by kernel_rfl) (by kernel_rfl) (by kernel_rfl) (fun _ _ _ h => h) (Or.inl ⟨by rfl, ?_⟩) hH0 ?_
  rotate_left
  · (intro v hSw; have k0 := hSw.b0.cell; have k1 := hSw.b1.cell; have k2 := hSw.b2.cell; have k3 := hSw.b3.cell; go_simp; try with_reducible rfl)
  simp only [Act.put, List.setIfInBounds_toArray, List.set_cons_zero, List.set_cons_succ, List.getElem_toArray, List.getElem_cons_zero, List.getElem_cons_succ]
  refine wpAnyH_take (i := 5) (v := ?_) rfl (by kernel_rfl) (by kernel_rfl) (by kernel_rfl) (fun _ _ _ h => h) (Or.inl ⟨by rfl, ?_⟩) hH0 ?_
  rotate_left
  · (intro v hSw; have k0 := hSw.b0.cell; have k1 := hSw.b1.cell; have k2 := hSw.b2.cell; have k3 := hSw.b3.cell; go_simp; try with_reducible rfl)
  simp only [Act.put, List.setIfInBounds_toArray, List.set_cons_zero, List.set_cons_succ, List.getElem_toArray, List.getElem_cons_zero, List.getElem_cons_succ]
  refine wpAnyH_take (i := 6) (v := ?_) rfl (by kernel_rfl) (by kernel_rfl) (by kernel_rfl) (fun _ _ _ h => h) (Or.inl ⟨by rfl, ?_⟩) hH0 ?_
  rotate_left
  · (intro v hSw; have k0 := hSw.b0.cell; have k1 := hSw.b1.cell; have k2 := hSw.b2.cell; have k3 := hSw.b3.cell; go_simp; try with_reducible rfl)
  simp only [Act.put, List.setIfInBounds_toArray, List.set_cons_zero, List.set_cons_succ, List.getElem_toArray, List.getElem_cons_zero, List.getElem_cons_succ]
  refine wpAnyH_take (i := 7) (v := ?_) rfl (by kernel_rfl) (by kernel_rfl) (by kernel_rfl) (fun _ _ _ h => h) (Or.inl ⟨by rfl, ?_⟩) hH0 ?_
  rotate_left
  · (intro v hSw; have k0 := hSw.b0.cell; have k1 := hSw.b1.cell; have k2 := hSw.b2.cell; have k3 := hSw.b3.cell; go_simp; try with_reducible rfl)
  simp only [Act.put, List.setIfInBounds_toArray, List.set_cons_zero, List.set_cons_succ, List.getElem_toArray, List.getElem_cons_zero, List.getElem_cons_succ]
  refine wpAnyH_take (i := 8) (v := ?_) rfl (by kernel_rfl) (by kernel_rfl) (by kernel_rfl) (fun _ _ _ h => h) (Or.inl ⟨by rfl, ?_⟩) hH0 ?_
  rotate_left
  · (intro v hSw; have k0 := hSw.b0.cell; have k1 := hSw.b1.cell; have k2 := hSw.b2.cell; have k3 := hSw.b3.cell; go_simp; try with_reducible rfl)
  simp only [Act.put, List.setIfInBounds_toArray, List.set_cons_zero, List.set_cons_succ, List.getElem_toArray, List.getElem_cons_zero, List.getElem_cons_succ]
  refine wpAnyH_ready (rs := [9, 10]) (by kernel_rfl) (by simp) ?_
  refine AllReadyH.cons rfl (fun K hK => ?_) ?_
  · go_simp
    have hne1 := hH0.fresh
    refine hK.out _ _ (hH0.alloc _) (fun hX => ?_)
    refine laid_own hH0 (n := 10) rfl (fun v1 hH1 => ?_)
    clear hK K hX hH0
    refine wpAnyH_ready (rs := [10]) (by kernel_rfl) (by simp) ?_
    refine AllReadyH.cons rfl (fun K hK => ?_) AllReadyH.nil
    go_simp
    have hne2 := hH1.fresh
    refine hK.out _ _ (hH1.alloc _) (fun hX => ?_)
    refine laid_own hH1 (n := 10) rfl (fun v2 hH2 => ?_)
    clear hK K hX hH1
    refine wpAnyH_ready (rs := [11]) (by kernel_rfl) (by simp) ?_
    refine AllReadyH.cons rfl (fun K hK => ?_) AllReadyH.nil
    obtain ⟨z0, z1, z2, z3, z4, z5, z6, z7, z8, z9, hx⟩ := hH2.o1.ten
    have kx := hx.cell
    have fx := hx.frozen
    go_simp
    refine hK.out _ _ (hH2.set10 ⟨10, by simp⟩ _ _ _ _ _ _ _ _ _ _) (fun hX => ?_)
    refine stored10 hH2 ⟨10, by simp⟩ hx (fun v3 hW hy => ?_)
    clear hK K hX hH2 hx kx fx
    refine fixed (M' := [(v1.heap.size, 10)]) hW hy rfl (fun y hy e => by rw [List.mem_singleton] at hy; subst hy; exact hne2 _ (List.mem_singleton.2 rfl) e.symm) (by simp) rest_snd (fun hH3 => ?_)
    clear hW hy
    refine wpAnyH_ready (rs := [12]) (by kernel_rfl) (by simp) ?_
    refine AllReadyH.cons rfl (fun K hK => ?_) AllReadyH.nil
    obtain ⟨z0, z1, z2, z3, z4, z5, z6, z7, z8, z9, hx⟩ := hH3.o0.ten
    have kx := hx.cell
    have fx := hx.frozen
    go_simp
    refine hK.out _ _ (hH3.set10 ⟨10, by simp⟩ _ _ _ _ _ _ _ _ _ _) (fun hX => ?_)
    refine stored10 hH3 ⟨10, by simp⟩ hx (fun v4 hW hy => ?_)
    clear hK K hX hH3 hx kx fx
    refine fixed (M' := []) hW hy rfl (by simp) (by simp) rest_one (fun hH4 => ?_)
    clear hW hy
    refine wpAnyH_done (by kernel_rfl) ?_ _
    first | exact HK _ _ _ hH4 | exact HK _ _ _ hH4.swap
  refine AllReadyH.cons rfl (fun K hK => ?_) AllReadyH.nil
  go_simp
  have hne5 := hH0.fresh
  refine hK.out _ _ (hH0.alloc _) (fun hX => ?_)
  refine laid_own hH0 (n := 10) rfl (fun v5 hH5 => ?_)
  clear hK K hX hH0
  refine wpAnyH_ready (rs := [9]) (by kernel_rfl) (by simp) ?_
  refine AllReadyH.cons rfl (fun K hK => ?_) AllReadyH.nil
  go_simp
  have hne6 := hH5.fresh
  refine hK.out _ _ (hH5.alloc _) (fun hX => ?_)
  refine laid_own hH5 (n := 10) rfl (fun v6 hH6 => ?_)
  clear hK K hX hH5
  refine wpAnyH_ready (rs := [11]) (by kernel_rfl) (by simp) ?_
  refine AllReadyH.cons rfl (fun K hK => ?_) AllReadyH.nil
  obtain ⟨z0, z1, z2, z3, z4, z5, z6, z7, z8, z9, hx⟩ := hH6.o0.ten
  have kx := hx.cell
  have fx := hx.frozen
  go_simp
  refine hK.out _ _ (hH6.set10 ⟨10, by simp⟩ _ _ _ _ _ _ _ _ _ _) (fun hX => ?_)
  refine stored10 hH6 ⟨10, by simp⟩ hx (fun v7 hW hy => ?_)
  clear hK K hX hH6 hx kx fx
  refine fixed (M' := [(v0.heap.size, 10)]) hW hy rfl (fun y hy => hne6 y hy) (by simp) rest_fst (fun hH7 => ?_)
  clear hW hy
  refine wpAnyH_ready (rs := [12]) (by kernel_rfl) (by simp) ?_
  refine AllReadyH.cons rfl (fun K hK => ?_) AllReadyH.nil
  obtain ⟨z0, z1, z2, z3, z4, z5, z6, z7, z8, z9, hx⟩ := hH7.o0.ten
  have kx := hx.cell
  have fx := hx.frozen
  go_simp
  refine hK.out _ _ (hH7.set10 ⟨10, by simp⟩ _ _ _ _ _ _ _ _ _ _) (fun hX => ?_)
  refine stored10 hH7 ⟨10, by simp⟩ hx (fun v8 hW hy => ?_)
  clear hK K hX hH7 hx kx fx
  refine fixed (M' := []) hW hy rfl (by simp) (by simp) rest_one (fun hH8 => ?_)
  clear hW hy
  refine wpAnyH_done (by kernel_rfl) ?_ _
  first | exact HK _ _ _ hH8 | exact HK _ _ _ hH8.swap

end Go.Proofs.Ytjdcpcfjekfdeaa
