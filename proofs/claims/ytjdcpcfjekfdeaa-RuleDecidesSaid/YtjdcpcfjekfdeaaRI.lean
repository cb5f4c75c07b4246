/- Rule: the walk of RuleDecides. No condition but the width of the masks. -/
import Derived.Test.YtjdcpcfjekfdeaaRH
import Derived.Test.YtjdcpcfjekfdeaaRD
import Derived.Test.YtjdcpcfjekfdeaaRE
namespace Go.Proofs.Ytjdcpcfjekfdeaa
open Go.RowKit

theorem rdecide_any (x y : Hel) (w : World) : Calls Try.prog 12 #[helV x, helV y] w fun e w' => e = .returned (verV (rdP x y).1 (rdP x y).2) ∧ Below w.heap.size w w' := by
  cases h : x.q
  · exact rdecide_f x y w h
  · exact rdecide_t x y w h

set_option maxRecDepth 100000 in
set_option maxHeartbeats 16000000 in
theorem decides_no (x y : Hel) (w : World) (hx : x.m < 4294967296) (hy : y.m < 4294967296) (hr : (x.right && y.right) = false) : Calls Try.prog 3 #[helV x, helV y] w (Yes w) := by
  have h1 := fun w => rhright_any x w hx
  have h2 := fun w => rhright_any y w hy
  have hg : x.right = true → y.right = false := fun h => by rw [h] at hr; simpa using hr
  clear hr hx hy
  generalize x.right = g at *
  generalize y.right = g2 at *
  obtain ⟨n, c, b, o, p, i, r, d, q, m⟩ := x
  obtain ⟨n2, c2, b2, o2, p2, i2, r2, d2, q2, m2⟩ := y
  dsimp only [helV] at *
  have HR1 := Lib.hid h1; clear h1
  have HR2 := Lib.hid h2; clear h2
  have HG := Lib.hid hg; clear hg
  have H0 := ((Held.refl w).lay [.int .i64 n, .int .u64 c, .int .u64 b, .int .u64 o, .int .u64 p, .bool i, .bool r, .bool d, .bool q, .int .u32 (m : Int)] 28).lay [.int .i64 n2, .int .u64 c2, .int .u64 b2, .int .u64 o2, .int .u64 p2, .bool i2, .bool r2, .bool d2, .bool q2, .int .u32 (m2 : Int)] 28
  simp only [World.size_alloc] at H0
  replace H0 := Lib.hid H0
  cases g
  · clear HG
    go_enter Try.func3, Try.ntmps3
    go_wp2_with fail
    refine (ualive_any _).mono ?_
    rintro e w1 ⟨rfl, hb⟩
    have H1 := Lib.hid (H0.out.up hb)
    clear hb H0
    have k0 := H1.out.b0.cell
    have k1 := H1.out.b1.cell
    go_wp2_with fail
    refine (HR1.out _).mono ?_
    rintro e w2 ⟨rfl, hb⟩
    have H2 := Lib.hid (H1.out.up hb)
    clear hb H1 k0 k1
    have k0 := H2.out.b0.cell
    have k1 := H2.out.b1.cell
    go_wp2_with fail
    go_ret
    exact ⟨rfl, H2.out.below⟩
  · obtain rfl := HG.out rfl
    clear HG
    go_enter Try.func3, Try.ntmps3
    go_wp2_with fail
    refine (ualive_any _).mono ?_
    rintro e w1 ⟨rfl, hb⟩
    have H1 := Lib.hid (H0.out.up hb)
    clear hb H0
    have k0 := H1.out.b0.cell
    have k1 := H1.out.b1.cell
    go_wp2_with fail
    refine (HR1.out _).mono ?_
    rintro e w2 ⟨rfl, hb⟩
    have H2 := Lib.hid (H1.out.up hb)
    clear hb H1 k0 k1
    have k0 := H2.out.b0.cell
    have k1 := H2.out.b1.cell
    go_wp2_with fail
    refine (HR2.out _).mono ?_
    rintro e w3 ⟨rfl, hb⟩
    have H3 := Lib.hid (H2.out.up hb)
    clear hb H2 k0 k1
    have k0 := H3.out.b0.cell
    have k1 := H3.out.b1.cell
    go_wp2_with fail
    go_ret
    exact ⟨rfl, H3.out.below⟩

set_option maxRecDepth 100000 in
set_option maxHeartbeats 16000000 in
theorem decides_yes (x y : Hel) (w : World) (hx : x.m < 4294967296) (hy : y.m < 4294967296) (hr : x.right = true) (hs : y.right = true) : Calls Try.prog 3 #[helV x, helV y] w (Yes w) := by
  have h1 := fun w => rhright_any x w hx
  have h2 := fun w => rhright_any y w hy
  rw [hr] at h1
  rw [hs] at h2
  have hd := fun w => decide_any x y w
  obtain ⟨n1, n2x, c1⟩ := Hel.right_n hr
  obtain ⟨n3, n4, c3⟩ := Hel.right_n hs
  have he := fun w => rdecide_any x y w
  rw [dec_eq x y c1 c3] at he
  have hb := fun w => bits_any (decK x y) (decS x y) x y w hx hy ⟨n1, n2x⟩
  have hc := fun w => rbits_any (decK x y) (decS x y) x y w hx hy ⟨n1, n2x⟩
  clear hr hs hx hy n1 n2x n3 n4 c1 c3
  generalize bitsB (decK x y) x y = z at *
  obtain ⟨n, c, b, o, p, i, r, d, q, m⟩ := x
  obtain ⟨n2, c2, b2, o2, p2, i2, r2, d2, q2, m2⟩ := y
  dsimp only [helV] at *
  generalize decK ⟨n, c, b, o, p, i, r, d, q, m⟩ ⟨n2, c2, b2, o2, p2, i2, r2, d2, q2, m2⟩ = K at *
  generalize decS ⟨n, c, b, o, p, i, r, d, q, m⟩ ⟨n2, c2, b2, o2, p2, i2, r2, d2, q2, m2⟩ = S at *
  have HE := Lib.hid he; clear he
  have HB := Lib.hid hb; clear hb
  have HC := Lib.hid hc; clear hc
  have eK : (K == K) = true := beq_self_eq_true K
  have eS : (S == S) = true := beq_self_eq_true S
  have HR1 := Lib.hid h1; clear h1
  have HR2 := Lib.hid h2; clear h2
  have HD := Lib.hid hd; clear hd
  have H0 := ((Held.refl w).lay [.int .i64 n, .int .u64 c, .int .u64 b, .int .u64 o, .int .u64 p, .bool i, .bool r, .bool d, .bool q, .int .u32 (m : Int)] 28).lay [.int .i64 n2, .int .u64 c2, .int .u64 b2, .int .u64 o2, .int .u64 p2, .bool i2, .bool r2, .bool d2, .bool q2, .int .u32 (m2 : Int)] 28
  simp only [World.size_alloc] at H0
  replace H0 := Lib.hid H0
  go_enter Try.func3, Try.ntmps3
  go_wp2_with fail
  refine (ualive_any _).mono ?_
  rintro e w1 ⟨rfl, hb⟩
  have H1 := Lib.hid (H0.out.up hb)
  clear hb H0
  have k0 := H1.out.b0.cell
  have k1 := H1.out.b1.cell
  go_wp2_with fail
  refine (HR1.out _).mono ?_
  rintro e w2 ⟨rfl, hb⟩
  have H2 := Lib.hid (H1.out.up hb)
  clear hb H1 k0 k1
  have k0 := H2.out.b0.cell
  have k1 := H2.out.b1.cell
  go_wp2_with fail
  refine (HR2.out _).mono ?_
  rintro e w3 ⟨rfl, hb⟩
  have H3 := Lib.hid (H2.out.up hb)
  clear hb H2 k0 k1
  have k0 := H3.out.b0.cell
  have k1 := H3.out.b1.cell
  go_wp2_with fail
  refine (HD.out _).mono ?_
  rintro e w4 ⟨rfl, hb⟩
  have H4 := Lib.hid ((H3.out.up hb).lay [.int .i64 K, .int .i64 S] 32)
  clear hb H3 k0 k1
  have k0 := H4.out.b0.cell
  have k1 := H4.out.b1.cell
  have k2 := H4.out.b2.cell
  go_wp2_with fail
  refine (HE.out _).mono ?_
  rintro e w5 ⟨rfl, hb⟩
  have H5 := Lib.hid ((H4.out.up hb).lay [.int .i64 K, .int .i64 S] 32)
  clear hb H4 k0 k1 k2
  have k0 := H5.out.b0.cell
  have k1 := H5.out.b1.cell
  have k2 := H5.out.b2.cell
  have k3 := H5.out.b3.cell
  go_wp2_with fail
  refine held_begin (by kernel_rfl) H5.out (fun v0 hH0 => ?_)
  refine wpAnyH_take (i := 0) (v := ?_) rfl (by kernel_rfl) (by kernel_rfl) (by kernel_rfl) (fun _ _ _ h => h) (Or.inl ⟨by rfl, ?_⟩) hH0 ?_
  rotate_left
  · (intro v hSw; have k0 := hSw.b0.cell; have k1 := hSw.b1.cell; have k2 := hSw.b2.cell; have k3 := hSw.b3.cell; go_simp; try with_reducible rfl)
  simp only [Act.put, List.setIfInBounds_toArray, List.set_cons_zero, List.set_cons_succ, List.getElem_toArray, List.getElem_cons_zero]
  refine wpAnyH_take (i := 1) (v := ?_) rfl (by kernel_rfl) (by kernel_rfl) (by kernel_rfl) (fun _ _ _ h => h) (Or.inl ⟨by rfl, ?_⟩) hH0 ?_
  rotate_left
  · (intro v hSw; have k0 := hSw.b0.cell; have k1 := hSw.b1.cell; have k2 := hSw.b2.cell; have k3 := hSw.b3.cell; go_simp; try with_reducible rfl)
  simp only [Act.put, List.setIfInBounds_toArray, List.set_cons_zero, List.set_cons_succ, List.getElem_toArray, List.getElem_cons_zero, List.getElem_cons_succ]
  refine wpAnyH_take (i := 2) (v := ?_) rfl (by kernel_rfl) (by kernel_rfl) (by kernel_rfl) (fun _ _ _ h => h) (Or.inl ⟨by rfl, ?_⟩) hH0 ?_
  rotate_left
  · (intro v hSw; have k0 := hSw.b0.cell; have k1 := hSw.b1.cell; have k2 := hSw.b2.cell; have k3 := hSw.b3.cell; go_simp; try with_reducible rfl)
  simp only [Act.put, List.setIfInBounds_toArray, List.set_cons_zero, List.set_cons_succ, List.getElem_toArray, List.getElem_cons_zero, List.getElem_cons_succ]
  refine wpAnyH_take (i := 3) (v := ?_) rfl (by kernel_rfl) (by kernel_rfl) (by kernel_rfl) (fun _ _ _ h => h) (Or.inl ⟨by rfl, ?_⟩) hH0 ?_
  rotate_left
  · (intro v hSw; have k0 := hSw.b0.cell; have k1 := hSw.b1.cell; have k2 := hSw.b2.cell; have k3 := hSw.b3.cell; go_simp; try with_reducible rfl)
  simp only [Act.put, List.setIfInBounds_toArray, List.set_cons_zero, List.set_cons_succ, List.getElem_toArray, List.getElem_cons_zero, List.getElem_cons_succ]
  refine wpAnyH_take (i := 4) (v := ?_) rfl (by kernel_rfl) (by kernel_rfl) (by kernel_rfl) (fun _ _ _ h => h) (Or.inl ⟨by rfl, ?_⟩) hH0 ?_
  rotate_left
  · (intro v hSw; have k0 := hSw.b0.cell; have k1 := hSw.b1.cell; have k2 := hSw.b2.cell; have k3 := hSw.b3.cell; go_simp; try with_reducible rfl)
  simp only [Act.put, List.setIfInBounds_toArray, List.set_cons_zero, List.set_cons_succ, List.getElem_toArray, List.getElem_cons_zero, List.getElem_cons_succ]
  refine wpAnyH_take (i := 5) (v := ?_) rfl (by kernel_rfl) (by kernel_rfl) (by kernel_rfl) (fun _ _ _ h => h) (Or.inl ⟨by rfl, ?_⟩) hH0 ?_
  rotate_left
  · (intro v hSw; have k0 := hSw.b0.cell; have k1 := hSw.b1.cell; have k2 := hSw.b2.cell; have k3 := hSw.b3.cell; go_simp; try with_reducible rfl)
  simp only [Act.put, List.setIfInBounds_toArray, List.set_cons_zero, List.set_cons_succ, List.getElem_toArray, List.getElem_cons_zero, List.getElem_cons_succ]
  refine wpAnyH_take (i := 6) (v := ?_) rfl (by kernel_rfl) (by kernel_rfl) (by kernel_rfl) (fun _ _ _ h => h) (Or.inl ⟨by rfl, ?_⟩) hH0 ?_
  rotate_left
  · (intro v hSw; have k0 := hSw.b0.cell; have k1 := hSw.b1.cell; have k2 := hSw.b2.cell; have k3 := hSw.b3.cell; go_simp; try with_reducible rfl)
  simp only [Act.put, List.setIfInBounds_toArray, List.set_cons_zero, List.set_cons_succ, List.getElem_toArray, List.getElem_cons_zero, List.getElem_cons_succ]
  refine wpAnyH_take (i := 8) (v := ?_) rfl (by kernel_rfl) (by kernel_rfl) (by kernel_rfl) (fun _ _ _ h => h) (Or.inl ⟨by rfl, ?_⟩) hH0 ?_
  rotate_left
  · (intro v hSw; have k0 := hSw.b0.cell; have k1 := hSw.b1.cell; have k2 := hSw.b2.cell; have k3 := hSw.b3.cell; go_simp; try with_reducible rfl)
  simp only [Act.put, List.setIfInBounds_toArray, List.set_cons_zero, List.set_cons_succ, List.getElem_toArray, List.getElem_cons_zero, List.getElem_cons_succ]
  refine wpAnyH_take (i := 9) (v := ?_) rfl (by kernel_rfl) (by kernel_rfl) (by kernel_rfl) (fun _ _ _ h => h) (Or.inl ⟨by rfl, ?_⟩) hH0 ?_
  rotate_left
  · (intro v hSw; have k0 := hSw.b0.cell; have k1 := hSw.b1.cell; have k2 := hSw.b2.cell; have k3 := hSw.b3.cell; go_simp; try with_reducible rfl)
  simp only [Act.put, List.setIfInBounds_toArray, List.set_cons_zero, List.set_cons_succ, List.getElem_toArray, List.getElem_cons_zero, List.getElem_cons_succ]
  refine wpAnyH_take (i := 10) (v := ?_) rfl (by kernel_rfl) (by kernel_rfl) (by kernel_rfl) (fun _ _ _ h => h) (Or.inl ⟨by rfl, ?_⟩) hH0 ?_
  rotate_left
  · (intro v hSw; have k0 := hSw.b0.cell; have k1 := hSw.b1.cell; have k2 := hSw.b2.cell; have k3 := hSw.b3.cell; go_simp; try with_reducible rfl)
  simp only [Act.put, List.setIfInBounds_toArray, List.set_cons_zero, List.set_cons_succ, List.getElem_toArray, List.getElem_cons_zero, List.getElem_cons_succ]
  refine wpAnyH_ready (rs := [7]) (by kernel_rfl) (by simp) ?_
  refine AllReadyH.cons rfl (fun K hK => ?_) AllReadyH.nil
  go_simp
  refine (HB.out _).mono ?_
  rintro e v1 ⟨rfl, hb⟩
  go_wp2_with fail
  refine hK.out _ _ (hH0.up hb) (fun hH1 => ?_)
  clear hK K hH0
  refine wpAnyH_ready (rs := [11]) (by kernel_rfl) (by simp) ?_
  refine AllReadyH.cons rfl (fun K hK => ?_) AllReadyH.nil
  go_simp
  refine (HC.out _).mono ?_
  rintro e v2 ⟨rfl, hb⟩
  go_wp2_with fail
  refine hK.out _ _ (hH1.up hb) (fun hH2 => ?_)
  clear hK K hH1
  refine wpAnyH_take (i := 12) (v := ?_) rfl (by kernel_rfl) (by kernel_rfl) (by kernel_rfl) (fun _ _ _ h => h) (Or.inl ⟨by rfl, ?_⟩) hH2 ?_
  rotate_left
  · (intro v hSw; have k0 := hSw.b0.cell; have k1 := hSw.b1.cell; have k2 := hSw.b2.cell; have k3 := hSw.b3.cell; go_simp; try with_reducible rfl)
  simp only [Act.put, List.setIfInBounds_toArray, List.set_cons_zero, List.set_cons_succ, List.getElem_toArray, List.getElem_cons_zero, List.getElem_cons_succ]
  refine wpAnyH_take (i := 13) (v := ?_) rfl (by kernel_rfl) (by kernel_rfl) (by kernel_rfl) (fun _ _ _ h => h) (Or.inl ⟨by rfl, ?_⟩) hH2 ?_
  rotate_left
  · (intro v hSw; have k0 := hSw.b0.cell; have k1 := hSw.b1.cell; have k2 := hSw.b2.cell; have k3 := hSw.b3.cell; go_simp; try with_reducible rfl)
  simp only [Act.put, List.setIfInBounds_toArray, List.set_cons_zero, List.set_cons_succ, List.getElem_toArray, List.getElem_cons_zero, List.getElem_cons_succ]
  refine wpAnyH_take (i := 14) (v := ?_) rfl (by kernel_rfl) (by kernel_rfl) (by kernel_rfl) (fun _ _ _ h => h) (Or.inl ⟨by rfl, ?_⟩) hH2 ?_
  rotate_left
  · (intro v hSw; have k0 := hSw.b0.cell; have k1 := hSw.b1.cell; have k2 := hSw.b2.cell; have k3 := hSw.b3.cell; go_simp; try with_reducible rfl)
  simp only [Act.put, List.setIfInBounds_toArray, List.set_cons_zero, List.set_cons_succ, List.getElem_toArray, List.getElem_cons_zero, List.getElem_cons_succ]
  refine wpAnyH_done (by kernel_rfl) ?_ _
  go_wp2_with fail
  go_ret
  exact ⟨rfl, hH2.below⟩

theorem decides_law (x y : Hel) (w : World) (hx : x.m < 4294967296) (hy : y.m < 4294967296) : Calls Try.prog 3 #[helV x, helV y] w (Yes w) := by
  cases hr : (x.right && y.right)
  · exact decides_no x y w hx hy hr
  · rw [Bool.and_eq_true] at hr
    exact decides_yes x y w hx hy hr.1 hr.2

end Go.Proofs.Ytjdcpcfjekfdeaa
