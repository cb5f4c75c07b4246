/- Packets: the walks of PacketEncodes and PacketDecodes. Under: the widths, and the type of errors as it is laid. -/
import Derived.Test.YtbbcncofdhhflaaDoorPKA
namespace Go.Proofs.YtbbcncofdhhflaaDoor
open Go.RowKit

/-- True, and nothing that was there is changed. -/
def Yes (w : World) (e : Ending) (w' : World) : Prop := e = .returned (.bool true) ∧ Below w.heap.size w w'

theorem Held.b5 {W0 w : World} {L : List (Nat × List Value)} {M : List (Nat × Nat)} {x0 x1 x2 x3 x4 x5 : Nat × List Value} (h : Held W0 (x0 :: x1 :: x2 :: x3 :: x4 :: x5 :: L) M w) : Box w x5.1 x5.2 := h.boxs.tl.tl.tl.tl.tl.hd

set_option maxRecDepth 100000 in
set_option maxHeartbeats 16000000 in
theorem pencodes_law (x : Pkt) (w : World) (hw : x.wide) (he : Etyp w) : Calls Tryd.prog 3 #[pktV x] w (Yes w) := by
  have HT := Lib.hid he; clear he
  have h1 := fun w => pencode_any x w hw
  have h2 := fun w => rpencode_any x w hw
  have h3 := fun w => pright_any x w hw.2.2.2.2.2
  have h4 := fun w => rpright_any x w hw.2.2.2.2.2
  generalize x.encT = u at *
  generalize x.encE = f at *
  generalize x.right = g at *
  obtain ⟨k, s, ⟨n, c, b, o, p, i, r, d, q, m⟩, z, t⟩ := x
  clear hw
  dsimp only [pktV] at *
  have HE := Lib.hid h1; clear h1
  have HF := Lib.hid h2; clear h2
  have HR := Lib.hid h3; clear h3
  have HS := Lib.hid h4; clear h4
  have eu : (u.toList == u.toList) = true := beq_self_eq_true _
  have ef : (f == f) = true := beq_self_eq_true f
  have eg : (g == g) = true := beq_self_eq_true g
  have H0 := Lib.hid ((Held.refl w).lay [.int .i64 k, .int .u64 s, .int .i64 n, .int .u64 c, .int .u64 b, .int .u64 o, .int .u64 p, .bool i, .bool r, .bool d, .bool q, .int .u32 (m : Int), .int .i64 z, .string t] 30)
  have k00 := H0.out.b0.cell
  by_cases hl : 200 < (t.size : Int)
  · clear HE HF HR HS
    go_enter Tryd.func3, Tryd.ntmps3
    go_wp2_with fail
    refine (palive_any _ (HT.out.up H0.out.below)).mono ?_
    rintro e w1 ⟨rfl, hb⟩
    have H1 := Lib.hid (H0.out.up hb)
    clear hb k00
    have k00 := H1.out.b0.cell
    go_wp2_with fail
    go_ret
    exact ⟨rfl, H1.out.below⟩
  · go_enter Tryd.func3, Tryd.ntmps3
    go_wp2_with fail
    refine (palive_any _ (HT.out.up H0.out.below)).mono ?_
    rintro e w1 ⟨rfl, hb⟩
    have H1 := Lib.hid (H0.out.up hb)
    clear hb k00
    have k00 := H1.out.b0.cell
    go_wp2_with fail
    refine (HE.out _).mono ?_
    rintro e w2 ⟨rfl, hb⟩
    have H2 := Lib.hid (H1.out.up hb)
    clear hb k00
    have k00 := H2.out.b0.cell
    go_wp2_with fail
    refine (HF.out _).mono ?_
    rintro e w3 ⟨rfl, hb⟩
    have H3 := Lib.hid (H2.out.up hb)
    clear hb k00
    have k00 := H3.out.b0.cell
    go_wp2_with fail
    clear k00
    refine held_begin (by kernel_rfl) H3.out (fun v0 hH0 => ?_)
    refine wpAnyH_take (i := 0) (v := ?_) rfl (by kernel_rfl) (by kernel_rfl) (by kernel_rfl) (fun _ _ _ h => h) (Or.inl ⟨by rfl, ?_⟩) hH0 ?_
    rotate_left
    · (intro v hSw; have k0 := hSw.b0.cell; go_simp; try with_reducible rfl)
    simp only [Act.put, List.setIfInBounds_toArray, List.set_cons_zero, List.set_cons_succ, List.getElem_toArray, List.getElem_cons_zero]
    refine wpAnyH_take (i := 1) (v := ?_) rfl (by kernel_rfl) (by kernel_rfl) (by kernel_rfl) (fun _ _ _ h => h) (Or.inl ⟨by rfl, ?_⟩) hH0 ?_
    rotate_left
    · (intro v hSw; have k0 := hSw.b0.cell; go_simp; try with_reducible rfl)
    simp only [Act.put, List.setIfInBounds_toArray, List.set_cons_zero, List.set_cons_succ, List.getElem_toArray, List.getElem_cons_zero, List.getElem_cons_succ]
    refine wpAnyH_take (i := 2) (v := ?_) rfl (by kernel_rfl) (by kernel_rfl) (by kernel_rfl) (fun _ _ _ h => h) (Or.inl ⟨by rfl, ?_⟩) hH0 ?_
    rotate_left
    · (intro v hSw; have k0 := hSw.b0.cell; go_simp; try with_reducible rfl)
    simp only [Act.put, List.setIfInBounds_toArray, List.set_cons_zero, List.set_cons_succ, List.getElem_toArray, List.getElem_cons_zero, List.getElem_cons_succ]
    refine wpAnyH_take (i := 3) (v := ?_) rfl (by kernel_rfl) (by kernel_rfl) (by kernel_rfl) (fun _ _ _ h => h) (Or.inl ⟨by rfl, ?_⟩) hH0 ?_
    rotate_left
    · (intro v hSw; have k0 := hSw.b0.cell; go_simp; try with_reducible rfl)
    simp only [Act.put, List.setIfInBounds_toArray, List.set_cons_zero, List.set_cons_succ, List.getElem_toArray, List.getElem_cons_zero, List.getElem_cons_succ]
    refine wpAnyH_take (i := 4) (v := ?_) rfl (by kernel_rfl) (by kernel_rfl) (by kernel_rfl) (fun _ _ _ h => h) (Or.inl ⟨by rfl, ?_⟩) hH0 ?_
    rotate_left
    · (intro v hSw; have k0 := hSw.b0.cell; go_simp; try with_reducible rfl)
    simp only [Act.put, List.setIfInBounds_toArray, List.set_cons_zero, List.set_cons_succ, List.getElem_toArray, List.getElem_cons_zero, List.getElem_cons_succ]
    refine wpAnyH_take (i := 5) (v := ?_) rfl (by kernel_rfl) (by kernel_rfl) (by kernel_rfl) (fun _ _ _ h => h) (Or.inl ⟨by rfl, ?_⟩) hH0 ?_
    rotate_left
    · (intro v hSw; have k0 := hSw.b0.cell; go_simp; try with_reducible rfl)
    simp only [Act.put, List.setIfInBounds_toArray, List.set_cons_zero, List.set_cons_succ, List.getElem_toArray, List.getElem_cons_zero, List.getElem_cons_succ]
    refine wpAnyH_take (i := 6) (v := ?_) rfl (by kernel_rfl) (by kernel_rfl) (by kernel_rfl) (fun _ _ _ h => h) (Or.inl ⟨by rfl, ?_⟩) hH0 ?_
    rotate_left
    · (intro v hSw; have k0 := hSw.b0.cell; go_simp; try with_reducible rfl)
    simp only [Act.put, List.setIfInBounds_toArray, List.set_cons_zero, List.set_cons_succ, List.getElem_toArray, List.getElem_cons_zero, List.getElem_cons_succ]
    refine wpAnyH_take (i := 7) (v := ?_) rfl (by kernel_rfl) (by kernel_rfl) (by kernel_rfl) (fun _ _ _ h => h) (Or.inl ⟨by rfl, ?_⟩) hH0 ?_
    rotate_left
    · (intro v hSw; have k0 := hSw.b0.cell; go_simp; try with_reducible rfl)
    simp only [Act.put, List.setIfInBounds_toArray, List.set_cons_zero, List.set_cons_succ, List.getElem_toArray, List.getElem_cons_zero, List.getElem_cons_succ]
    refine wpAnyH_take (i := 8) (v := ?_) rfl (by kernel_rfl) (by kernel_rfl) (by kernel_rfl) (fun _ _ _ h => h) (Or.inl ⟨by rfl, ?_⟩) hH0 ?_
    rotate_left
    · (intro v hSw; have k0 := hSw.b0.cell; go_simp; try with_reducible rfl)
    simp only [Act.put, List.setIfInBounds_toArray, List.set_cons_zero, List.set_cons_succ, List.getElem_toArray, List.getElem_cons_zero, List.getElem_cons_succ]
    refine wpAnyH_take (i := 9) (v := ?_) rfl (by kernel_rfl) (by kernel_rfl) (by kernel_rfl) (fun _ _ _ h => h) (Or.inl ⟨by rfl, ?_⟩) hH0 ?_
    rotate_left
    · (intro v hSw; have k0 := hSw.b0.cell; go_simp; try with_reducible rfl)
    simp only [Act.put, List.setIfInBounds_toArray, List.set_cons_zero, List.set_cons_succ, List.getElem_toArray, List.getElem_cons_zero, List.getElem_cons_succ]
    refine wpAnyH_take (i := 11) (v := ?_) rfl (by kernel_rfl) (by kernel_rfl) (by kernel_rfl) (fun _ _ _ h => h) (Or.inl ⟨by rfl, ?_⟩) hH0 ?_
    rotate_left
    · (intro v hSw; have k0 := hSw.b0.cell; go_simp; try with_reducible rfl)
    simp only [Act.put, List.setIfInBounds_toArray, List.set_cons_zero, List.set_cons_succ, List.getElem_toArray, List.getElem_cons_zero, List.getElem_cons_succ]
    refine wpAnyH_ready (rs := [10]) (by kernel_rfl) (by simp) ?_
    refine AllReadyH.cons rfl (fun K hK => ?_) AllReadyH.nil
    go_simp
    refine (HR.out _).mono ?_
    rintro e v1 ⟨rfl, hb⟩
    go_wp2_with fail
    refine hK.out _ _ (hH0.up hb) (fun hH1 => ?_)
    clear hK K hH0
    refine wpAnyH_ready (rs := [12]) (by kernel_rfl) (by simp) ?_
    refine AllReadyH.cons rfl (fun K hK => ?_) AllReadyH.nil
    go_simp
    refine (HS.out _).mono ?_
    rintro e v2 ⟨rfl, hb⟩
    go_wp2_with fail
    refine hK.out _ _ (hH1.up hb) (fun hH2 => ?_)
    clear hK K hH1
    refine wpAnyH_take (i := 13) (v := ?_) rfl (by kernel_rfl) (by kernel_rfl) (by kernel_rfl) (fun _ _ _ h => h) (Or.inl ⟨by rfl, ?_⟩) hH2 ?_
    rotate_left
    · (intro v hSw; have k0 := hSw.b0.cell; go_simp; try with_reducible rfl)
    simp only [Act.put, List.setIfInBounds_toArray, List.set_cons_zero, List.set_cons_succ, List.getElem_toArray, List.getElem_cons_zero, List.getElem_cons_succ]
    refine wpAnyH_take (i := 14) (v := ?_) rfl (by kernel_rfl) (by kernel_rfl) (by kernel_rfl) (fun _ _ _ h => h) (Or.inl ⟨by rfl, ?_⟩) hH2 ?_
    rotate_left
    · (intro v hSw; have k0 := hSw.b0.cell; go_simp; try with_reducible rfl)
    simp only [Act.put, List.setIfInBounds_toArray, List.set_cons_zero, List.set_cons_succ, List.getElem_toArray, List.getElem_cons_zero, List.getElem_cons_succ]
    refine wpAnyH_take (i := 15) (v := ?_) rfl (by kernel_rfl) (by kernel_rfl) (by kernel_rfl) (fun _ _ _ h => h) (Or.inl ⟨by rfl, ?_⟩) hH2 ?_
    rotate_left
    · (intro v hSw; have k0 := hSw.b0.cell; go_simp; try with_reducible rfl)
    simp only [Act.put, List.setIfInBounds_toArray, List.set_cons_zero, List.set_cons_succ, List.getElem_toArray, List.getElem_cons_zero, List.getElem_cons_succ]
    refine wpAnyH_done (by kernel_rfl) ?_ _
    go_wp2_with fail
    go_ret
    exact ⟨rfl, hH2.below⟩

set_option maxRecDepth 100000 in
set_option maxHeartbeats 16000000 in
theorem pdecodes_law (s0 : ByteArray) (g : Int) (w : World) (he : Etyp w) : Calls Tryd.prog 4 #[.string s0, .int .u64 g] w (Yes w) := by
  have HT := Lib.hid he; clear he
  by_cases hl : 500 < (s0.size : Int)
  · have H0 := Lib.hid (Held.refl w)
    go_enter Tryd.func4, Tryd.ntmps4
    go_wp2_with fail
    refine (palive_any _ (HT.out.up H0.out.below)).mono ?_
    rintro e w1 ⟨rfl, hb⟩
    have H1 := Lib.hid (H0.out.up hb)
    clear hb
    go_wp2_with fail
    go_ret
    exact ⟨rfl, H1.out.below⟩
  · have hs : (s0.size : Int) ≤ 3000 := by omega
    have hss : ((txt (sealed s0.data.toList)).size : Int) ≤ 3000 := by rw [txt_size, seal_length, ← size_len]; omega
    have h0 := fun w => rseal_any s0 w hs
    have h1 := fun w he => pdecode_any s0 w hs he
    have h2 := fun w => rpdecode_any s0 w hs
    have h3 := fun w he => pdecode_any (txt (sealed s0.data.toList)) w hss he
    have h4 := fun w => rpdecode_any (txt (sealed s0.data.toList)) w hss
    have h5 := fun w he => pread_any s0 g w hs he
    have h6 := fun w => rpread_any s0 g w hs
    generalize txt (sealed s0.data.toList) = y at *
    generalize decP s0 = x1 at *
    generalize decP y = x2 at *
    generalize readP s0 g = x3 at *
    obtain ⟨⟨k1, s1, ⟨n1, c1, b1, o1, p1, i1, r1, d1, q1, m1⟩, z1, t1⟩, f1⟩ := x1
    obtain ⟨⟨k2, s2, ⟨n2, c2, b2, o2, p2, i2, r2, d2, q2, m2⟩, z2, t2⟩, f2⟩ := x2
    obtain ⟨⟨k3, s3, ⟨n3, c3, b3, o3, p3, i3, r3, d3, q3, m3⟩, z3, t3⟩, f3⟩ := x3
    clear hs hss
    dsimp only [pktV] at *
    have K0 := Lib.hid h0; clear h0
    have K1 := Lib.hid h1; clear h1
    have K2 := Lib.hid h2; clear h2
    have K3 := Lib.hid h3; clear h3
    have K4 := Lib.hid h4; clear h4
    have K5 := Lib.hid h5; clear h5
    have K6 := Lib.hid h6; clear h6
    have e1 : (f1 == f1) = true := beq_self_eq_true f1
    have e2 : (f2 == f2) = true := beq_self_eq_true f2
    have e3 : (f3 == f3) = true := beq_self_eq_true f3
    have H0 := Lib.hid (Held.refl w)
    go_enter Tryd.func4, Tryd.ntmps4
    go_wp2_with fail
    refine (palive_any _ (HT.out.up H0.out.below)).mono ?_
    rintro e w1 ⟨rfl, hb⟩
    have H1 := Lib.hid (H0.out.up hb)
    clear hb
    go_wp2_with fail
    refine (K0.out _).mono ?_
    rintro e w2 ⟨rfl, hb⟩
    have H2 := Lib.hid (H1.out.up hb)
    clear hb
    go_wp2_with fail
    refine (K1.out _ (HT.out.up H2.out.below)).mono ?_
    rintro e w3 ⟨rfl, hb⟩
    have H3 := Lib.hid ((H2.out.up hb).lay [.int .i64 k1, .int .u64 s1, .int .i64 n1, .int .u64 c1, .int .u64 b1, .int .u64 o1, .int .u64 p1, .bool i1, .bool r1, .bool d1, .bool q1, .int .u32 (m1 : Int), .int .i64 z1, .string t1] 30)
    clear hb
    have k00 := H3.out.b0.cell
    go_wp2_with fail
    refine (K2.out _).mono ?_
    rintro e w4 ⟨rfl, hb⟩
    have H4 := Lib.hid ((H3.out.up hb).lay [.int .i64 k1, .int .u64 s1, .int .i64 n1, .int .u64 c1, .int .u64 b1, .int .u64 o1, .int .u64 p1, .bool i1, .bool r1, .bool d1, .bool q1, .int .u32 (m1 : Int), .int .i64 z1, .string t1] 30)
    clear hb k00
    have k00 := H4.out.b0.cell
    have k01 := H4.out.b1.cell
    go_wp2_with fail
    refine (K3.out _ (HT.out.up H4.out.below)).mono ?_
    rintro e w5 ⟨rfl, hb⟩
    have H5 := Lib.hid ((H4.out.up hb).lay [.int .i64 k2, .int .u64 s2, .int .i64 n2, .int .u64 c2, .int .u64 b2, .int .u64 o2, .int .u64 p2, .bool i2, .bool r2, .bool d2, .bool q2, .int .u32 (m2 : Int), .int .i64 z2, .string t2] 30)
    clear hb k00 k01
    have k00 := H5.out.b0.cell
    have k01 := H5.out.b1.cell
    have k02 := H5.out.b2.cell
    go_wp2_with fail
    refine (K4.out _).mono ?_
    rintro e w6 ⟨rfl, hb⟩
    have H6 := Lib.hid ((H5.out.up hb).lay [.int .i64 k2, .int .u64 s2, .int .i64 n2, .int .u64 c2, .int .u64 b2, .int .u64 o2, .int .u64 p2, .bool i2, .bool r2, .bool d2, .bool q2, .int .u32 (m2 : Int), .int .i64 z2, .string t2] 30)
    clear hb k00 k01 k02
    have k00 := H6.out.b0.cell
    have k01 := H6.out.b1.cell
    have k02 := H6.out.b2.cell
    have k03 := H6.out.b3.cell
    go_wp2_with fail
    refine (K5.out _ (HT.out.up H6.out.below)).mono ?_
    rintro e w7 ⟨rfl, hb⟩
    have H7 := Lib.hid ((H6.out.up hb).lay [.int .i64 k3, .int .u64 s3, .int .i64 n3, .int .u64 c3, .int .u64 b3, .int .u64 o3, .int .u64 p3, .bool i3, .bool r3, .bool d3, .bool q3, .int .u32 (m3 : Int), .int .i64 z3, .string t3] 30)
    clear hb k00 k01 k02 k03
    have k00 := H7.out.b0.cell
    have k01 := H7.out.b1.cell
    have k02 := H7.out.b2.cell
    have k03 := H7.out.b3.cell
    have k04 := H7.out.b4.cell
    go_wp2_with fail
    refine (K6.out _).mono ?_
    rintro e w8 ⟨rfl, hb⟩
    have H8 := Lib.hid ((H7.out.up hb).lay [.int .i64 k3, .int .u64 s3, .int .i64 n3, .int .u64 c3, .int .u64 b3, .int .u64 o3, .int .u64 p3, .bool i3, .bool r3, .bool d3, .bool q3, .int .u32 (m3 : Int), .int .i64 z3, .string t3] 30)
    clear hb k00 k01 k02 k03 k04
    have k00 := H8.out.b0.cell
    have k01 := H8.out.b1.cell
    have k02 := H8.out.b2.cell
    have k03 := H8.out.b3.cell
    have k04 := H8.out.b4.cell
    have k05 := H8.out.b5.cell
    go_wp2_with fail
    go_ret
    exact ⟨rfl, H8.out.below⟩

end Go.Proofs.YtbbcncofdhhflaaDoor
