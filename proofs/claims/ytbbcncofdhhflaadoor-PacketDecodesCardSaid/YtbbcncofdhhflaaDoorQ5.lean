/- What the reference's Decode answers to any text, case by case. No condition. -/
import Derived.Test.YtbbcncofdhhflaaDoorQ4
namespace Go.Proofs.YtbbcncofdhhflaaDoor
open Go.RowKit

theorem rget64_b (s : ByteArray) (w : World) (h0 : s.size = 8) :
    Calls Tryd.prog 31 #[.string s] w fun e w' => e = .returned (.tuple #[.int .u64 (val s.data.toList), .bool true]) ∧ Below w.heap.size w w' := by
  refine (rget64_yes s w h0).mono ?_
  rintro e w' ⟨rfl, rfl⟩
  exact ⟨rfl, Below.refl _ _⟩

set_option maxHeartbeats 1000000 in
theorem rgen0 (t : ByteArray) (w : World) (hl : (t.size : Int) = 38) :
    Calls Tryd.prog 49 #[.string t, .int .i64 2] w fun e w' => e = .returned (.int .u64 (num8 t.data.toList 2)) ∧ Below w.heap.size w w' := by
  have g := extract_num8 t 2
  have z := extract8 t 2 (by omega)
  have G := Lib.hid g; clear g
  have Z := Lib.hid z; clear z
  generalize num8 t.data.toList 2 = x at *
  go_enter Tryd.func49, Tryd.ntmps49
  go_wp2_with fail
  refine (rget64_b _ _ Z.out).mono ?_
  rintro e w1 ⟨rfl, hb⟩
  rw [G.out]
  go_wp2_with fail
  go_ret
  exact ⟨rfl, hb⟩

set_option maxHeartbeats 1000000 in
theorem rgen1 (t : ByteArray) (w : World) (hl : (t.size : Int) = 38) :
    Calls Tryd.prog 49 #[.string t, .int .i64 10] w fun e w' => e = .returned (.int .u64 (num8 t.data.toList 10)) ∧ Below w.heap.size w w' := by
  have g := extract_num8 t 10
  have z := extract8 t 10 (by omega)
  have G := Lib.hid g; clear g
  have Z := Lib.hid z; clear z
  generalize num8 t.data.toList 10 = x at *
  go_enter Tryd.func49, Tryd.ntmps49
  go_wp2_with fail
  refine (rget64_b _ _ Z.out).mono ?_
  rintro e w1 ⟨rfl, hb⟩
  rw [G.out]
  go_wp2_with fail
  go_ret
  exact ⟨rfl, hb⟩

set_option maxHeartbeats 1000000 in
theorem rgen2 (t : ByteArray) (w : World) (hl : (t.size : Int) = 38) :
    Calls Tryd.prog 49 #[.string t, .int .i64 18] w fun e w' => e = .returned (.int .u64 (num8 t.data.toList 18)) ∧ Below w.heap.size w w' := by
  have g := extract_num8 t 18
  have z := extract8 t 18 (by omega)
  have G := Lib.hid g; clear g
  have Z := Lib.hid z; clear z
  generalize num8 t.data.toList 18 = x at *
  go_enter Tryd.func49, Tryd.ntmps49
  go_wp2_with fail
  refine (rget64_b _ _ Z.out).mono ?_
  rintro e w1 ⟨rfl, hb⟩
  rw [G.out]
  go_wp2_with fail
  go_ret
  exact ⟨rfl, hb⟩

set_option maxHeartbeats 1000000 in
theorem rgen3 (t : ByteArray) (w : World) (hl : (t.size : Int) = 38) :
    Calls Tryd.prog 49 #[.string t, .int .i64 26] w fun e w' => e = .returned (.int .u64 (num8 t.data.toList 26)) ∧ Below w.heap.size w w' := by
  have g := extract_num8 t 26
  have z := extract8 t 26 (by omega)
  have G := Lib.hid g; clear g
  have Z := Lib.hid z; clear z
  generalize num8 t.data.toList 26 = x at *
  go_enter Tryd.func49, Tryd.ntmps49
  go_wp2_with fail
  refine (rget64_b _ _ Z.out).mono ?_
  rintro e w1 ⟨rfl, hb⟩
  rw [G.out]
  go_wp2_with fail
  go_ret
  exact ⟨rfl, hb⟩

section
variable (t : ByteArray) (w : World)

set_option maxRecDepth 100000 in
set_option maxHeartbeats 8000000 in
theorem rhdec_len (hl : t.size ≠ 38) :
    Calls Tryd.prog 32 #[.string t] w fun e w' => e = .returned (.tuple #[helV Hel.zero, .int .i64 2]) ∧ Below w.heap.size w w' := by
  have hl' : ((t.size : Int) != 38) = true := by rw [bne_iff_ne]; omega
  clear hl
  go_enter Tryd.func32, Tryd.ntmps32
  go_wp2_with fail
  refine bodyPost_ret (v := .tuple #[.agg #[.int .i64 0, .int .u64 0, .int .u64 0, .int .u64 0, .int .u64 0, .bool false, .bool false, .bool false, .bool false, .int .u32 0], .int .i64 2]) (by simp [results, Tryd.results32, go_sem]) rfl ⟨rfl, below1⟩

set_option maxRecDepth 100000 in
set_option maxHeartbeats 8000000 in
theorem rhdec_flags (hl : (t.size : Int) = 38) (h8 : 16 ≤ (t[1]'(by omega)).toNat) :
    Calls Tryd.prog 32 #[.string t] w fun e w' => e = .returned (.tuple #[helV Hel.zero, .int .i64 2]) ∧ Below w.heap.size w w' := by
  have hl' : ((t.size : Int) != 38) = false := by rw [bne_eq_false_iff_eq]; exact hl
  have h8' : (15 : Int) < ((t[1].toNat : Nat) : Int) := by omega
  clear h8
  go_enter Tryd.func32, Tryd.ntmps32
  go_wp2_with fail
  refine bodyPost_ret (v := .tuple #[.agg #[.int .i64 0, .int .u64 0, .int .u64 0, .int .u64 0, .int .u64 0, .bool false, .bool false, .bool false, .bool false, .int .u32 0], .int .i64 2]) (by simp [results, Tryd.results32, go_sem]) rfl ⟨rfl, below1⟩

set_option maxRecDepth 100000 in
set_option maxHeartbeats 8000000 in
theorem rhdec_wrong (hl : (t.size : Int) = 38) (h8 : (t[1]'(by omega)).toNat < 16)
    (hr : (⟨((t[0]'(by omega)).toNat : Int), num8 t.data.toList 2, num8 t.data.toList 10, num8 t.data.toList 18, num8 t.data.toList 26, decide ((t[1]'(by omega)).toNat % 2 = 1), decide ((t[1]'(by omega)).toNat / 2 % 2 = 1), decide ((t[1]'(by omega)).toNat / 2 / 2 % 2 = 1), decide ((t[1]'(by omega)).toNat / 2 / 2 / 2 % 2 = 1), val (t.data.toList.drop 34)⟩ : Hel).right = false) :
    Calls Tryd.prog 32 #[.string t] w fun e w' => e = .returned (.tuple #[helV Hel.zero, .int .i64 2]) ∧ Below w.heap.size w w' := by
  have hl' : ((t.size : Int) != 38) = false := by rw [bne_eq_false_iff_eq]; exact hl
  have h8' : ¬ ((15 : Int) < ((t[1].toNat : Nat) : Int)) := by omega
  have hun := fun w => runflag4 t[1].toNat w h8
  have hgm := fun w => rget32_b t w hl
  have hg0 := fun w => rgen0 t w hl
  have hg1 := fun w => rgen1 t w hl
  have hg2 := fun w => rgen2 t w hl
  have hg3 := fun w => rgen3 t w hl
  have hsr := fun w => rhright_any (⟨((t[0]'(by omega)).toNat : Int), num8 t.data.toList 2, num8 t.data.toList 10, num8 t.data.toList 18, num8 t.data.toList 26, decide ((t[1]'(by omega)).toNat % 2 = 1), decide ((t[1]'(by omega)).toNat / 2 % 2 = 1), decide ((t[1]'(by omega)).toNat / 2 / 2 % 2 = 1), decide ((t[1]'(by omega)).toNat / 2 / 2 / 2 % 2 = 1), val (t.data.toList.drop 34)⟩ : Hel) w (tail_lt t hl)
  rw [hr] at hsr
  clear hr h8
  dsimp only [helV] at *
  generalize num8 t.data.toList 2 = c at *
  generalize num8 t.data.toList 10 = b at *
  generalize num8 t.data.toList 18 = o at *
  generalize num8 t.data.toList 26 = p at *
  generalize decide (t[1].toNat % 2 = 1) = b0 at *
  generalize decide (t[1].toNat / 2 % 2 = 1) = b1 at *
  generalize decide (t[1].toNat / 2 / 2 % 2 = 1) = b2 at *
  generalize decide (t[1].toNat / 2 / 2 / 2 % 2 = 1) = b3 at *
  generalize val (t.data.toList.drop 34) = m at *
  have HU := Lib.hid hun; clear hun
  have HM := Lib.hid hgm; clear hgm
  have HSR := Lib.hid hsr; clear hsr
  have HG0 := Lib.hid hg0; clear hg0
  have HG1 := Lib.hid hg1; clear hg1
  have HG2 := Lib.hid hg2; clear hg2
  have HG3 := Lib.hid hg3; clear hg3
  have H0 := Lib.hid ((Held.refl w).own (helC Hel.zero) 28 (n := 10) rfl)
  go_enter Tryd.func32, Tryd.ntmps32
  go_wp2_with fail
  refine (HU.out _).mono ?_
  rintro e w2 ⟨g, cp, rfl, hcp, hg0, hk0, hk1, hk2, hk3, hb⟩
  have H2 := Lib.hid (H0.out.up hb)
  clear hb H0
  have hkeep : ∀ w', Below w2.heap.size w2 w' → w'.cell? g = some (.bool b0) ∧ w'.cell? ⟨g.block, g.off + 1, none⟩ = some (.bool b1) ∧ w'.cell? ⟨g.block, g.off + 2, none⟩ = some (.bool b2) ∧ w'.cell? ⟨g.block, g.off + 3, none⟩ = some (.bool b3) := fun w' hb =>
    ⟨(hb.cell (p := g) hg0).trans hk0, (hb.cell (p := ⟨g.block, g.off + 1, none⟩) hg0).trans hk1, (hb.cell (p := ⟨g.block, g.off + 2, none⟩) hg0).trans hk2, (hb.cell (p := ⟨g.block, g.off + 3, none⟩) hg0).trans hk3⟩
  have HK := Lib.hid hkeep; clear hkeep hk0 hk1 hk2 hk3 hg0
  go_wp2_with fail
  refine (HM.out _).mono ?_
  rintro e w3 ⟨rfl, hb⟩
  have G3 := Lib.hid ((Held.refl w2).up hb)
  clear hb
  go_wp2_with fail
  have hw0 : IntKind.i64.wrap ((t[0].toNat : Nat) : Int) = ((t[0].toNat : Nat) : Int) := IntWalk.i64_in _ (by have := byte_lt t[0]; omega)
  refine held_begin (by kernel_rfl) G3.out (fun v0 hH0 => ?_)
  refine wpAnyH_take (i := 0) (v := ?_) rfl (by kernel_rfl) (by kernel_rfl) (by kernel_rfl) (fun _ _ _ h => h) (Or.inl ⟨by rfl, ?_⟩) hH0 ?_
  rotate_left
  · (intro v hSw; go_simp; try with_reducible rfl)
  simp only [Act.put, List.setIfInBounds_toArray, List.set_cons_zero, List.set_cons_succ, List.getElem_toArray, List.getElem_cons_zero]
  refine wpAnyH_take (i := 1) (v := ?_) rfl (by kernel_rfl) (by kernel_rfl) (by kernel_rfl) (fun _ _ _ h => h) (Or.inl ⟨by rfl, ?_⟩) hH0 ?_
  rotate_left
  · (intro v hSw; go_simp; try with_reducible rfl)
  simp only [Act.put, List.setIfInBounds_toArray, List.set_cons_zero, List.set_cons_succ, List.getElem_toArray, List.getElem_cons_zero, List.getElem_cons_succ]
  refine wpAnyH_take (i := 2) (v := ?_) rfl (by kernel_rfl) (by kernel_rfl) (by kernel_rfl) (fun _ _ _ h => h) (Or.inl ⟨by rfl, ?_⟩) hH0 ?_
  rotate_left
  · (intro v hSw; go_simp; try with_reducible rfl)
  simp only [Act.put, List.setIfInBounds_toArray, List.set_cons_zero, List.set_cons_succ, List.getElem_toArray, List.getElem_cons_zero, List.getElem_cons_succ]
  refine wpAnyH_take (i := 3) (v := ?_) rfl (by kernel_rfl) (by kernel_rfl) (by kernel_rfl) (fun _ _ _ h => h) (Or.inl ⟨by rfl, ?_⟩) hH0 ?_
  rotate_left
  · (intro v hSw; go_simp; try with_reducible rfl)
  simp only [Act.put, List.setIfInBounds_toArray, List.set_cons_zero, List.set_cons_succ, List.getElem_toArray, List.getElem_cons_zero, List.getElem_cons_succ]
  refine wpAnyH_take (i := 4) (v := ?_) rfl (by kernel_rfl) (by kernel_rfl) (by kernel_rfl) (fun _ _ _ h => h) (Or.inl ⟨by rfl, ?_⟩) hH0 ?_
  rotate_left
  · (intro v hSw; go_simp; try with_reducible rfl)
  simp only [Act.put, List.setIfInBounds_toArray, List.set_cons_zero, List.set_cons_succ, List.getElem_toArray, List.getElem_cons_zero, List.getElem_cons_succ]
  refine wpAnyH_take (i := 5) (v := ?_) rfl (by kernel_rfl) (by kernel_rfl) (by kernel_rfl) (fun _ _ _ h => h) (Or.inl ⟨by rfl, ?_⟩) hH0 ?_
  rotate_left
  · (intro v hSw; obtain ⟨k0, k1, k2, k3⟩ := HK.out _ hSw.below; go_simp; try with_reducible rfl)
  simp only [Act.put, List.setIfInBounds_toArray, List.set_cons_zero, List.set_cons_succ, List.getElem_toArray, List.getElem_cons_zero, List.getElem_cons_succ]
  refine wpAnyH_take (i := 6) (v := ?_) rfl (by kernel_rfl) (by kernel_rfl) (by kernel_rfl) (fun _ _ _ h => h) (Or.inl ⟨by rfl, ?_⟩) hH0 ?_
  rotate_left
  · (intro v hSw; go_simp; try with_reducible rfl)
  simp only [Act.put, List.setIfInBounds_toArray, List.set_cons_zero, List.set_cons_succ, List.getElem_toArray, List.getElem_cons_zero, List.getElem_cons_succ]
  refine wpAnyH_take (i := 7) (v := ?_) rfl (by kernel_rfl) (by kernel_rfl) (by kernel_rfl) (fun _ _ _ h => h) (Or.inl ⟨by rfl, ?_⟩) hH0 ?_
  rotate_left
  · (intro v hSw; go_simp; try with_reducible rfl)
  simp only [Act.put, List.setIfInBounds_toArray, List.set_cons_zero, List.set_cons_succ, List.getElem_toArray, List.getElem_cons_zero, List.getElem_cons_succ]
  refine wpAnyH_take (i := 8) (v := ?_) rfl (by kernel_rfl) (by kernel_rfl) (by kernel_rfl) (fun _ _ _ h => h) (Or.inl ⟨by rfl, ?_⟩) hH0 ?_
  rotate_left
  · (intro v hSw; obtain ⟨k0, k1, k2, k3⟩ := HK.out _ hSw.below; go_simp; try with_reducible rfl)
  simp only [Act.put, List.setIfInBounds_toArray, List.set_cons_zero, List.set_cons_succ, List.getElem_toArray, List.getElem_cons_zero, List.getElem_cons_succ]
  refine wpAnyH_take (i := 9) (v := ?_) rfl (by kernel_rfl) (by kernel_rfl) (by kernel_rfl) (fun _ _ _ h => h) (Or.inl ⟨by rfl, ?_⟩) hH0 ?_
  rotate_left
  · (intro v hSw; go_simp; try with_reducible rfl)
  simp only [Act.put, List.setIfInBounds_toArray, List.set_cons_zero, List.set_cons_succ, List.getElem_toArray, List.getElem_cons_zero, List.getElem_cons_succ]
  refine wpAnyH_take (i := 10) (v := ?_) rfl (by kernel_rfl) (by kernel_rfl) (by kernel_rfl) (fun _ _ _ h => h) (Or.inl ⟨by rfl, ?_⟩) hH0 ?_
  rotate_left
  · (intro v hSw; go_simp; try with_reducible rfl)
  simp only [Act.put, List.setIfInBounds_toArray, List.set_cons_zero, List.set_cons_succ, List.getElem_toArray, List.getElem_cons_zero, List.getElem_cons_succ]
  refine wpAnyH_take (i := 11) (v := ?_) rfl (by kernel_rfl) (by kernel_rfl) (by kernel_rfl) (fun _ _ _ h => h) (Or.inl ⟨by rfl, ?_⟩) hH0 ?_
  rotate_left
  · (intro v hSw; obtain ⟨k0, k1, k2, k3⟩ := HK.out _ hSw.below; go_simp; try with_reducible rfl)
  simp only [Act.put, List.setIfInBounds_toArray, List.set_cons_zero, List.set_cons_succ, List.getElem_toArray, List.getElem_cons_zero, List.getElem_cons_succ]
  refine wpAnyH_take (i := 12) (v := ?_) rfl (by kernel_rfl) (by kernel_rfl) (by kernel_rfl) (fun _ _ _ h => h) (Or.inl ⟨by rfl, ?_⟩) hH0 ?_
  rotate_left
  · (intro v hSw; go_simp; try with_reducible rfl)
  simp only [Act.put, List.setIfInBounds_toArray, List.set_cons_zero, List.set_cons_succ, List.getElem_toArray, List.getElem_cons_zero, List.getElem_cons_succ]
  refine wpAnyH_take (i := 13) (v := ?_) rfl (by kernel_rfl) (by kernel_rfl) (by kernel_rfl) (fun _ _ _ h => h) (Or.inl ⟨by rfl, ?_⟩) hH0 ?_
  rotate_left
  · (intro v hSw; go_simp; try with_reducible rfl)
  simp only [Act.put, List.setIfInBounds_toArray, List.set_cons_zero, List.set_cons_succ, List.getElem_toArray, List.getElem_cons_zero, List.getElem_cons_succ]
  refine wpAnyH_take (i := 14) (v := ?_) rfl (by kernel_rfl) (by kernel_rfl) (by kernel_rfl) (fun _ _ _ h => h) (Or.inl ⟨by rfl, ?_⟩) hH0 ?_
  rotate_left
  · (intro v hSw; obtain ⟨k0, k1, k2, k3⟩ := HK.out _ hSw.below; go_simp; try with_reducible rfl)
  simp only [Act.put, List.setIfInBounds_toArray, List.set_cons_zero, List.set_cons_succ, List.getElem_toArray, List.getElem_cons_zero, List.getElem_cons_succ]
  refine wpAnyH_take (i := 15) (v := ?_) rfl (by kernel_rfl) (by kernel_rfl) (by kernel_rfl) (fun _ _ _ h => h) (Or.inl ⟨by rfl, ?_⟩) hH0 ?_
  rotate_left
  · (intro v hSw; go_simp; try with_reducible rfl)
  simp only [Act.put, List.setIfInBounds_toArray, List.set_cons_zero, List.set_cons_succ, List.getElem_toArray, List.getElem_cons_zero, List.getElem_cons_succ]
  refine wpAnyH_take (i := 16) (v := ?_) rfl (by kernel_rfl) (by kernel_rfl) (by kernel_rfl) (fun _ _ _ h => h) (Or.inl ⟨by rfl, ?_⟩) hH0 ?_
  rotate_left
  · (intro v hSw; go_simp; try with_reducible rfl)
  simp only [Act.put, List.setIfInBounds_toArray, List.set_cons_zero, List.set_cons_succ, List.getElem_toArray, List.getElem_cons_zero, List.getElem_cons_succ]
  refine wpAnyH_ready (rs := [17]) (by kernel_rfl) (by simp) ?_
  refine AllReadyH.cons rfl (fun K hK => ?_) AllReadyH.nil
  go_simp
  refine hK.out _ _ (hH0.alloc _) (fun hX => ?_)
  refine laid_own hH0 (n := 10) rfl (fun v1 hH1 => ?_)
  clear hK K hX hH0
  refine wpAnyH_ready (rs := [18]) (by kernel_rfl) (by simp) ?_
  refine AllReadyH.cons rfl (fun K hK => ?_) AllReadyH.nil
  obtain ⟨u0, u1, u2, u3, u4, u5, u6, u7, u8, u9, hx⟩ := hH1.o0.ten
  have kx := hx.cell
  have fx := hx.frozen
  go_simp
  refine hK.out _ _ (hH1.set10 ⟨10, by simp⟩ _ _ _ _ _ _ _ _ _ _) (fun hX => ?_)
  refine stored10 hH1 ⟨10, by simp⟩ hx (fun v2 hH2 hy => ?_)
  clear hK K hX hH1 hx kx fx
  refine wpAnyH_done (by kernel_rfl) ?_ _
  have HY := Lib.hid hy
  have H3 := Lib.hid (H2.out.join hH2)
  clear hH2 hy
  go_wp2_with fail
  refine (HG0.out _).mono ?_
  rintro e w4 ⟨rfl, hb⟩
  have H4 := Lib.hid (H3.out.up hb)
  have hy := HY.out.below hb
  clear HY
  have HY := Lib.hid hy
  clear hb hy H3
  go_wp2_with fail
  refine (HG1.out _).mono ?_
  rintro e w5 ⟨rfl, hb⟩
  have H5 := Lib.hid (H4.out.up hb)
  have hy := HY.out.below hb
  clear HY
  have HY := Lib.hid hy
  clear hb hy H4
  go_wp2_with fail
  refine (HG2.out _).mono ?_
  rintro e w6 ⟨rfl, hb⟩
  have H6 := Lib.hid (H5.out.up hb)
  have hy := HY.out.below hb
  clear HY
  have HY := Lib.hid hy
  clear hb hy H5
  go_wp2_with fail
  refine (HG3.out _).mono ?_
  rintro e w7 ⟨rfl, hb⟩
  have H7 := Lib.hid (H6.out.up hb)
  have hy := HY.out.below hb
  clear HY
  have HY := Lib.hid hy
  clear hb hy H6
  have hy := HY.out
  have H8 := Lib.hid ((((H7.out.set (b := _) ⟨10, List.mem_cons_self⟩ 1 (.int .u64 c)).set (b := _) ⟨10, List.mem_cons_self⟩ 2 (.int .u64 b)).set (b := _) ⟨10, List.mem_cons_self⟩ 3 (.int .u64 o)).set (b := _) ⟨10, List.mem_cons_self⟩ 4 (.int .u64 p))
  have hz := (((hy.set 1 (.int .u64 c)).set 2 (.int .u64 b)).set 3 (.int .u64 o)).set 4 (.int .u64 p)
  simp only [List.set_cons_zero, List.set_cons_succ] at hz
  have HZ := Lib.hid hz; clear hz
  have k := hy.cell
  have f := hy.frozen
  clear hy HY H7
  go_wp2_with fail
  generalize ((((w7.setCell ⟨_, 1, none⟩ (.int .u64 c)).setCell ⟨_, 2, none⟩ (.int .u64 b)).setCell ⟨_, 3, none⟩ (.int .u64 o)).setCell ⟨_, 4, none⟩ (.int .u64 p)) = w8 at *
  clear k f
  have k := HZ.out.cell
  go_wp2_with fail
  refine (HSR.out _).mono ?_
  rintro e w9 ⟨rfl, hb⟩
  have H9a := H8.out.up hb
  have kq := (HZ.out.below hb).cell
  clear hb k H8
  clear kq
  obtain ⟨u0, u1, u2, u3, u4, u5, u6, u7, u8, u9, hx⟩ := (H9a.owns (w.heap.size, 10) (by simp)).ten
  have kk := hx.cell
  have ff := hx.frozen
  have HX := Lib.hid hx; clear hx
  go_wp2_with fail
  have hz := HX.out.ten (.int .i64 0) (.int .u64 0) (.int .u64 0) (.int .u64 0) (.int .u64 0) (.bool false) (.bool false) (.bool false) (.bool false) (.int .u32 0)
  have H9 := H9a.set10 (b := w.heap.size) ⟨10, by simp⟩ (.int .i64 0) (.int .u64 0) (.int .u64 0) (.int .u64 0) (.int .u64 0) (.bool false) (.bool false) (.bool false) (.bool false) (.int .u32 0)
  generalize ((((((((((w9.setCell ⟨w.heap.size, 0, none⟩ (.int .i64 0)).setCell ⟨w.heap.size, 1, none⟩ (.int .u64 0)).setCell ⟨w.heap.size, 2, none⟩ (.int .u64 0)).setCell ⟨w.heap.size, 3, none⟩ (.int .u64 0)).setCell ⟨w.heap.size, 4, none⟩ (.int .u64 0)).setCell ⟨w.heap.size, 5, none⟩ (.bool false)).setCell ⟨w.heap.size, 6, none⟩ (.bool false)).setCell ⟨w.heap.size, 7, none⟩ (.bool false)).setCell ⟨w.heap.size, 8, none⟩ (.bool false)).setCell ⟨w.heap.size, 9, none⟩ (.int .u32 0)) = w10 at *
  have kz := hz.cell
  refine bodyPost_ret (v := .tuple #[.agg #[.int .i64 0, .int .u64 0, .int .u64 0, .int .u64 0, .int .u64 0, .bool false, .bool false, .bool false, .bool false, .int .u32 0], .int .i64 2]) (by simp [results, Tryd.results32, go_sem, kz]) rfl ⟨rfl, H9.below⟩

set_option maxRecDepth 100000 in
set_option maxHeartbeats 8000000 in
theorem rhdec_ok (hl : (t.size : Int) = 38) (h8 : (t[1]'(by omega)).toNat < 16)
    (hr : (⟨((t[0]'(by omega)).toNat : Int), num8 t.data.toList 2, num8 t.data.toList 10, num8 t.data.toList 18, num8 t.data.toList 26, decide ((t[1]'(by omega)).toNat % 2 = 1), decide ((t[1]'(by omega)).toNat / 2 % 2 = 1), decide ((t[1]'(by omega)).toNat / 2 / 2 % 2 = 1), decide ((t[1]'(by omega)).toNat / 2 / 2 / 2 % 2 = 1), val (t.data.toList.drop 34)⟩ : Hel).right = true) :
    Calls Tryd.prog 32 #[.string t] w fun e w' => e = .returned (.tuple #[helV (⟨((t[0]'(by omega)).toNat : Int), num8 t.data.toList 2, num8 t.data.toList 10, num8 t.data.toList 18, num8 t.data.toList 26, decide ((t[1]'(by omega)).toNat % 2 = 1), decide ((t[1]'(by omega)).toNat / 2 % 2 = 1), decide ((t[1]'(by omega)).toNat / 2 / 2 % 2 = 1), decide ((t[1]'(by omega)).toNat / 2 / 2 / 2 % 2 = 1), val (t.data.toList.drop 34)⟩ : Hel), .int .i64 0]) ∧ Below w.heap.size w w' := by
  have hl' : ((t.size : Int) != 38) = false := by rw [bne_eq_false_iff_eq]; exact hl
  have h8' : ¬ ((15 : Int) < ((t[1].toNat : Nat) : Int)) := by omega
  have hun := fun w => runflag4 t[1].toNat w h8
  have hgm := fun w => rget32_b t w hl
  have hg0 := fun w => rgen0 t w hl
  have hg1 := fun w => rgen1 t w hl
  have hg2 := fun w => rgen2 t w hl
  have hg3 := fun w => rgen3 t w hl
  have hsr := fun w => rhright_any (⟨((t[0]'(by omega)).toNat : Int), num8 t.data.toList 2, num8 t.data.toList 10, num8 t.data.toList 18, num8 t.data.toList 26, decide ((t[1]'(by omega)).toNat % 2 = 1), decide ((t[1]'(by omega)).toNat / 2 % 2 = 1), decide ((t[1]'(by omega)).toNat / 2 / 2 % 2 = 1), decide ((t[1]'(by omega)).toNat / 2 / 2 / 2 % 2 = 1), val (t.data.toList.drop 34)⟩ : Hel) w (tail_lt t hl)
  rw [hr] at hsr
  clear hr h8
  dsimp only [helV] at *
  generalize num8 t.data.toList 2 = c at *
  generalize num8 t.data.toList 10 = b at *
  generalize num8 t.data.toList 18 = o at *
  generalize num8 t.data.toList 26 = p at *
  generalize decide (t[1].toNat % 2 = 1) = b0 at *
  generalize decide (t[1].toNat / 2 % 2 = 1) = b1 at *
  generalize decide (t[1].toNat / 2 / 2 % 2 = 1) = b2 at *
  generalize decide (t[1].toNat / 2 / 2 / 2 % 2 = 1) = b3 at *
  generalize val (t.data.toList.drop 34) = m at *
  have HU := Lib.hid hun; clear hun
  have HM := Lib.hid hgm; clear hgm
  have HSR := Lib.hid hsr; clear hsr
  have HG0 := Lib.hid hg0; clear hg0
  have HG1 := Lib.hid hg1; clear hg1
  have HG2 := Lib.hid hg2; clear hg2
  have HG3 := Lib.hid hg3; clear hg3
  have H0 := Lib.hid ((Held.refl w).own (helC Hel.zero) 28 (n := 10) rfl)
  go_enter Tryd.func32, Tryd.ntmps32
  go_wp2_with fail
  refine (HU.out _).mono ?_
  rintro e w2 ⟨g, cp, rfl, hcp, hg0, hk0, hk1, hk2, hk3, hb⟩
  have H2 := Lib.hid (H0.out.up hb)
  clear hb H0
  have hkeep : ∀ w', Below w2.heap.size w2 w' → w'.cell? g = some (.bool b0) ∧ w'.cell? ⟨g.block, g.off + 1, none⟩ = some (.bool b1) ∧ w'.cell? ⟨g.block, g.off + 2, none⟩ = some (.bool b2) ∧ w'.cell? ⟨g.block, g.off + 3, none⟩ = some (.bool b3) := fun w' hb =>
    ⟨(hb.cell (p := g) hg0).trans hk0, (hb.cell (p := ⟨g.block, g.off + 1, none⟩) hg0).trans hk1, (hb.cell (p := ⟨g.block, g.off + 2, none⟩) hg0).trans hk2, (hb.cell (p := ⟨g.block, g.off + 3, none⟩) hg0).trans hk3⟩
  have HK := Lib.hid hkeep; clear hkeep hk0 hk1 hk2 hk3 hg0
  go_wp2_with fail
  refine (HM.out _).mono ?_
  rintro e w3 ⟨rfl, hb⟩
  have G3 := Lib.hid ((Held.refl w2).up hb)
  clear hb
  go_wp2_with fail
  have hw0 : IntKind.i64.wrap ((t[0].toNat : Nat) : Int) = ((t[0].toNat : Nat) : Int) := IntWalk.i64_in _ (by have := byte_lt t[0]; omega)
  refine held_begin (by kernel_rfl) G3.out (fun v0 hH0 => ?_)
  refine wpAnyH_take (i := 0) (v := ?_) rfl (by kernel_rfl) (by kernel_rfl) (by kernel_rfl) (fun _ _ _ h => h) (Or.inl ⟨by rfl, ?_⟩) hH0 ?_
  rotate_left
  · (intro v hSw; go_simp; try with_reducible rfl)
  simp only [Act.put, List.setIfInBounds_toArray, List.set_cons_zero, List.set_cons_succ, List.getElem_toArray, List.getElem_cons_zero]
  refine wpAnyH_take (i := 1) (v := ?_) rfl (by kernel_rfl) (by kernel_rfl) (by kernel_rfl) (fun _ _ _ h => h) (Or.inl ⟨by rfl, ?_⟩) hH0 ?_
  rotate_left
  · (intro v hSw; go_simp; try with_reducible rfl)
  simp only [Act.put, List.setIfInBounds_toArray, List.set_cons_zero, List.set_cons_succ, List.getElem_toArray, List.getElem_cons_zero, List.getElem_cons_succ]
  refine wpAnyH_take (i := 2) (v := ?_) rfl (by kernel_rfl) (by kernel_rfl) (by kernel_rfl) (fun _ _ _ h => h) (Or.inl ⟨by rfl, ?_⟩) hH0 ?_
  rotate_left
  · (intro v hSw; go_simp; try with_reducible rfl)
  simp only [Act.put, List.setIfInBounds_toArray, List.set_cons_zero, List.set_cons_succ, List.getElem_toArray, List.getElem_cons_zero, List.getElem_cons_succ]
  refine wpAnyH_take (i := 3) (v := ?_) rfl (by kernel_rfl) (by kernel_rfl) (by kernel_rfl) (fun _ _ _ h => h) (Or.inl ⟨by rfl, ?_⟩) hH0 ?_
  rotate_left
  · (intro v hSw; go_simp; try with_reducible rfl)
  simp only [Act.put, List.setIfInBounds_toArray, List.set_cons_zero, List.set_cons_succ, List.getElem_toArray, List.getElem_cons_zero, List.getElem_cons_succ]
  refine wpAnyH_take (i := 4) (v := ?_) rfl (by kernel_rfl) (by kernel_rfl) (by kernel_rfl) (fun _ _ _ h => h) (Or.inl ⟨by rfl, ?_⟩) hH0 ?_
  rotate_left
  · (intro v hSw; go_simp; try with_reducible rfl)
  simp only [Act.put, List.setIfInBounds_toArray, List.set_cons_zero, List.set_cons_succ, List.getElem_toArray, List.getElem_cons_zero, List.getElem_cons_succ]
  refine wpAnyH_take (i := 5) (v := ?_) rfl (by kernel_rfl) (by kernel_rfl) (by kernel_rfl) (fun _ _ _ h => h) (Or.inl ⟨by rfl, ?_⟩) hH0 ?_
  rotate_left
  · (intro v hSw; obtain ⟨k0, k1, k2, k3⟩ := HK.out _ hSw.below; go_simp; try with_reducible rfl)
  simp only [Act.put, List.setIfInBounds_toArray, List.set_cons_zero, List.set_cons_succ, List.getElem_toArray, List.getElem_cons_zero, List.getElem_cons_succ]
  refine wpAnyH_take (i := 6) (v := ?_) rfl (by kernel_rfl) (by kernel_rfl) (by kernel_rfl) (fun _ _ _ h => h) (Or.inl ⟨by rfl, ?_⟩) hH0 ?_
  rotate_left
  · (intro v hSw; go_simp; try with_reducible rfl)
  simp only [Act.put, List.setIfInBounds_toArray, List.set_cons_zero, List.set_cons_succ, List.getElem_toArray, List.getElem_cons_zero, List.getElem_cons_succ]
  refine wpAnyH_take (i := 7) (v := ?_) rfl (by kernel_rfl) (by kernel_rfl) (by kernel_rfl) (fun _ _ _ h => h) (Or.inl ⟨by rfl, ?_⟩) hH0 ?_
  rotate_left
  · (intro v hSw; go_simp; try with_reducible rfl)
  simp only [Act.put, List.setIfInBounds_toArray, List.set_cons_zero, List.set_cons_succ, List.getElem_toArray, List.getElem_cons_zero, List.getElem_cons_succ]
  refine wpAnyH_take (i := 8) (v := ?_) rfl (by kernel_rfl) (by kernel_rfl) (by kernel_rfl) (fun _ _ _ h => h) (Or.inl ⟨by rfl, ?_⟩) hH0 ?_
  rotate_left
  · (intro v hSw; obtain ⟨k0, k1, k2, k3⟩ := HK.out _ hSw.below; go_simp; try with_reducible rfl)
  simp only [Act.put, List.setIfInBounds_toArray, List.set_cons_zero, List.set_cons_succ, List.getElem_toArray, List.getElem_cons_zero, List.getElem_cons_succ]
  refine wpAnyH_take (i := 9) (v := ?_) rfl (by kernel_rfl) (by kernel_rfl) (by kernel_rfl) (fun _ _ _ h => h) (Or.inl ⟨by rfl, ?_⟩) hH0 ?_
  rotate_left
  · (intro v hSw; go_simp; try with_reducible rfl)
  simp only [Act.put, List.setIfInBounds_toArray, List.set_cons_zero, List.set_cons_succ, List.getElem_toArray, List.getElem_cons_zero, List.getElem_cons_succ]
  refine wpAnyH_take (i := 10) (v := ?_) rfl (by kernel_rfl) (by kernel_rfl) (by kernel_rfl) (fun _ _ _ h => h) (Or.inl ⟨by rfl, ?_⟩) hH0 ?_
  rotate_left
  · (intro v hSw; go_simp; try with_reducible rfl)
  simp only [Act.put, List.setIfInBounds_toArray, List.set_cons_zero, List.set_cons_succ, List.getElem_toArray, List.getElem_cons_zero, List.getElem_cons_succ]
  refine wpAnyH_take (i := 11) (v := ?_) rfl (by kernel_rfl) (by kernel_rfl) (by kernel_rfl) (fun _ _ _ h => h) (Or.inl ⟨by rfl, ?_⟩) hH0 ?_
  rotate_left
  · (intro v hSw; obtain ⟨k0, k1, k2, k3⟩ := HK.out _ hSw.below; go_simp; try with_reducible rfl)
  simp only [Act.put, List.setIfInBounds_toArray, List.set_cons_zero, List.set_cons_succ, List.getElem_toArray, List.getElem_cons_zero, List.getElem_cons_succ]
  refine wpAnyH_take (i := 12) (v := ?_) rfl (by kernel_rfl) (by kernel_rfl) (by kernel_rfl) (fun _ _ _ h => h) (Or.inl ⟨by rfl, ?_⟩) hH0 ?_
  rotate_left
  · (intro v hSw; go_simp; try with_reducible rfl)
  simp only [Act.put, List.setIfInBounds_toArray, List.set_cons_zero, List.set_cons_succ, List.getElem_toArray, List.getElem_cons_zero, List.getElem_cons_succ]
  refine wpAnyH_take (i := 13) (v := ?_) rfl (by kernel_rfl) (by kernel_rfl) (by kernel_rfl) (fun _ _ _ h => h) (Or.inl ⟨by rfl, ?_⟩) hH0 ?_
  rotate_left
  · (intro v hSw; go_simp; try with_reducible rfl)
  simp only [Act.put, List.setIfInBounds_toArray, List.set_cons_zero, List.set_cons_succ, List.getElem_toArray, List.getElem_cons_zero, List.getElem_cons_succ]
  refine wpAnyH_take (i := 14) (v := ?_) rfl (by kernel_rfl) (by kernel_rfl) (by kernel_rfl) (fun _ _ _ h => h) (Or.inl ⟨by rfl, ?_⟩) hH0 ?_
  rotate_left
  · (intro v hSw; obtain ⟨k0, k1, k2, k3⟩ := HK.out _ hSw.below; go_simp; try with_reducible rfl)
  simp only [Act.put, List.setIfInBounds_toArray, List.set_cons_zero, List.set_cons_succ, List.getElem_toArray, List.getElem_cons_zero, List.getElem_cons_succ]
  refine wpAnyH_take (i := 15) (v := ?_) rfl (by kernel_rfl) (by kernel_rfl) (by kernel_rfl) (fun _ _ _ h => h) (Or.inl ⟨by rfl, ?_⟩) hH0 ?_
  rotate_left
  · (intro v hSw; go_simp; try with_reducible rfl)
  simp only [Act.put, List.setIfInBounds_toArray, List.set_cons_zero, List.set_cons_succ, List.getElem_toArray, List.getElem_cons_zero, List.getElem_cons_succ]
  refine wpAnyH_take (i := 16) (v := ?_) rfl (by kernel_rfl) (by kernel_rfl) (by kernel_rfl) (fun _ _ _ h => h) (Or.inl ⟨by rfl, ?_⟩) hH0 ?_
  rotate_left
  · (intro v hSw; go_simp; try with_reducible rfl)
  simp only [Act.put, List.setIfInBounds_toArray, List.set_cons_zero, List.set_cons_succ, List.getElem_toArray, List.getElem_cons_zero, List.getElem_cons_succ]
  refine wpAnyH_ready (rs := [17]) (by kernel_rfl) (by simp) ?_
  refine AllReadyH.cons rfl (fun K hK => ?_) AllReadyH.nil
  go_simp
  refine hK.out _ _ (hH0.alloc _) (fun hX => ?_)
  refine laid_own hH0 (n := 10) rfl (fun v1 hH1 => ?_)
  clear hK K hX hH0
  refine wpAnyH_ready (rs := [18]) (by kernel_rfl) (by simp) ?_
  refine AllReadyH.cons rfl (fun K hK => ?_) AllReadyH.nil
  obtain ⟨u0, u1, u2, u3, u4, u5, u6, u7, u8, u9, hx⟩ := hH1.o0.ten
  have kx := hx.cell
  have fx := hx.frozen
  go_simp
  refine hK.out _ _ (hH1.set10 ⟨10, by simp⟩ _ _ _ _ _ _ _ _ _ _) (fun hX => ?_)
  refine stored10 hH1 ⟨10, by simp⟩ hx (fun v2 hH2 hy => ?_)
  clear hK K hX hH1 hx kx fx
  refine wpAnyH_done (by kernel_rfl) ?_ _
  have HY := Lib.hid hy
  have H3 := Lib.hid (H2.out.join hH2)
  clear hH2 hy
  go_wp2_with fail
  refine (HG0.out _).mono ?_
  rintro e w4 ⟨rfl, hb⟩
  have H4 := Lib.hid (H3.out.up hb)
  have hy := HY.out.below hb
  clear HY
  have HY := Lib.hid hy
  clear hb hy H3
  go_wp2_with fail
  refine (HG1.out _).mono ?_
  rintro e w5 ⟨rfl, hb⟩
  have H5 := Lib.hid (H4.out.up hb)
  have hy := HY.out.below hb
  clear HY
  have HY := Lib.hid hy
  clear hb hy H4
  go_wp2_with fail
  refine (HG2.out _).mono ?_
  rintro e w6 ⟨rfl, hb⟩
  have H6 := Lib.hid (H5.out.up hb)
  have hy := HY.out.below hb
  clear HY
  have HY := Lib.hid hy
  clear hb hy H5
  go_wp2_with fail
  refine (HG3.out _).mono ?_
  rintro e w7 ⟨rfl, hb⟩
  have H7 := Lib.hid (H6.out.up hb)
  have hy := HY.out.below hb
  clear HY
  have HY := Lib.hid hy
  clear hb hy H6
  have hy := HY.out
  have H8 := Lib.hid ((((H7.out.set (b := _) ⟨10, List.mem_cons_self⟩ 1 (.int .u64 c)).set (b := _) ⟨10, List.mem_cons_self⟩ 2 (.int .u64 b)).set (b := _) ⟨10, List.mem_cons_self⟩ 3 (.int .u64 o)).set (b := _) ⟨10, List.mem_cons_self⟩ 4 (.int .u64 p))
  have hz := (((hy.set 1 (.int .u64 c)).set 2 (.int .u64 b)).set 3 (.int .u64 o)).set 4 (.int .u64 p)
  simp only [List.set_cons_zero, List.set_cons_succ] at hz
  have HZ := Lib.hid hz; clear hz
  have k := hy.cell
  have f := hy.frozen
  clear hy HY H7
  go_wp2_with fail
  generalize ((((w7.setCell ⟨_, 1, none⟩ (.int .u64 c)).setCell ⟨_, 2, none⟩ (.int .u64 b)).setCell ⟨_, 3, none⟩ (.int .u64 o)).setCell ⟨_, 4, none⟩ (.int .u64 p)) = w8 at *
  clear k f
  have k := HZ.out.cell
  go_wp2_with fail
  refine (HSR.out _).mono ?_
  rintro e w9 ⟨rfl, hb⟩
  have H9a := H8.out.up hb
  have kq := (HZ.out.below hb).cell
  clear hb k H8
  obtain ⟨u0, u1, u2, u3, u4, u5, u6, u7, u8, u9, hx⟩ := (H9a.owns (w.heap.size, 10) (by simp)).ten
  have kk := hx.cell
  have ff := hx.frozen
  have HX := Lib.hid hx; clear hx
  go_wp2_with fail
  have hz := HX.out.ten (.int .i64 ((t[0].toNat : Nat) : Int)) (.int .u64 c) (.int .u64 b) (.int .u64 o) (.int .u64 p) (.bool b0) (.bool b1) (.bool b2) (.bool b3) (.int .u32 (m : Int))
  have H9 := H9a.set10 (b := w.heap.size) ⟨10, by simp⟩ (.int .i64 ((t[0].toNat : Nat) : Int)) (.int .u64 c) (.int .u64 b) (.int .u64 o) (.int .u64 p) (.bool b0) (.bool b1) (.bool b2) (.bool b3) (.int .u32 (m : Int))
  generalize ((((((((((w9.setCell ⟨w.heap.size, 0, none⟩ (.int .i64 ((t[0].toNat : Nat) : Int))).setCell ⟨w.heap.size, 1, none⟩ (.int .u64 c)).setCell ⟨w.heap.size, 2, none⟩ (.int .u64 b)).setCell ⟨w.heap.size, 3, none⟩ (.int .u64 o)).setCell ⟨w.heap.size, 4, none⟩ (.int .u64 p)).setCell ⟨w.heap.size, 5, none⟩ (.bool b0)).setCell ⟨w.heap.size, 6, none⟩ (.bool b1)).setCell ⟨w.heap.size, 7, none⟩ (.bool b2)).setCell ⟨w.heap.size, 8, none⟩ (.bool b3)).setCell ⟨w.heap.size, 9, none⟩ (.int .u32 (m : Int))) = w10 at *
  have kz := hz.cell
  refine bodyPost_ret (v := .tuple #[.agg #[.int .i64 ((t[0].toNat : Nat) : Int), .int .u64 c, .int .u64 b, .int .u64 o, .int .u64 p, .bool b0, .bool b1, .bool b2, .bool b3, .int .u32 (m : Int)], .int .i64 0]) (by simp [results, Tryd.results32, go_sem, kz]) rfl ⟨rfl, H9.below⟩

end

end Go.Proofs.YtbbcncofdhhflaaDoor
