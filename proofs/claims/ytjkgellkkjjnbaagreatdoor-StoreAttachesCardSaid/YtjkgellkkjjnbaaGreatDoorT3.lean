/- What the reference's Decode answers to bytes that may be a superblock's. No condition. -/
import Derived.Test.YtjkgellkkjjnbaaGreatDoorT2
namespace Go.Proofs.YtjkgellkkjjnbaaGreatDoor
open Go.RowKit

section
variable (s t : ByteArray) (x : Int) (w : World)

set_option maxRecDepth 100000 in
set_option maxHeartbeats 8000000 in
theorem rdec_head (ho : ∀ w, Calls Tryz.prog 64 #[.string s] w fun e w' => e = .returned (.tuple #[.string t, .int .i64 0]) ∧ Below w.heap.size w w') (hl : (t.size : Int) = 37) (h8 : (t[4]'(by omega)).toNat < 8)
    (hr : (⟨((t[3]'(by omega)).toNat : Int), num8 t.data.toList 5, num8 t.data.toList 13, num8 t.data.toList 21, num8 t.data.toList 29, decide ((t[4]'(by omega)).toNat % 2 = 1), decide ((t[4]'(by omega)).toNat / 2 % 2 = 1), decide ((t[4]'(by omega)).toNat / 2 / 2 % 2 = 1)⟩ : Sup).right = true) (hd : txt (⟨((t[3]'(by omega)).toNat : Int), num8 t.data.toList 5, num8 t.data.toList 13, num8 t.data.toList 21, num8 t.data.toList 29, decide ((t[4]'(by omega)).toNat % 2 = 1), decide ((t[4]'(by omega)).toNat / 2 % 2 = 1), decide ((t[4]'(by omega)).toNat / 2 / 2 % 2 = 1)⟩ : Sup).body ≠ t) :
    Calls Tryz.prog 62 #[.string s] w fun e w' => e = .returned (.tuple #[supV Sup.zero, .int .i64 2]) ∧ Below w.heap.size w w' := by
  have h8' : ¬ ((7 : Int) < ((t[4].toNat : Nat) : Int)) := by omega
  have hl' : ((t.size : Int) != 37) = false := by rw [bne_eq_false_iff_eq]; exact hl
  have hun := fun w => runflag3 t[4].toNat w h8
  have hn0 : ∀ w, Calls Tryz.prog 97 #[.string t, .int .i64 5] w _ := fun w => rnum_b t 5 w (by omega) (by decide)
  have hn1 : ∀ w, Calls Tryz.prog 97 #[.string t, .int .i64 13] w _ := fun w => rnum_b t 13 w (by omega) (by decide)
  have hn2 : ∀ w, Calls Tryz.prog 97 #[.string t, .int .i64 21] w _ := fun w => rnum_b t 21 w (by omega) (by decide)
  have hn3 : ∀ w, Calls Tryz.prog 97 #[.string t, .int .i64 29] w _ := fun w => rnum_b t 29 w (by omega) (by decide)
  have hsr := fun w => rsright_any (⟨((t[3]'(by omega)).toNat : Int), num8 t.data.toList 5, num8 t.data.toList 13, num8 t.data.toList 21, num8 t.data.toList 29, decide ((t[4]'(by omega)).toNat % 2 = 1), decide ((t[4]'(by omega)).toNat / 2 % 2 = 1), decide ((t[4]'(by omega)).toNat / 2 / 2 % 2 = 1)⟩ : Sup) w
  rw [hr] at hsr
  have hb := fun w => rbytes_any (⟨((t[3]'(by omega)).toNat : Int), num8 t.data.toList 5, num8 t.data.toList 13, num8 t.data.toList 21, num8 t.data.toList 29, decide ((t[4]'(by omega)).toNat % 2 = 1), decide ((t[4]'(by omega)).toNat / 2 % 2 = 1), decide ((t[4]'(by omega)).toNat / 2 / 2 % 2 = 1)⟩ : Sup) w ⟨num8_range _ _, num8_range _ _, num8_range _ _, num8_range _ _⟩ (by dsimp only; omega) (by have := byte_lt t[3]; dsimp only; omega)
  have hd' := text_ne hd
  clear hr h8
  clear hd
  dsimp only [supV] at *
  generalize txt (⟨((t[3]'(by omega)).toNat : Int), num8 t.data.toList 5, num8 t.data.toList 13, num8 t.data.toList 21, num8 t.data.toList 29, decide ((t[4]'(by omega)).toNat % 2 = 1), decide ((t[4]'(by omega)).toNat / 2 % 2 = 1), decide ((t[4]'(by omega)).toNat / 2 / 2 % 2 = 1)⟩ : Sup).body = y at *
  generalize num8 t.data.toList 5 = c at *
  generalize num8 t.data.toList 13 = b at *
  generalize num8 t.data.toList 21 = o at *
  generalize num8 t.data.toList 29 = p at *
  generalize decide (t[4].toNat % 2 = 1) = b0 at *
  generalize decide (t[4].toNat / 2 % 2 = 1) = b1 at *
  generalize decide (t[4].toNat / 2 / 2 % 2 = 1) = b2 at *
  have HN0 := Lib.hid hn0; clear hn0
  have HN1 := Lib.hid hn1; clear hn1
  have HN2 := Lib.hid hn2; clear hn2
  have HN3 := Lib.hid hn3; clear hn3
  have HU := Lib.hid hun; clear hun
  have HSR := Lib.hid hsr; clear hsr
  have HB := Lib.hid hb; clear hb
  have HO := Lib.hid ho; clear ho
  have H0 := Lib.hid ((Held.refl w).own (supC Sup.zero) 31 (n := 8) rfl)
  go_enter Tryz.func62, Tryz.ntmps62
  go_wp2_with fail
  refine (HO.out _).mono ?_
  rintro e w1 ⟨rfl, hb⟩
  have H1 := Lib.hid (H0.out.up hb)
  clear hb H0
  go_wp2_with fail
  refine (HU.out _).mono ?_
  rintro e w2 ⟨g, cp, rfl, hcp, hg0, hk0, hk1, hk2, hb⟩
  have H2 := Lib.hid (H1.out.up hb)
  clear hb H1
  have hkeep : ∀ w', Below w2.heap.size w2 w' → w'.cell? g = some (.bool b0) ∧ w'.cell? ⟨g.block, g.off + 1, none⟩ = some (.bool b1) ∧ w'.cell? ⟨g.block, g.off + 2, none⟩ = some (.bool b2) := fun w' hb =>
    ⟨(hb.cell (p := g) hg0).trans hk0, (hb.cell (p := ⟨g.block, g.off + 1, none⟩) hg0).trans hk1, (hb.cell (p := ⟨g.block, g.off + 2, none⟩) hg0).trans hk2⟩
  have HK := Lib.hid hkeep; clear hkeep hk0 hk1 hk2 hg0
  go_wp2_with fail
  have hw3 : IntKind.i64.wrap ((t[3].toNat : Nat) : Int) = ((t[3].toNat : Nat) : Int) := IntWalk.i64_in _ (by have := byte_lt t[3]; omega)
  refine held_begin (by kernel_rfl) (Held.refl w2) (fun v0 hH0 => ?_)
  refine wpAnyH_take (i := 0) (v := ?_) rfl (by kernel_rfl) (by kernel_rfl) (by kernel_rfl) (fun _ _ _ h => h) (Or.inl ⟨by rfl, ?_⟩) hH0 ?_
  rotate_left
  · (intro v hSw; go_simp; try with_reducible rfl)
  simp only [Act.put, List.setIfInBounds_toArray, List.set_cons_zero, List.set_cons_succ, List.getElem_toArray, List.getElem_cons_zero]
  refine wpAnyH_take (i := 1) (v := ?_) rfl (by kernel_rfl) (by kernel_rfl) (by kernel_rfl) (fun _ _ _ h => h) (Or.inl ⟨by rfl, ?_⟩) hH0 ?_
  rotate_left
  · (intro v hSw; go_simp; try with_reducible rfl)
  simp only [Act.put, List.setIfInBounds_toArray, List.set_cons_zero, List.set_cons_succ, List.getElem_toArray, List.getElem_cons_zero, List.getElem_cons_succ]
  refine wpAnyH_take (i := 2) (v := ?_) rfl (by kernel_rfl) (by kernel_rfl) (by kernel_rfl) (fun _ _ _ h => h) (Or.inl ⟨by rfl, ?_⟩) hH0 ?_
  rotate_left
  · (intro v hSw; go_simp; try with_reducible rfl)
  simp only [Act.put, List.setIfInBounds_toArray, List.set_cons_zero, List.set_cons_succ, List.getElem_toArray, List.getElem_cons_zero, List.getElem_cons_succ]
  refine wpAnyH_take (i := 3) (v := ?_) rfl (by kernel_rfl) (by kernel_rfl) (by kernel_rfl) (fun _ _ _ h => h) (Or.inl ⟨by rfl, ?_⟩) hH0 ?_
  rotate_left
  · (intro v hSw; go_simp; try with_reducible rfl)
  simp only [Act.put, List.setIfInBounds_toArray, List.set_cons_zero, List.set_cons_succ, List.getElem_toArray, List.getElem_cons_zero, List.getElem_cons_succ]
  refine wpAnyH_take (i := 5) (v := ?_) rfl (by kernel_rfl) (by kernel_rfl) (by kernel_rfl) (fun _ _ _ h => h) (Or.inl ⟨by rfl, ?_⟩) hH0 ?_
  rotate_left
  · (intro v hSw; go_simp; try with_reducible rfl)
  simp only [Act.put, List.setIfInBounds_toArray, List.set_cons_zero, List.set_cons_succ, List.getElem_toArray, List.getElem_cons_zero, List.getElem_cons_succ]
  refine wpAnyH_take (i := 7) (v := ?_) rfl (by kernel_rfl) (by kernel_rfl) (by kernel_rfl) (fun _ _ _ h => h) (Or.inl ⟨by rfl, ?_⟩) hH0 ?_
  rotate_left
  · (intro v hSw; go_simp; try with_reducible rfl)
  simp only [Act.put, List.setIfInBounds_toArray, List.set_cons_zero, List.set_cons_succ, List.getElem_toArray, List.getElem_cons_zero, List.getElem_cons_succ]
  refine wpAnyH_take (i := 9) (v := ?_) rfl (by kernel_rfl) (by kernel_rfl) (by kernel_rfl) (fun _ _ _ h => h) (Or.inl ⟨by rfl, ?_⟩) hH0 ?_
  rotate_left
  · (intro v hSw; go_simp; try with_reducible rfl)
  simp only [Act.put, List.setIfInBounds_toArray, List.set_cons_zero, List.set_cons_succ, List.getElem_toArray, List.getElem_cons_zero, List.getElem_cons_succ]
  refine wpAnyH_take (i := 13) (v := ?_) rfl (by kernel_rfl) (by kernel_rfl) (by kernel_rfl) (fun _ _ _ h => h) (Or.inl ⟨by rfl, ?_⟩) hH0 ?_
  rotate_left
  · (intro v hSw; go_simp; try with_reducible rfl)
  simp only [Act.put, List.setIfInBounds_toArray, List.set_cons_zero, List.set_cons_succ, List.getElem_toArray, List.getElem_cons_zero, List.getElem_cons_succ]
  refine wpAnyH_take (i := 14) (v := ?_) rfl (by kernel_rfl) (by kernel_rfl) (by kernel_rfl) (fun _ _ _ h => h) (Or.inl ⟨by rfl, ?_⟩) hH0 ?_
  rotate_left
  · (intro v hSw; go_simp; try with_reducible rfl)
  simp only [Act.put, List.setIfInBounds_toArray, List.set_cons_zero, List.set_cons_succ, List.getElem_toArray, List.getElem_cons_zero, List.getElem_cons_succ]
  refine wpAnyH_take (i := 15) (v := ?_) rfl (by kernel_rfl) (by kernel_rfl) (by kernel_rfl) (fun _ _ _ h => h) (Or.inl ⟨by rfl, ?_⟩) hH0 ?_
  rotate_left
  · (intro v hSw; obtain ⟨k0, k1, k2⟩ := HK.out _ hSw.below; go_simp; try with_reducible rfl)
  simp only [Act.put, List.setIfInBounds_toArray, List.set_cons_zero, List.set_cons_succ, List.getElem_toArray, List.getElem_cons_zero, List.getElem_cons_succ]
  refine wpAnyH_take (i := 16) (v := ?_) rfl (by kernel_rfl) (by kernel_rfl) (by kernel_rfl) (fun _ _ _ h => h) (Or.inl ⟨by rfl, ?_⟩) hH0 ?_
  rotate_left
  · (intro v hSw; go_simp; try with_reducible rfl)
  simp only [Act.put, List.setIfInBounds_toArray, List.set_cons_zero, List.set_cons_succ, List.getElem_toArray, List.getElem_cons_zero, List.getElem_cons_succ]
  refine wpAnyH_take (i := 17) (v := ?_) rfl (by kernel_rfl) (by kernel_rfl) (by kernel_rfl) (fun _ _ _ h => h) (Or.inl ⟨by rfl, ?_⟩) hH0 ?_
  rotate_left
  · (intro v hSw; go_simp; try with_reducible rfl)
  simp only [Act.put, List.setIfInBounds_toArray, List.set_cons_zero, List.set_cons_succ, List.getElem_toArray, List.getElem_cons_zero, List.getElem_cons_succ]
  refine wpAnyH_take (i := 18) (v := ?_) rfl (by kernel_rfl) (by kernel_rfl) (by kernel_rfl) (fun _ _ _ h => h) (Or.inl ⟨by rfl, ?_⟩) hH0 ?_
  rotate_left
  · (intro v hSw; obtain ⟨k0, k1, k2⟩ := HK.out _ hSw.below; go_simp; try with_reducible rfl)
  simp only [Act.put, List.setIfInBounds_toArray, List.set_cons_zero, List.set_cons_succ, List.getElem_toArray, List.getElem_cons_zero, List.getElem_cons_succ]
  refine wpAnyH_take (i := 19) (v := ?_) rfl (by kernel_rfl) (by kernel_rfl) (by kernel_rfl) (fun _ _ _ h => h) (Or.inl ⟨by rfl, ?_⟩) hH0 ?_
  rotate_left
  · (intro v hSw; go_simp; try with_reducible rfl)
  simp only [Act.put, List.setIfInBounds_toArray, List.set_cons_zero, List.set_cons_succ, List.getElem_toArray, List.getElem_cons_zero, List.getElem_cons_succ]
  refine wpAnyH_take (i := 20) (v := ?_) rfl (by kernel_rfl) (by kernel_rfl) (by kernel_rfl) (fun _ _ _ h => h) (Or.inl ⟨by rfl, ?_⟩) hH0 ?_
  rotate_left
  · (intro v hSw; go_simp; try with_reducible rfl)
  simp only [Act.put, List.setIfInBounds_toArray, List.set_cons_zero, List.set_cons_succ, List.getElem_toArray, List.getElem_cons_zero, List.getElem_cons_succ]
  refine wpAnyH_take (i := 21) (v := ?_) rfl (by kernel_rfl) (by kernel_rfl) (by kernel_rfl) (fun _ _ _ h => h) (Or.inl ⟨by rfl, ?_⟩) hH0 ?_
  rotate_left
  · (intro v hSw; obtain ⟨k0, k1, k2⟩ := HK.out _ hSw.below; go_simp; try with_reducible rfl)
  simp only [Act.put, List.setIfInBounds_toArray, List.set_cons_zero, List.set_cons_succ, List.getElem_toArray, List.getElem_cons_zero, List.getElem_cons_succ]
  refine wpAnyH_ready (rs := [4, 23]) (by kernel_rfl) (by simp) ?_
  refine AllReadyH.cons rfl (fun K hK => ?_) ?_
  · go_simp
    refine (HN0.out _).mono ?_
    rintro e v1 ⟨rfl, hb⟩
    go_wp2_with fail
    refine hK.out _ _ (hH0.up hb) (fun hH1 => ?_)
    clear hK K hH0
    refine wpAnyH_ready (rs := [6, 23]) (by kernel_rfl) (by simp) ?_
    refine AllReadyH.cons rfl (fun K hK => ?_) ?_
    · go_simp
      refine (HN1.out _).mono ?_
      rintro e v2 ⟨rfl, hb⟩
      go_wp2_with fail
      refine hK.out _ _ (hH1.up hb) (fun hH2 => ?_)
      clear hK K hH1
      refine wpAnyH_ready (rs := [8, 23]) (by kernel_rfl) (by simp) ?_
      refine AllReadyH.cons rfl (fun K hK => ?_) ?_
      · go_simp
        refine (HN2.out _).mono ?_
        rintro e v3 ⟨rfl, hb⟩
        go_wp2_with fail
        refine hK.out _ _ (hH2.up hb) (fun hH3 => ?_)
        clear hK K hH2
        refine wpAnyH_ready (rs := [10, 23]) (by kernel_rfl) (by simp) ?_
        refine AllReadyH.cons rfl (fun K hK => ?_) ?_
        · go_simp
          refine (HN3.out _).mono ?_
          rintro e v4 ⟨rfl, hb⟩
          go_wp2_with fail
          refine hK.out _ _ (hH3.up hb) (fun hH4 => ?_)
          clear hK K hH3
          refine wpAnyH_take (i := 11) (v := ?_) rfl (by kernel_rfl) (by kernel_rfl) (by kernel_rfl) (fun _ _ _ h => h) (Or.inl ⟨by rfl, ?_⟩) hH4 ?_
          rotate_left
          · (intro v hSw; go_simp; try with_reducible rfl)
          simp only [Act.put, List.setIfInBounds_toArray, List.set_cons_zero, List.set_cons_succ, List.getElem_toArray, List.getElem_cons_zero, List.getElem_cons_succ]
          refine wpAnyH_take (i := 12) (v := ?_) rfl (by kernel_rfl) (by kernel_rfl) (by kernel_rfl) (fun _ _ _ h => h) (Or.inl ⟨by rfl, ?_⟩) hH4 ?_
          rotate_left
          · (intro v hSw; go_simp; try with_reducible rfl)
          simp only [Act.put, List.setIfInBounds_toArray, List.set_cons_zero, List.set_cons_succ, List.getElem_toArray, List.getElem_cons_zero, List.getElem_cons_succ]
          refine wpAnyH_take (i := 22) (v := ?_) rfl (by kernel_rfl) (by kernel_rfl) (by kernel_rfl) (fun _ _ _ h => h) (Or.inl ⟨by rfl, ?_⟩) hH4 ?_
          rotate_left
          · (intro v hSw; go_simp; try with_reducible rfl)
          simp only [Act.put, List.setIfInBounds_toArray, List.set_cons_zero, List.set_cons_succ, List.getElem_toArray, List.getElem_cons_zero, List.getElem_cons_succ]
          refine wpAnyH_ready (rs := [23]) (by kernel_rfl) (by simp) ?_
          refine AllReadyH.cons rfl (fun K hK => ?_) AllReadyH.nil
          go_simp
          refine hK.out _ _ (hH4.alloc _) (fun hX => ?_)
          refine laid_own hH4 (n := 8) rfl (fun v5 hH5 => ?_)
          clear hK K hX hH4
          refine wpAnyH_ready (rs := [24]) (by kernel_rfl) (by simp) ?_
          refine AllReadyH.cons rfl (fun K hK => ?_) AllReadyH.nil
          obtain ⟨u0, u1, u2, u3, u4, u5, u6, u7, hx⟩ := hH5.o0.eight
          have kx := hx.cell
          have fx := hx.frozen
          go_simp
          refine hK.out _ _ (hH5.set8 ⟨8, by simp⟩ _ _ _ _ _ _ _ _) (fun hX => ?_)
          refine stored8 hH5 ⟨8, by simp⟩ hx (fun v6 hH6 hy => ?_)
          clear hK K hX hH5 hx kx fx
          refine wpAnyH_done (by kernel_rfl) ?_ _
          have kz := hy.cell
          have H3 := H2.out.up hH6.below
          clear hH6
          go_wp2_with fail
          refine (HSR.out _).mono ?_
          rintro e w5 ⟨rfl, hb⟩
          have H4 := H3.up hb
          have hq := hy.below hb
          have kq := hq.cell
          clear hb H3 hy kz
          go_wp2_with fail
          refine (HB.out _).mono ?_
          rintro e w6 ⟨rfl, hb⟩
          have H5 := H4.up hb
          have kq := (hq.below hb).cell
          clear hb H4 hq
          clear kq
          obtain ⟨u0, u1, u2, u3, u4, u5, u6, u7, hx⟩ := H5.o0.eight
          have k := hx.cell
          have f := hx.frozen
          have HX := Lib.hid hx; clear hx
          go_wp2_with fail
          have hz := HX.out.eight (.int .i64 0) (.int .u64 0) (.int .u64 0) (.int .u64 0) (.int .u64 0) (.bool false) (.bool false) (.bool false)
          have H9 : Held w [] [(w.heap.size, 8)] ((((((((w6.setCell ⟨w.heap.size, 0, none⟩ (.int .i64 0)).setCell ⟨w.heap.size, 1, none⟩ (.int .u64 0)).setCell ⟨w.heap.size, 2, none⟩ (.int .u64 0)).setCell ⟨w.heap.size, 3, none⟩ (.int .u64 0)).setCell ⟨w.heap.size, 4, none⟩ (.int .u64 0)).setCell ⟨w.heap.size, 5, none⟩ (.bool false)).setCell ⟨w.heap.size, 6, none⟩ (.bool false)).setCell ⟨w.heap.size, 7, none⟩ (.bool false)) := H5.set8 ⟨8, by simp⟩ (.int .i64 0) (.int .u64 0) (.int .u64 0) (.int .u64 0) (.int .u64 0) (.bool false) (.bool false) (.bool false)
          generalize ((((((((w6.setCell ⟨w.heap.size, 0, none⟩ (.int .i64 0)).setCell ⟨w.heap.size, 1, none⟩ (.int .u64 0)).setCell ⟨w.heap.size, 2, none⟩ (.int .u64 0)).setCell ⟨w.heap.size, 3, none⟩ (.int .u64 0)).setCell ⟨w.heap.size, 4, none⟩ (.int .u64 0)).setCell ⟨w.heap.size, 5, none⟩ (.bool false)).setCell ⟨w.heap.size, 6, none⟩ (.bool false)).setCell ⟨w.heap.size, 7, none⟩ (.bool false)) = w9 at *
          have kz := hz.cell
          refine bodyPost_ret (v := .tuple #[.agg #[.int .i64 0, .int .u64 0, .int .u64 0, .int .u64 0, .int .u64 0, .bool false, .bool false, .bool false], .int .i64 2]) (by simp [results, Tryz.results62, go_sem, kz]) rfl ⟨rfl, H9.below⟩
        refine AllReadyH.cons rfl (fun K hK => ?_) AllReadyH.nil
        go_simp
        refine hK.out _ _ (hH3.alloc _) (fun hX => ?_)
        refine laid_own hH3 (n := 8) rfl (fun v7 hH7 => ?_)
        clear hK K hX hH3
        refine wpAnyH_ready (rs := [10]) (by kernel_rfl) (by simp) ?_
        refine AllReadyH.cons rfl (fun K hK => ?_) AllReadyH.nil
        go_simp
        refine (HN3.out _).mono ?_
        rintro e v8 ⟨rfl, hb⟩
        go_wp2_with fail
        refine hK.out _ _ (hH7.up hb) (fun hH8 => ?_)
        clear hK K hH7
        refine wpAnyH_take (i := 11) (v := ?_) rfl (by kernel_rfl) (by kernel_rfl) (by kernel_rfl) (fun _ _ _ h => h) (Or.inl ⟨by rfl, ?_⟩) hH8 ?_
        rotate_left
        · (intro v hSw; go_simp; try with_reducible rfl)
        simp only [Act.put, List.setIfInBounds_toArray, List.set_cons_zero, List.set_cons_succ, List.getElem_toArray, List.getElem_cons_zero, List.getElem_cons_succ]
        refine wpAnyH_take (i := 12) (v := ?_) rfl (by kernel_rfl) (by kernel_rfl) (by kernel_rfl) (fun _ _ _ h => h) (Or.inl ⟨by rfl, ?_⟩) hH8 ?_
        rotate_left
        · (intro v hSw; go_simp; try with_reducible rfl)
        simp only [Act.put, List.setIfInBounds_toArray, List.set_cons_zero, List.set_cons_succ, List.getElem_toArray, List.getElem_cons_zero, List.getElem_cons_succ]
        refine wpAnyH_take (i := 22) (v := ?_) rfl (by kernel_rfl) (by kernel_rfl) (by kernel_rfl) (fun _ _ _ h => h) (Or.inl ⟨by rfl, ?_⟩) hH8 ?_
        rotate_left
        · (intro v hSw; go_simp; try with_reducible rfl)
        simp only [Act.put, List.setIfInBounds_toArray, List.set_cons_zero, List.set_cons_succ, List.getElem_toArray, List.getElem_cons_zero, List.getElem_cons_succ]
        refine wpAnyH_ready (rs := [24]) (by kernel_rfl) (by simp) ?_
        refine AllReadyH.cons rfl (fun K hK => ?_) AllReadyH.nil
        obtain ⟨u0, u1, u2, u3, u4, u5, u6, u7, hx⟩ := hH8.o0.eight
        have kx := hx.cell
        have fx := hx.frozen
        go_simp
        refine hK.out _ _ (hH8.set8 ⟨8, by simp⟩ _ _ _ _ _ _ _ _) (fun hX => ?_)
        refine stored8 hH8 ⟨8, by simp⟩ hx (fun v9 hH9 hy => ?_)
        clear hK K hX hH8 hx kx fx
        refine wpAnyH_done (by kernel_rfl) ?_ _
        have kz := hy.cell
        have H3 := H2.out.up hH9.below
        clear hH9
        go_wp2_with fail
        refine (HSR.out _).mono ?_
        rintro e w5 ⟨rfl, hb⟩
        have H4 := H3.up hb
        have hq := hy.below hb
        have kq := hq.cell
        clear hb H3 hy kz
        go_wp2_with fail
        refine (HB.out _).mono ?_
        rintro e w6 ⟨rfl, hb⟩
        have H5 := H4.up hb
        have kq := (hq.below hb).cell
        clear hb H4 hq
        clear kq
        obtain ⟨u0, u1, u2, u3, u4, u5, u6, u7, hx⟩ := H5.o0.eight
        have k := hx.cell
        have f := hx.frozen
        have HX := Lib.hid hx; clear hx
        go_wp2_with fail
        have hz := HX.out.eight (.int .i64 0) (.int .u64 0) (.int .u64 0) (.int .u64 0) (.int .u64 0) (.bool false) (.bool false) (.bool false)
        have H9 : Held w [] [(w.heap.size, 8)] ((((((((w6.setCell ⟨w.heap.size, 0, none⟩ (.int .i64 0)).setCell ⟨w.heap.size, 1, none⟩ (.int .u64 0)).setCell ⟨w.heap.size, 2, none⟩ (.int .u64 0)).setCell ⟨w.heap.size, 3, none⟩ (.int .u64 0)).setCell ⟨w.heap.size, 4, none⟩ (.int .u64 0)).setCell ⟨w.heap.size, 5, none⟩ (.bool false)).setCell ⟨w.heap.size, 6, none⟩ (.bool false)).setCell ⟨w.heap.size, 7, none⟩ (.bool false)) := H5.set8 ⟨8, by simp⟩ (.int .i64 0) (.int .u64 0) (.int .u64 0) (.int .u64 0) (.int .u64 0) (.bool false) (.bool false) (.bool false)
        generalize ((((((((w6.setCell ⟨w.heap.size, 0, none⟩ (.int .i64 0)).setCell ⟨w.heap.size, 1, none⟩ (.int .u64 0)).setCell ⟨w.heap.size, 2, none⟩ (.int .u64 0)).setCell ⟨w.heap.size, 3, none⟩ (.int .u64 0)).setCell ⟨w.heap.size, 4, none⟩ (.int .u64 0)).setCell ⟨w.heap.size, 5, none⟩ (.bool false)).setCell ⟨w.heap.size, 6, none⟩ (.bool false)).setCell ⟨w.heap.size, 7, none⟩ (.bool false)) = w9 at *
        have kz := hz.cell
        refine bodyPost_ret (v := .tuple #[.agg #[.int .i64 0, .int .u64 0, .int .u64 0, .int .u64 0, .int .u64 0, .bool false, .bool false, .bool false], .int .i64 2]) (by simp [results, Tryz.results62, go_sem, kz]) rfl ⟨rfl, H9.below⟩
      refine AllReadyH.cons rfl (fun K hK => ?_) AllReadyH.nil
      go_simp
      refine hK.out _ _ (hH2.alloc _) (fun hX => ?_)
      refine laid_own hH2 (n := 8) rfl (fun v10 hH10 => ?_)
      clear hK K hX hH2
      refine wpAnyH_ready (rs := [8]) (by kernel_rfl) (by simp) ?_
      refine AllReadyH.cons rfl (fun K hK => ?_) AllReadyH.nil
      go_simp
      refine (HN2.out _).mono ?_
      rintro e v11 ⟨rfl, hb⟩
      go_wp2_with fail
      refine hK.out _ _ (hH10.up hb) (fun hH11 => ?_)
      clear hK K hH10
      refine wpAnyH_ready (rs := [10]) (by kernel_rfl) (by simp) ?_
      refine AllReadyH.cons rfl (fun K hK => ?_) AllReadyH.nil
      go_simp
      refine (HN3.out _).mono ?_
      rintro e v12 ⟨rfl, hb⟩
      go_wp2_with fail
      refine hK.out _ _ (hH11.up hb) (fun hH12 => ?_)
      clear hK K hH11
      refine wpAnyH_take (i := 11) (v := ?_) rfl (by kernel_rfl) (by kernel_rfl) (by kernel_rfl) (fun _ _ _ h => h) (Or.inl ⟨by rfl, ?_⟩) hH12 ?_
      rotate_left
      · (intro v hSw; go_simp; try with_reducible rfl)
      simp only [Act.put, List.setIfInBounds_toArray, List.set_cons_zero, List.set_cons_succ, List.getElem_toArray, List.getElem_cons_zero, List.getElem_cons_succ]
      refine wpAnyH_take (i := 12) (v := ?_) rfl (by kernel_rfl) (by kernel_rfl) (by kernel_rfl) (fun _ _ _ h => h) (Or.inl ⟨by rfl, ?_⟩) hH12 ?_
      rotate_left
      · (intro v hSw; go_simp; try with_reducible rfl)
      simp only [Act.put, List.setIfInBounds_toArray, List.set_cons_zero, List.set_cons_succ, List.getElem_toArray, List.getElem_cons_zero, List.getElem_cons_succ]
      refine wpAnyH_take (i := 22) (v := ?_) rfl (by kernel_rfl) (by kernel_rfl) (by kernel_rfl) (fun _ _ _ h => h) (Or.inl ⟨by rfl, ?_⟩) hH12 ?_
      rotate_left
      · (intro v hSw; go_simp; try with_reducible rfl)
      simp only [Act.put, List.setIfInBounds_toArray, List.set_cons_zero, List.set_cons_succ, List.getElem_toArray, List.getElem_cons_zero, List.getElem_cons_succ]
      refine wpAnyH_ready (rs := [24]) (by kernel_rfl) (by simp) ?_
      refine AllReadyH.cons rfl (fun K hK => ?_) AllReadyH.nil
      obtain ⟨u0, u1, u2, u3, u4, u5, u6, u7, hx⟩ := hH12.o0.eight
      have kx := hx.cell
      have fx := hx.frozen
      go_simp
      refine hK.out _ _ (hH12.set8 ⟨8, by simp⟩ _ _ _ _ _ _ _ _) (fun hX => ?_)
      refine stored8 hH12 ⟨8, by simp⟩ hx (fun v13 hH13 hy => ?_)
      clear hK K hX hH12 hx kx fx
      refine wpAnyH_done (by kernel_rfl) ?_ _
      have kz := hy.cell
      have H3 := H2.out.up hH13.below
      clear hH13
      go_wp2_with fail
      refine (HSR.out _).mono ?_
      rintro e w5 ⟨rfl, hb⟩
      have H4 := H3.up hb
      have hq := hy.below hb
      have kq := hq.cell
      clear hb H3 hy kz
      go_wp2_with fail
      refine (HB.out _).mono ?_
      rintro e w6 ⟨rfl, hb⟩
      have H5 := H4.up hb
      have kq := (hq.below hb).cell
      clear hb H4 hq
      clear kq
      obtain ⟨u0, u1, u2, u3, u4, u5, u6, u7, hx⟩ := H5.o0.eight
      have k := hx.cell
      have f := hx.frozen
      have HX := Lib.hid hx; clear hx
      go_wp2_with fail
      have hz := HX.out.eight (.int .i64 0) (.int .u64 0) (.int .u64 0) (.int .u64 0) (.int .u64 0) (.bool false) (.bool false) (.bool false)
      have H9 : Held w [] [(w.heap.size, 8)] ((((((((w6.setCell ⟨w.heap.size, 0, none⟩ (.int .i64 0)).setCell ⟨w.heap.size, 1, none⟩ (.int .u64 0)).setCell ⟨w.heap.size, 2, none⟩ (.int .u64 0)).setCell ⟨w.heap.size, 3, none⟩ (.int .u64 0)).setCell ⟨w.heap.size, 4, none⟩ (.int .u64 0)).setCell ⟨w.heap.size, 5, none⟩ (.bool false)).setCell ⟨w.heap.size, 6, none⟩ (.bool false)).setCell ⟨w.heap.size, 7, none⟩ (.bool false)) := H5.set8 ⟨8, by simp⟩ (.int .i64 0) (.int .u64 0) (.int .u64 0) (.int .u64 0) (.int .u64 0) (.bool false) (.bool false) (.bool false)
      generalize ((((((((w6.setCell ⟨w.heap.size, 0, none⟩ (.int .i64 0)).setCell ⟨w.heap.size, 1, none⟩ (.int .u64 0)).setCell ⟨w.heap.size, 2, none⟩ (.int .u64 0)).setCell ⟨w.heap.size, 3, none⟩ (.int .u64 0)).setCell ⟨w.heap.size, 4, none⟩ (.int .u64 0)).setCell ⟨w.heap.size, 5, none⟩ (.bool false)).setCell ⟨w.heap.size, 6, none⟩ (.bool false)).setCell ⟨w.heap.size, 7, none⟩ (.bool false)) = w9 at *
      have kz := hz.cell
      refine bodyPost_ret (v := .tuple #[.agg #[.int .i64 0, .int .u64 0, .int .u64 0, .int .u64 0, .int .u64 0, .bool false, .bool false, .bool false], .int .i64 2]) (by simp [results, Tryz.results62, go_sem, kz]) rfl ⟨rfl, H9.below⟩
    refine AllReadyH.cons rfl (fun K hK => ?_) AllReadyH.nil
    go_simp
    refine hK.out _ _ (hH1.alloc _) (fun hX => ?_)
    refine laid_own hH1 (n := 8) rfl (fun v14 hH14 => ?_)
    clear hK K hX hH1
    refine wpAnyH_ready (rs := [6]) (by kernel_rfl) (by simp) ?_
    refine AllReadyH.cons rfl (fun K hK => ?_) AllReadyH.nil
    go_simp
    refine (HN1.out _).mono ?_
    rintro e v15 ⟨rfl, hb⟩
    go_wp2_with fail
    refine hK.out _ _ (hH14.up hb) (fun hH15 => ?_)
    clear hK K hH14
    refine wpAnyH_ready (rs := [8]) (by kernel_rfl) (by simp) ?_
    refine AllReadyH.cons rfl (fun K hK => ?_) AllReadyH.nil
    go_simp
    refine (HN2.out _).mono ?_
    rintro e v16 ⟨rfl, hb⟩
    go_wp2_with fail
    refine hK.out _ _ (hH15.up hb) (fun hH16 => ?_)
    clear hK K hH15
    refine wpAnyH_ready (rs := [10]) (by kernel_rfl) (by simp) ?_
    refine AllReadyH.cons rfl (fun K hK => ?_) AllReadyH.nil
    go_simp
    refine (HN3.out _).mono ?_
    rintro e v17 ⟨rfl, hb⟩
    go_wp2_with fail
    refine hK.out _ _ (hH16.up hb) (fun hH17 => ?_)
    clear hK K hH16
    refine wpAnyH_take (i := 11) (v := ?_) rfl (by kernel_rfl) (by kernel_rfl) (by kernel_rfl) (fun _ _ _ h => h) (Or.inl ⟨by rfl, ?_⟩) hH17 ?_
    rotate_left
    · (intro v hSw; go_simp; try with_reducible rfl)
    simp only [Act.put, List.setIfInBounds_toArray, List.set_cons_zero, List.set_cons_succ, List.getElem_toArray, List.getElem_cons_zero, List.getElem_cons_succ]
    refine wpAnyH_take (i := 12) (v := ?_) rfl (by kernel_rfl) (by kernel_rfl) (by kernel_rfl) (fun _ _ _ h => h) (Or.inl ⟨by rfl, ?_⟩) hH17 ?_
    rotate_left
    · (intro v hSw; go_simp; try with_reducible rfl)
    simp only [Act.put, List.setIfInBounds_toArray, List.set_cons_zero, List.set_cons_succ, List.getElem_toArray, List.getElem_cons_zero, List.getElem_cons_succ]
    refine wpAnyH_take (i := 22) (v := ?_) rfl (by kernel_rfl) (by kernel_rfl) (by kernel_rfl) (fun _ _ _ h => h) (Or.inl ⟨by rfl, ?_⟩) hH17 ?_
    rotate_left
    · (intro v hSw; go_simp; try with_reducible rfl)
    simp only [Act.put, List.setIfInBounds_toArray, List.set_cons_zero, List.set_cons_succ, List.getElem_toArray, List.getElem_cons_zero, List.getElem_cons_succ]
    refine wpAnyH_ready (rs := [24]) (by kernel_rfl) (by simp) ?_
    refine AllReadyH.cons rfl (fun K hK => ?_) AllReadyH.nil
    obtain ⟨u0, u1, u2, u3, u4, u5, u6, u7, hx⟩ := hH17.o0.eight
    have kx := hx.cell
    have fx := hx.frozen
    go_simp
    refine hK.out _ _ (hH17.set8 ⟨8, by simp⟩ _ _ _ _ _ _ _ _) (fun hX => ?_)
    refine stored8 hH17 ⟨8, by simp⟩ hx (fun v18 hH18 hy => ?_)
    clear hK K hX hH17 hx kx fx
    refine wpAnyH_done (by kernel_rfl) ?_ _
    have kz := hy.cell
    have H3 := H2.out.up hH18.below
    clear hH18
    go_wp2_with fail
    refine (HSR.out _).mono ?_
    rintro e w5 ⟨rfl, hb⟩
    have H4 := H3.up hb
    have hq := hy.below hb
    have kq := hq.cell
    clear hb H3 hy kz
    go_wp2_with fail
    refine (HB.out _).mono ?_
    rintro e w6 ⟨rfl, hb⟩
    have H5 := H4.up hb
    have kq := (hq.below hb).cell
    clear hb H4 hq
    clear kq
    obtain ⟨u0, u1, u2, u3, u4, u5, u6, u7, hx⟩ := H5.o0.eight
    have k := hx.cell
    have f := hx.frozen
    have HX := Lib.hid hx; clear hx
    go_wp2_with fail
    have hz := HX.out.eight (.int .i64 0) (.int .u64 0) (.int .u64 0) (.int .u64 0) (.int .u64 0) (.bool false) (.bool false) (.bool false)
    have H9 : Held w [] [(w.heap.size, 8)] ((((((((w6.setCell ⟨w.heap.size, 0, none⟩ (.int .i64 0)).setCell ⟨w.heap.size, 1, none⟩ (.int .u64 0)).setCell ⟨w.heap.size, 2, none⟩ (.int .u64 0)).setCell ⟨w.heap.size, 3, none⟩ (.int .u64 0)).setCell ⟨w.heap.size, 4, none⟩ (.int .u64 0)).setCell ⟨w.heap.size, 5, none⟩ (.bool false)).setCell ⟨w.heap.size, 6, none⟩ (.bool false)).setCell ⟨w.heap.size, 7, none⟩ (.bool false)) := H5.set8 ⟨8, by simp⟩ (.int .i64 0) (.int .u64 0) (.int .u64 0) (.int .u64 0) (.int .u64 0) (.bool false) (.bool false) (.bool false)
    generalize ((((((((w6.setCell ⟨w.heap.size, 0, none⟩ (.int .i64 0)).setCell ⟨w.heap.size, 1, none⟩ (.int .u64 0)).setCell ⟨w.heap.size, 2, none⟩ (.int .u64 0)).setCell ⟨w.heap.size, 3, none⟩ (.int .u64 0)).setCell ⟨w.heap.size, 4, none⟩ (.int .u64 0)).setCell ⟨w.heap.size, 5, none⟩ (.bool false)).setCell ⟨w.heap.size, 6, none⟩ (.bool false)).setCell ⟨w.heap.size, 7, none⟩ (.bool false)) = w9 at *
    have kz := hz.cell
    refine bodyPost_ret (v := .tuple #[.agg #[.int .i64 0, .int .u64 0, .int .u64 0, .int .u64 0, .int .u64 0, .bool false, .bool false, .bool false], .int .i64 2]) (by simp [results, Tryz.results62, go_sem, kz]) rfl ⟨rfl, H9.below⟩
  refine AllReadyH.cons rfl (fun K hK => ?_) AllReadyH.nil
  go_simp
  refine hK.out _ _ (hH0.alloc _) (fun hX => ?_)
  refine laid_own hH0 (n := 8) rfl (fun v19 hH19 => ?_)
  clear hK K hX hH0
  refine wpAnyH_ready (rs := [4]) (by kernel_rfl) (by simp) ?_
  refine AllReadyH.cons rfl (fun K hK => ?_) AllReadyH.nil
  go_simp
  refine (HN0.out _).mono ?_
  rintro e v20 ⟨rfl, hb⟩
  go_wp2_with fail
  refine hK.out _ _ (hH19.up hb) (fun hH20 => ?_)
  clear hK K hH19
  refine wpAnyH_ready (rs := [6]) (by kernel_rfl) (by simp) ?_
  refine AllReadyH.cons rfl (fun K hK => ?_) AllReadyH.nil
  go_simp
  refine (HN1.out _).mono ?_
  rintro e v21 ⟨rfl, hb⟩
  go_wp2_with fail
  refine hK.out _ _ (hH20.up hb) (fun hH21 => ?_)
  clear hK K hH20
  refine wpAnyH_ready (rs := [8]) (by kernel_rfl) (by simp) ?_
  refine AllReadyH.cons rfl (fun K hK => ?_) AllReadyH.nil
  go_simp
  refine (HN2.out _).mono ?_
  rintro e v22 ⟨rfl, hb⟩
  go_wp2_with fail
  refine hK.out _ _ (hH21.up hb) (fun hH22 => ?_)
  clear hK K hH21
  refine wpAnyH_ready (rs := [10]) (by kernel_rfl) (by simp) ?_
  refine AllReadyH.cons rfl (fun K hK => ?_) AllReadyH.nil
  go_simp
  refine (HN3.out _).mono ?_
  rintro e v23 ⟨rfl, hb⟩
  go_wp2_with fail
  refine hK.out _ _ (hH22.up hb) (fun hH23 => ?_)
  clear hK K hH22
  refine wpAnyH_take (i := 11) (v := ?_) rfl (by kernel_rfl) (by kernel_rfl) (by kernel_rfl) (fun _ _ _ h => h) (Or.inl ⟨by rfl, ?_⟩) hH23 ?_
  rotate_left
  · (intro v hSw; go_simp; try with_reducible rfl)
  simp only [Act.put, List.setIfInBounds_toArray, List.set_cons_zero, List.set_cons_succ, List.getElem_toArray, List.getElem_cons_zero, List.getElem_cons_succ]
  refine wpAnyH_take (i := 12) (v := ?_) rfl (by kernel_rfl) (by kernel_rfl) (by kernel_rfl) (fun _ _ _ h => h) (Or.inl ⟨by rfl, ?_⟩) hH23 ?_
  rotate_left
  · (intro v hSw; go_simp; try with_reducible rfl)
  simp only [Act.put, List.setIfInBounds_toArray, List.set_cons_zero, List.set_cons_succ, List.getElem_toArray, List.getElem_cons_zero, List.getElem_cons_succ]
  refine wpAnyH_take (i := 22) (v := ?_) rfl (by kernel_rfl) (by kernel_rfl) (by kernel_rfl) (fun _ _ _ h => h) (Or.inl ⟨by rfl, ?_⟩) hH23 ?_
  rotate_left
  · (intro v hSw; go_simp; try with_reducible rfl)
  simp only [Act.put, List.setIfInBounds_toArray, List.set_cons_zero, List.set_cons_succ, List.getElem_toArray, List.getElem_cons_zero, List.getElem_cons_succ]
  refine wpAnyH_ready (rs := [24]) (by kernel_rfl) (by simp) ?_
  refine AllReadyH.cons rfl (fun K hK => ?_) AllReadyH.nil
  obtain ⟨u0, u1, u2, u3, u4, u5, u6, u7, hx⟩ := hH23.o0.eight
  have kx := hx.cell
  have fx := hx.frozen
  go_simp
  refine hK.out _ _ (hH23.set8 ⟨8, by simp⟩ _ _ _ _ _ _ _ _) (fun hX => ?_)
  refine stored8 hH23 ⟨8, by simp⟩ hx (fun v24 hH24 hy => ?_)
  clear hK K hX hH23 hx kx fx
  refine wpAnyH_done (by kernel_rfl) ?_ _
  have kz := hy.cell
  have H3 := H2.out.up hH24.below
  clear hH24
  go_wp2_with fail
  refine (HSR.out _).mono ?_
  rintro e w5 ⟨rfl, hb⟩
  have H4 := H3.up hb
  have hq := hy.below hb
  have kq := hq.cell
  clear hb H3 hy kz
  go_wp2_with fail
  refine (HB.out _).mono ?_
  rintro e w6 ⟨rfl, hb⟩
  have H5 := H4.up hb
  have kq := (hq.below hb).cell
  clear hb H4 hq
  clear kq
  obtain ⟨u0, u1, u2, u3, u4, u5, u6, u7, hx⟩ := H5.o0.eight
  have k := hx.cell
  have f := hx.frozen
  have HX := Lib.hid hx; clear hx
  go_wp2_with fail
  have hz := HX.out.eight (.int .i64 0) (.int .u64 0) (.int .u64 0) (.int .u64 0) (.int .u64 0) (.bool false) (.bool false) (.bool false)
  have H9 : Held w [] [(w.heap.size, 8)] ((((((((w6.setCell ⟨w.heap.size, 0, none⟩ (.int .i64 0)).setCell ⟨w.heap.size, 1, none⟩ (.int .u64 0)).setCell ⟨w.heap.size, 2, none⟩ (.int .u64 0)).setCell ⟨w.heap.size, 3, none⟩ (.int .u64 0)).setCell ⟨w.heap.size, 4, none⟩ (.int .u64 0)).setCell ⟨w.heap.size, 5, none⟩ (.bool false)).setCell ⟨w.heap.size, 6, none⟩ (.bool false)).setCell ⟨w.heap.size, 7, none⟩ (.bool false)) := H5.set8 ⟨8, by simp⟩ (.int .i64 0) (.int .u64 0) (.int .u64 0) (.int .u64 0) (.int .u64 0) (.bool false) (.bool false) (.bool false)
  generalize ((((((((w6.setCell ⟨w.heap.size, 0, none⟩ (.int .i64 0)).setCell ⟨w.heap.size, 1, none⟩ (.int .u64 0)).setCell ⟨w.heap.size, 2, none⟩ (.int .u64 0)).setCell ⟨w.heap.size, 3, none⟩ (.int .u64 0)).setCell ⟨w.heap.size, 4, none⟩ (.int .u64 0)).setCell ⟨w.heap.size, 5, none⟩ (.bool false)).setCell ⟨w.heap.size, 6, none⟩ (.bool false)).setCell ⟨w.heap.size, 7, none⟩ (.bool false)) = w9 at *
  have kz := hz.cell
  refine bodyPost_ret (v := .tuple #[.agg #[.int .i64 0, .int .u64 0, .int .u64 0, .int .u64 0, .int .u64 0, .bool false, .bool false, .bool false], .int .i64 2]) (by simp [results, Tryz.results62, go_sem, kz]) rfl ⟨rfl, H9.below⟩

set_option maxRecDepth 100000 in
set_option maxHeartbeats 8000000 in
theorem rdec_ok (ho : ∀ w, Calls Tryz.prog 64 #[.string s] w fun e w' => e = .returned (.tuple #[.string t, .int .i64 0]) ∧ Below w.heap.size w w') (hl : (t.size : Int) = 37) (h8 : (t[4]'(by omega)).toNat < 8)
    (hr : (⟨((t[3]'(by omega)).toNat : Int), num8 t.data.toList 5, num8 t.data.toList 13, num8 t.data.toList 21, num8 t.data.toList 29, decide ((t[4]'(by omega)).toNat % 2 = 1), decide ((t[4]'(by omega)).toNat / 2 % 2 = 1), decide ((t[4]'(by omega)).toNat / 2 / 2 % 2 = 1)⟩ : Sup).right = true) (hd : txt (⟨((t[3]'(by omega)).toNat : Int), num8 t.data.toList 5, num8 t.data.toList 13, num8 t.data.toList 21, num8 t.data.toList 29, decide ((t[4]'(by omega)).toNat % 2 = 1), decide ((t[4]'(by omega)).toNat / 2 % 2 = 1), decide ((t[4]'(by omega)).toNat / 2 / 2 % 2 = 1)⟩ : Sup).body = t) :
    Calls Tryz.prog 62 #[.string s] w fun e w' => e = .returned (.tuple #[supV (⟨((t[3]'(by omega)).toNat : Int), num8 t.data.toList 5, num8 t.data.toList 13, num8 t.data.toList 21, num8 t.data.toList 29, decide ((t[4]'(by omega)).toNat % 2 = 1), decide ((t[4]'(by omega)).toNat / 2 % 2 = 1), decide ((t[4]'(by omega)).toNat / 2 / 2 % 2 = 1)⟩ : Sup), .int .i64 0]) ∧ Below w.heap.size w w' := by
  have h8' : ¬ ((7 : Int) < ((t[4].toNat : Nat) : Int)) := by omega
  have hl' : ((t.size : Int) != 37) = false := by rw [bne_eq_false_iff_eq]; exact hl
  have hun := fun w => runflag3 t[4].toNat w h8
  have hn0 : ∀ w, Calls Tryz.prog 97 #[.string t, .int .i64 5] w _ := fun w => rnum_b t 5 w (by omega) (by decide)
  have hn1 : ∀ w, Calls Tryz.prog 97 #[.string t, .int .i64 13] w _ := fun w => rnum_b t 13 w (by omega) (by decide)
  have hn2 : ∀ w, Calls Tryz.prog 97 #[.string t, .int .i64 21] w _ := fun w => rnum_b t 21 w (by omega) (by decide)
  have hn3 : ∀ w, Calls Tryz.prog 97 #[.string t, .int .i64 29] w _ := fun w => rnum_b t 29 w (by omega) (by decide)
  have hsr := fun w => rsright_any (⟨((t[3]'(by omega)).toNat : Int), num8 t.data.toList 5, num8 t.data.toList 13, num8 t.data.toList 21, num8 t.data.toList 29, decide ((t[4]'(by omega)).toNat % 2 = 1), decide ((t[4]'(by omega)).toNat / 2 % 2 = 1), decide ((t[4]'(by omega)).toNat / 2 / 2 % 2 = 1)⟩ : Sup) w
  rw [hr] at hsr
  have hb := fun w => rbytes_any (⟨((t[3]'(by omega)).toNat : Int), num8 t.data.toList 5, num8 t.data.toList 13, num8 t.data.toList 21, num8 t.data.toList 29, decide ((t[4]'(by omega)).toNat % 2 = 1), decide ((t[4]'(by omega)).toNat / 2 % 2 = 1), decide ((t[4]'(by omega)).toNat / 2 / 2 % 2 = 1)⟩ : Sup) w ⟨num8_range _ _, num8_range _ _, num8_range _ _, num8_range _ _⟩ (by dsimp only; omega) (by have := byte_lt t[3]; dsimp only; omega)
  rw [hd] at hb
  have hd' : (t.toList == t.toList) = true := beq_self_eq_true _
  clear hr h8
  clear hd
  dsimp only [supV] at *
  generalize num8 t.data.toList 5 = c at *
  generalize num8 t.data.toList 13 = b at *
  generalize num8 t.data.toList 21 = o at *
  generalize num8 t.data.toList 29 = p at *
  generalize decide (t[4].toNat % 2 = 1) = b0 at *
  generalize decide (t[4].toNat / 2 % 2 = 1) = b1 at *
  generalize decide (t[4].toNat / 2 / 2 % 2 = 1) = b2 at *
  have HN0 := Lib.hid hn0; clear hn0
  have HN1 := Lib.hid hn1; clear hn1
  have HN2 := Lib.hid hn2; clear hn2
  have HN3 := Lib.hid hn3; clear hn3
  have HU := Lib.hid hun; clear hun
  have HSR := Lib.hid hsr; clear hsr
  have HB := Lib.hid hb; clear hb
  have HO := Lib.hid ho; clear ho
  have H0 := Lib.hid ((Held.refl w).own (supC Sup.zero) 31 (n := 8) rfl)
  go_enter Tryz.func62, Tryz.ntmps62
  go_wp2_with fail
  refine (HO.out _).mono ?_
  rintro e w1 ⟨rfl, hb⟩
  have H1 := Lib.hid (H0.out.up hb)
  clear hb H0
  go_wp2_with fail
  refine (HU.out _).mono ?_
  rintro e w2 ⟨g, cp, rfl, hcp, hg0, hk0, hk1, hk2, hb⟩
  have H2 := Lib.hid (H1.out.up hb)
  clear hb H1
  have hkeep : ∀ w', Below w2.heap.size w2 w' → w'.cell? g = some (.bool b0) ∧ w'.cell? ⟨g.block, g.off + 1, none⟩ = some (.bool b1) ∧ w'.cell? ⟨g.block, g.off + 2, none⟩ = some (.bool b2) := fun w' hb =>
    ⟨(hb.cell (p := g) hg0).trans hk0, (hb.cell (p := ⟨g.block, g.off + 1, none⟩) hg0).trans hk1, (hb.cell (p := ⟨g.block, g.off + 2, none⟩) hg0).trans hk2⟩
  have HK := Lib.hid hkeep; clear hkeep hk0 hk1 hk2 hg0
  go_wp2_with fail
  have hw3 : IntKind.i64.wrap ((t[3].toNat : Nat) : Int) = ((t[3].toNat : Nat) : Int) := IntWalk.i64_in _ (by have := byte_lt t[3]; omega)
  refine held_begin (by kernel_rfl) (Held.refl w2) (fun v0 hH0 => ?_)
  refine wpAnyH_take (i := 0) (v := ?_) rfl (by kernel_rfl) (by kernel_rfl) (by kernel_rfl) (fun _ _ _ h => h) (Or.inl ⟨by rfl, ?_⟩) hH0 ?_
  rotate_left
  · (intro v hSw; go_simp; try with_reducible rfl)
  simp only [Act.put, List.setIfInBounds_toArray, List.set_cons_zero, List.set_cons_succ, List.getElem_toArray, List.getElem_cons_zero]
  refine wpAnyH_take (i := 1) (v := ?_) rfl (by kernel_rfl) (by kernel_rfl) (by kernel_rfl) (fun _ _ _ h => h) (Or.inl ⟨by rfl, ?_⟩) hH0 ?_
  rotate_left
  · (intro v hSw; go_simp; try with_reducible rfl)
  simp only [Act.put, List.setIfInBounds_toArray, List.set_cons_zero, List.set_cons_succ, List.getElem_toArray, List.getElem_cons_zero, List.getElem_cons_succ]
  refine wpAnyH_take (i := 2) (v := ?_) rfl (by kernel_rfl) (by kernel_rfl) (by kernel_rfl) (fun _ _ _ h => h) (Or.inl ⟨by rfl, ?_⟩) hH0 ?_
  rotate_left
  · (intro v hSw; go_simp; try with_reducible rfl)
  simp only [Act.put, List.setIfInBounds_toArray, List.set_cons_zero, List.set_cons_succ, List.getElem_toArray, List.getElem_cons_zero, List.getElem_cons_succ]
  refine wpAnyH_take (i := 3) (v := ?_) rfl (by kernel_rfl) (by kernel_rfl) (by kernel_rfl) (fun _ _ _ h => h) (Or.inl ⟨by rfl, ?_⟩) hH0 ?_
  rotate_left
  · (intro v hSw; go_simp; try with_reducible rfl)
  simp only [Act.put, List.setIfInBounds_toArray, List.set_cons_zero, List.set_cons_succ, List.getElem_toArray, List.getElem_cons_zero, List.getElem_cons_succ]
  refine wpAnyH_take (i := 5) (v := ?_) rfl (by kernel_rfl) (by kernel_rfl) (by kernel_rfl) (fun _ _ _ h => h) (Or.inl ⟨by rfl, ?_⟩) hH0 ?_
  rotate_left
  · (intro v hSw; go_simp; try with_reducible rfl)
  simp only [Act.put, List.setIfInBounds_toArray, List.set_cons_zero, List.set_cons_succ, List.getElem_toArray, List.getElem_cons_zero, List.getElem_cons_succ]
  refine wpAnyH_take (i := 7) (v := ?_) rfl (by kernel_rfl) (by kernel_rfl) (by kernel_rfl) (fun _ _ _ h => h) (Or.inl ⟨by rfl, ?_⟩) hH0 ?_
  rotate_left
  · (intro v hSw; go_simp; try with_reducible rfl)
  simp only [Act.put, List.setIfInBounds_toArray, List.set_cons_zero, List.set_cons_succ, List.getElem_toArray, List.getElem_cons_zero, List.getElem_cons_succ]
  refine wpAnyH_take (i := 9) (v := ?_) rfl (by kernel_rfl) (by kernel_rfl) (by kernel_rfl) (fun _ _ _ h => h) (Or.inl ⟨by rfl, ?_⟩) hH0 ?_
  rotate_left
  · (intro v hSw; go_simp; try with_reducible rfl)
  simp only [Act.put, List.setIfInBounds_toArray, List.set_cons_zero, List.set_cons_succ, List.getElem_toArray, List.getElem_cons_zero, List.getElem_cons_succ]
  refine wpAnyH_take (i := 13) (v := ?_) rfl (by kernel_rfl) (by kernel_rfl) (by kernel_rfl) (fun _ _ _ h => h) (Or.inl ⟨by rfl, ?_⟩) hH0 ?_
  rotate_left
  · (intro v hSw; go_simp; try with_reducible rfl)
  simp only [Act.put, List.setIfInBounds_toArray, List.set_cons_zero, List.set_cons_succ, List.getElem_toArray, List.getElem_cons_zero, List.getElem_cons_succ]
  refine wpAnyH_take (i := 14) (v := ?_) rfl (by kernel_rfl) (by kernel_rfl) (by kernel_rfl) (fun _ _ _ h => h) (Or.inl ⟨by rfl, ?_⟩) hH0 ?_
  rotate_left
  · (intro v hSw; go_simp; try with_reducible rfl)
  simp only [Act.put, List.setIfInBounds_toArray, List.set_cons_zero, List.set_cons_succ, List.getElem_toArray, List.getElem_cons_zero, List.getElem_cons_succ]
  refine wpAnyH_take (i := 15) (v := ?_) rfl (by kernel_rfl) (by kernel_rfl) (by kernel_rfl) (fun _ _ _ h => h) (Or.inl ⟨by rfl, ?_⟩) hH0 ?_
  rotate_left
  · (intro v hSw; obtain ⟨k0, k1, k2⟩ := HK.out _ hSw.below; go_simp; try with_reducible rfl)
  simp only [Act.put, List.setIfInBounds_toArray, List.set_cons_zero, List.set_cons_succ, List.getElem_toArray, List.getElem_cons_zero, List.getElem_cons_succ]
  refine wpAnyH_take (i := 16) (v := ?_) rfl (by kernel_rfl) (by kernel_rfl) (by kernel_rfl) (fun _ _ _ h => h) (Or.inl ⟨by rfl, ?_⟩) hH0 ?_
  rotate_left
  · (intro v hSw; go_simp; try with_reducible rfl)
  simp only [Act.put, List.setIfInBounds_toArray, List.set_cons_zero, List.set_cons_succ, List.getElem_toArray, List.getElem_cons_zero, List.getElem_cons_succ]
  refine wpAnyH_take (i := 17) (v := ?_) rfl (by kernel_rfl) (by kernel_rfl) (by kernel_rfl) (fun _ _ _ h => h) (Or.inl ⟨by rfl, ?_⟩) hH0 ?_
  rotate_left
  · (intro v hSw; go_simp; try with_reducible rfl)
  simp only [Act.put, List.setIfInBounds_toArray, List.set_cons_zero, List.set_cons_succ, List.getElem_toArray, List.getElem_cons_zero, List.getElem_cons_succ]
  refine wpAnyH_take (i := 18) (v := ?_) rfl (by kernel_rfl) (by kernel_rfl) (by kernel_rfl) (fun _ _ _ h => h) (Or.inl ⟨by rfl, ?_⟩) hH0 ?_
  rotate_left
  · (intro v hSw; obtain ⟨k0, k1, k2⟩ := HK.out _ hSw.below; go_simp; try with_reducible rfl)
  simp only [Act.put, List.setIfInBounds_toArray, List.set_cons_zero, List.set_cons_succ, List.getElem_toArray, List.getElem_cons_zero, List.getElem_cons_succ]
  refine wpAnyH_take (i := 19) (v := ?_) rfl (by kernel_rfl) (by kernel_rfl) (by kernel_rfl) (fun _ _ _ h => h) (Or.inl ⟨by rfl, ?_⟩) hH0 ?_
  rotate_left
  · (intro v hSw; go_simp; try with_reducible rfl)
  simp only [Act.put, List.setIfInBounds_toArray, List.set_cons_zero, List.set_cons_succ, List.getElem_toArray, List.getElem_cons_zero, List.getElem_cons_succ]
  refine wpAnyH_take (i := 20) (v := ?_) rfl (by kernel_rfl) (by kernel_rfl) (by kernel_rfl) (fun _ _ _ h => h) (Or.inl ⟨by rfl, ?_⟩) hH0 ?_
  rotate_left
  · (intro v hSw; go_simp; try with_reducible rfl)
  simp only [Act.put, List.setIfInBounds_toArray, List.set_cons_zero, List.set_cons_succ, List.getElem_toArray, List.getElem_cons_zero, List.getElem_cons_succ]
  refine wpAnyH_take (i := 21) (v := ?_) rfl (by kernel_rfl) (by kernel_rfl) (by kernel_rfl) (fun _ _ _ h => h) (Or.inl ⟨by rfl, ?_⟩) hH0 ?_
  rotate_left
  · (intro v hSw; obtain ⟨k0, k1, k2⟩ := HK.out _ hSw.below; go_simp; try with_reducible rfl)
  simp only [Act.put, List.setIfInBounds_toArray, List.set_cons_zero, List.set_cons_succ, List.getElem_toArray, List.getElem_cons_zero, List.getElem_cons_succ]
  refine wpAnyH_ready (rs := [4, 23]) (by kernel_rfl) (by simp) ?_
  refine AllReadyH.cons rfl (fun K hK => ?_) ?_
  · go_simp
    refine (HN0.out _).mono ?_
    rintro e v1 ⟨rfl, hb⟩
    go_wp2_with fail
    refine hK.out _ _ (hH0.up hb) (fun hH1 => ?_)
    clear hK K hH0
    refine wpAnyH_ready (rs := [6, 23]) (by kernel_rfl) (by simp) ?_
    refine AllReadyH.cons rfl (fun K hK => ?_) ?_
    · go_simp
      refine (HN1.out _).mono ?_
      rintro e v2 ⟨rfl, hb⟩
      go_wp2_with fail
      refine hK.out _ _ (hH1.up hb) (fun hH2 => ?_)
      clear hK K hH1
      refine wpAnyH_ready (rs := [8, 23]) (by kernel_rfl) (by simp) ?_
      refine AllReadyH.cons rfl (fun K hK => ?_) ?_
      · go_simp
        refine (HN2.out _).mono ?_
        rintro e v3 ⟨rfl, hb⟩
        go_wp2_with fail
        refine hK.out _ _ (hH2.up hb) (fun hH3 => ?_)
        clear hK K hH2
        refine wpAnyH_ready (rs := [10, 23]) (by kernel_rfl) (by simp) ?_
        refine AllReadyH.cons rfl (fun K hK => ?_) ?_
        · go_simp
          refine (HN3.out _).mono ?_
          rintro e v4 ⟨rfl, hb⟩
          go_wp2_with fail
          refine hK.out _ _ (hH3.up hb) (fun hH4 => ?_)
          clear hK K hH3
          refine wpAnyH_take (i := 11) (v := ?_) rfl (by kernel_rfl) (by kernel_rfl) (by kernel_rfl) (fun _ _ _ h => h) (Or.inl ⟨by rfl, ?_⟩) hH4 ?_
          rotate_left
          · (intro v hSw; go_simp; try with_reducible rfl)
          simp only [Act.put, List.setIfInBounds_toArray, List.set_cons_zero, List.set_cons_succ, List.getElem_toArray, List.getElem_cons_zero, List.getElem_cons_succ]
          refine wpAnyH_take (i := 12) (v := ?_) rfl (by kernel_rfl) (by kernel_rfl) (by kernel_rfl) (fun _ _ _ h => h) (Or.inl ⟨by rfl, ?_⟩) hH4 ?_
          rotate_left
          · (intro v hSw; go_simp; try with_reducible rfl)
          simp only [Act.put, List.setIfInBounds_toArray, List.set_cons_zero, List.set_cons_succ, List.getElem_toArray, List.getElem_cons_zero, List.getElem_cons_succ]
          refine wpAnyH_take (i := 22) (v := ?_) rfl (by kernel_rfl) (by kernel_rfl) (by kernel_rfl) (fun _ _ _ h => h) (Or.inl ⟨by rfl, ?_⟩) hH4 ?_
          rotate_left
          · (intro v hSw; go_simp; try with_reducible rfl)
          simp only [Act.put, List.setIfInBounds_toArray, List.set_cons_zero, List.set_cons_succ, List.getElem_toArray, List.getElem_cons_zero, List.getElem_cons_succ]
          refine wpAnyH_ready (rs := [23]) (by kernel_rfl) (by simp) ?_
          refine AllReadyH.cons rfl (fun K hK => ?_) AllReadyH.nil
          go_simp
          refine hK.out _ _ (hH4.alloc _) (fun hX => ?_)
          refine laid_own hH4 (n := 8) rfl (fun v5 hH5 => ?_)
          clear hK K hX hH4
          refine wpAnyH_ready (rs := [24]) (by kernel_rfl) (by simp) ?_
          refine AllReadyH.cons rfl (fun K hK => ?_) AllReadyH.nil
          obtain ⟨u0, u1, u2, u3, u4, u5, u6, u7, hx⟩ := hH5.o0.eight
          have kx := hx.cell
          have fx := hx.frozen
          go_simp
          refine hK.out _ _ (hH5.set8 ⟨8, by simp⟩ _ _ _ _ _ _ _ _) (fun hX => ?_)
          refine stored8 hH5 ⟨8, by simp⟩ hx (fun v6 hH6 hy => ?_)
          clear hK K hX hH5 hx kx fx
          refine wpAnyH_done (by kernel_rfl) ?_ _
          have kz := hy.cell
          have H3 := H2.out.up hH6.below
          clear hH6
          go_wp2_with fail
          refine (HSR.out _).mono ?_
          rintro e w5 ⟨rfl, hb⟩
          have H4 := H3.up hb
          have hq := hy.below hb
          have kq := hq.cell
          clear hb H3 hy kz
          go_wp2_with fail
          refine (HB.out _).mono ?_
          rintro e w6 ⟨rfl, hb⟩
          have H5 := H4.up hb
          have kq := (hq.below hb).cell
          clear hb H4 hq
          obtain ⟨u0, u1, u2, u3, u4, u5, u6, u7, hx⟩ := H5.o0.eight
          have k := hx.cell
          have f := hx.frozen
          have HX := Lib.hid hx; clear hx
          go_wp2_with fail
          have hz := HX.out.eight (.int .i64 ((t[3].toNat : Nat) : Int)) (.int .u64 c) (.int .u64 b) (.int .u64 o) (.int .u64 p) (.bool b0) (.bool b1) (.bool b2)
          have H9 : Held w [] [(w.heap.size, 8)] ((((((((w6.setCell ⟨w.heap.size, 0, none⟩ (.int .i64 ((t[3].toNat : Nat) : Int))).setCell ⟨w.heap.size, 1, none⟩ (.int .u64 c)).setCell ⟨w.heap.size, 2, none⟩ (.int .u64 b)).setCell ⟨w.heap.size, 3, none⟩ (.int .u64 o)).setCell ⟨w.heap.size, 4, none⟩ (.int .u64 p)).setCell ⟨w.heap.size, 5, none⟩ (.bool b0)).setCell ⟨w.heap.size, 6, none⟩ (.bool b1)).setCell ⟨w.heap.size, 7, none⟩ (.bool b2)) := H5.set8 ⟨8, by simp⟩ (.int .i64 ((t[3].toNat : Nat) : Int)) (.int .u64 c) (.int .u64 b) (.int .u64 o) (.int .u64 p) (.bool b0) (.bool b1) (.bool b2)
          generalize ((((((((w6.setCell ⟨w.heap.size, 0, none⟩ (.int .i64 ((t[3].toNat : Nat) : Int))).setCell ⟨w.heap.size, 1, none⟩ (.int .u64 c)).setCell ⟨w.heap.size, 2, none⟩ (.int .u64 b)).setCell ⟨w.heap.size, 3, none⟩ (.int .u64 o)).setCell ⟨w.heap.size, 4, none⟩ (.int .u64 p)).setCell ⟨w.heap.size, 5, none⟩ (.bool b0)).setCell ⟨w.heap.size, 6, none⟩ (.bool b1)).setCell ⟨w.heap.size, 7, none⟩ (.bool b2)) = w9 at *
          have kz := hz.cell
          refine bodyPost_ret (v := .tuple #[.agg #[.int .i64 ((t[3].toNat : Nat) : Int), .int .u64 c, .int .u64 b, .int .u64 o, .int .u64 p, .bool b0, .bool b1, .bool b2], .int .i64 0]) (by simp [results, Tryz.results62, go_sem, kz]) rfl ⟨rfl, H9.below⟩
        refine AllReadyH.cons rfl (fun K hK => ?_) AllReadyH.nil
        go_simp
        refine hK.out _ _ (hH3.alloc _) (fun hX => ?_)
        refine laid_own hH3 (n := 8) rfl (fun v7 hH7 => ?_)
        clear hK K hX hH3
        refine wpAnyH_ready (rs := [10]) (by kernel_rfl) (by simp) ?_
        refine AllReadyH.cons rfl (fun K hK => ?_) AllReadyH.nil
        go_simp
        refine (HN3.out _).mono ?_
        rintro e v8 ⟨rfl, hb⟩
        go_wp2_with fail
        refine hK.out _ _ (hH7.up hb) (fun hH8 => ?_)
        clear hK K hH7
        refine wpAnyH_take (i := 11) (v := ?_) rfl (by kernel_rfl) (by kernel_rfl) (by kernel_rfl) (fun _ _ _ h => h) (Or.inl ⟨by rfl, ?_⟩) hH8 ?_
        rotate_left
        · (intro v hSw; go_simp; try with_reducible rfl)
        simp only [Act.put, List.setIfInBounds_toArray, List.set_cons_zero, List.set_cons_succ, List.getElem_toArray, List.getElem_cons_zero, List.getElem_cons_succ]
        refine wpAnyH_take (i := 12) (v := ?_) rfl (by kernel_rfl) (by kernel_rfl) (by kernel_rfl) (fun _ _ _ h => h) (Or.inl ⟨by rfl, ?_⟩) hH8 ?_
        rotate_left
        · (intro v hSw; go_simp; try with_reducible rfl)
        simp only [Act.put, List.setIfInBounds_toArray, List.set_cons_zero, List.set_cons_succ, List.getElem_toArray, List.getElem_cons_zero, List.getElem_cons_succ]
        refine wpAnyH_take (i := 22) (v := ?_) rfl (by kernel_rfl) (by kernel_rfl) (by kernel_rfl) (fun _ _ _ h => h) (Or.inl ⟨by rfl, ?_⟩) hH8 ?_
        rotate_left
        · (intro v hSw; go_simp; try with_reducible rfl)
        simp only [Act.put, List.setIfInBounds_toArray, List.set_cons_zero, List.set_cons_succ, List.getElem_toArray, List.getElem_cons_zero, List.getElem_cons_succ]
        refine wpAnyH_ready (rs := [24]) (by kernel_rfl) (by simp) ?_
        refine AllReadyH.cons rfl (fun K hK => ?_) AllReadyH.nil
        obtain ⟨u0, u1, u2, u3, u4, u5, u6, u7, hx⟩ := hH8.o0.eight
        have kx := hx.cell
        have fx := hx.frozen
        go_simp
        refine hK.out _ _ (hH8.set8 ⟨8, by simp⟩ _ _ _ _ _ _ _ _) (fun hX => ?_)
        refine stored8 hH8 ⟨8, by simp⟩ hx (fun v9 hH9 hy => ?_)
        clear hK K hX hH8 hx kx fx
        refine wpAnyH_done (by kernel_rfl) ?_ _
        have kz := hy.cell
        have H3 := H2.out.up hH9.below
        clear hH9
        go_wp2_with fail
        refine (HSR.out _).mono ?_
        rintro e w5 ⟨rfl, hb⟩
        have H4 := H3.up hb
        have hq := hy.below hb
        have kq := hq.cell
        clear hb H3 hy kz
        go_wp2_with fail
        refine (HB.out _).mono ?_
        rintro e w6 ⟨rfl, hb⟩
        have H5 := H4.up hb
        have kq := (hq.below hb).cell
        clear hb H4 hq
        obtain ⟨u0, u1, u2, u3, u4, u5, u6, u7, hx⟩ := H5.o0.eight
        have k := hx.cell
        have f := hx.frozen
        have HX := Lib.hid hx; clear hx
        go_wp2_with fail
        have hz := HX.out.eight (.int .i64 ((t[3].toNat : Nat) : Int)) (.int .u64 c) (.int .u64 b) (.int .u64 o) (.int .u64 p) (.bool b0) (.bool b1) (.bool b2)
        have H9 : Held w [] [(w.heap.size, 8)] ((((((((w6.setCell ⟨w.heap.size, 0, none⟩ (.int .i64 ((t[3].toNat : Nat) : Int))).setCell ⟨w.heap.size, 1, none⟩ (.int .u64 c)).setCell ⟨w.heap.size, 2, none⟩ (.int .u64 b)).setCell ⟨w.heap.size, 3, none⟩ (.int .u64 o)).setCell ⟨w.heap.size, 4, none⟩ (.int .u64 p)).setCell ⟨w.heap.size, 5, none⟩ (.bool b0)).setCell ⟨w.heap.size, 6, none⟩ (.bool b1)).setCell ⟨w.heap.size, 7, none⟩ (.bool b2)) := H5.set8 ⟨8, by simp⟩ (.int .i64 ((t[3].toNat : Nat) : Int)) (.int .u64 c) (.int .u64 b) (.int .u64 o) (.int .u64 p) (.bool b0) (.bool b1) (.bool b2)
        generalize ((((((((w6.setCell ⟨w.heap.size, 0, none⟩ (.int .i64 ((t[3].toNat : Nat) : Int))).setCell ⟨w.heap.size, 1, none⟩ (.int .u64 c)).setCell ⟨w.heap.size, 2, none⟩ (.int .u64 b)).setCell ⟨w.heap.size, 3, none⟩ (.int .u64 o)).setCell ⟨w.heap.size, 4, none⟩ (.int .u64 p)).setCell ⟨w.heap.size, 5, none⟩ (.bool b0)).setCell ⟨w.heap.size, 6, none⟩ (.bool b1)).setCell ⟨w.heap.size, 7, none⟩ (.bool b2)) = w9 at *
        have kz := hz.cell
        refine bodyPost_ret (v := .tuple #[.agg #[.int .i64 ((t[3].toNat : Nat) : Int), .int .u64 c, .int .u64 b, .int .u64 o, .int .u64 p, .bool b0, .bool b1, .bool b2], .int .i64 0]) (by simp [results, Tryz.results62, go_sem, kz]) rfl ⟨rfl, H9.below⟩
      refine AllReadyH.cons rfl (fun K hK => ?_) AllReadyH.nil
      go_simp
      refine hK.out _ _ (hH2.alloc _) (fun hX => ?_)
      refine laid_own hH2 (n := 8) rfl (fun v10 hH10 => ?_)
      clear hK K hX hH2
      refine wpAnyH_ready (rs := [8]) (by kernel_rfl) (by simp) ?_
      refine AllReadyH.cons rfl (fun K hK => ?_) AllReadyH.nil
      go_simp
      refine (HN2.out _).mono ?_
      rintro e v11 ⟨rfl, hb⟩
      go_wp2_with fail
      refine hK.out _ _ (hH10.up hb) (fun hH11 => ?_)
      clear hK K hH10
      refine wpAnyH_ready (rs := [10]) (by kernel_rfl) (by simp) ?_
      refine AllReadyH.cons rfl (fun K hK => ?_) AllReadyH.nil
      go_simp
      refine (HN3.out _).mono ?_
      rintro e v12 ⟨rfl, hb⟩
      go_wp2_with fail
      refine hK.out _ _ (hH11.up hb) (fun hH12 => ?_)
      clear hK K hH11
      refine wpAnyH_take (i := 11) (v := ?_) rfl (by kernel_rfl) (by kernel_rfl) (by kernel_rfl) (fun _ _ _ h => h) (Or.inl ⟨by rfl, ?_⟩) hH12 ?_
      rotate_left
      · (intro v hSw; go_simp; try with_reducible rfl)
      simp only [Act.put, List.setIfInBounds_toArray, List.set_cons_zero, List.set_cons_succ, List.getElem_toArray, List.getElem_cons_zero, List.getElem_cons_succ]
      refine wpAnyH_take (i := 12) (v := ?_) rfl (by kernel_rfl) (by kernel_rfl) (by kernel_rfl) (fun _ _ _ h => h) (Or.inl ⟨by rfl, ?_⟩) hH12 ?_
      rotate_left
      · (intro v hSw; go_simp; try with_reducible rfl)
      simp only [Act.put, List.setIfInBounds_toArray, List.set_cons_zero, List.set_cons_succ, List.getElem_toArray, List.getElem_cons_zero, List.getElem_cons_succ]
      refine wpAnyH_take (i := 22) (v := ?_) rfl (by kernel_rfl) (by kernel_rfl) (by kernel_rfl) (fun _ _ _ h => h) (Or.inl ⟨by rfl, ?_⟩) hH12 ?_
      rotate_left
      · (intro v hSw; go_simp; try with_reducible rfl)
      simp only [Act.put, List.setIfInBounds_toArray, List.set_cons_zero, List.set_cons_succ, List.getElem_toArray, List.getElem_cons_zero, List.getElem_cons_succ]
      refine wpAnyH_ready (rs := [24]) (by kernel_rfl) (by simp) ?_
      refine AllReadyH.cons rfl (fun K hK => ?_) AllReadyH.nil
      obtain ⟨u0, u1, u2, u3, u4, u5, u6, u7, hx⟩ := hH12.o0.eight
      have kx := hx.cell
      have fx := hx.frozen
      go_simp
      refine hK.out _ _ (hH12.set8 ⟨8, by simp⟩ _ _ _ _ _ _ _ _) (fun hX => ?_)
      refine stored8 hH12 ⟨8, by simp⟩ hx (fun v13 hH13 hy => ?_)
      clear hK K hX hH12 hx kx fx
      refine wpAnyH_done (by kernel_rfl) ?_ _
      have kz := hy.cell
      have H3 := H2.out.up hH13.below
      clear hH13
      go_wp2_with fail
      refine (HSR.out _).mono ?_
      rintro e w5 ⟨rfl, hb⟩
      have H4 := H3.up hb
      have hq := hy.below hb
      have kq := hq.cell
      clear hb H3 hy kz
      go_wp2_with fail
      refine (HB.out _).mono ?_
      rintro e w6 ⟨rfl, hb⟩
      have H5 := H4.up hb
      have kq := (hq.below hb).cell
      clear hb H4 hq
      obtain ⟨u0, u1, u2, u3, u4, u5, u6, u7, hx⟩ := H5.o0.eight
      have k := hx.cell
      have f := hx.frozen
      have HX := Lib.hid hx; clear hx
      go_wp2_with fail
      have hz := HX.out.eight (.int .i64 ((t[3].toNat : Nat) : Int)) (.int .u64 c) (.int .u64 b) (.int .u64 o) (.int .u64 p) (.bool b0) (.bool b1) (.bool b2)
      have H9 : Held w [] [(w.heap.size, 8)] ((((((((w6.setCell ⟨w.heap.size, 0, none⟩ (.int .i64 ((t[3].toNat : Nat) : Int))).setCell ⟨w.heap.size, 1, none⟩ (.int .u64 c)).setCell ⟨w.heap.size, 2, none⟩ (.int .u64 b)).setCell ⟨w.heap.size, 3, none⟩ (.int .u64 o)).setCell ⟨w.heap.size, 4, none⟩ (.int .u64 p)).setCell ⟨w.heap.size, 5, none⟩ (.bool b0)).setCell ⟨w.heap.size, 6, none⟩ (.bool b1)).setCell ⟨w.heap.size, 7, none⟩ (.bool b2)) := H5.set8 ⟨8, by simp⟩ (.int .i64 ((t[3].toNat : Nat) : Int)) (.int .u64 c) (.int .u64 b) (.int .u64 o) (.int .u64 p) (.bool b0) (.bool b1) (.bool b2)
      generalize ((((((((w6.setCell ⟨w.heap.size, 0, none⟩ (.int .i64 ((t[3].toNat : Nat) : Int))).setCell ⟨w.heap.size, 1, none⟩ (.int .u64 c)).setCell ⟨w.heap.size, 2, none⟩ (.int .u64 b)).setCell ⟨w.heap.size, 3, none⟩ (.int .u64 o)).setCell ⟨w.heap.size, 4, none⟩ (.int .u64 p)).setCell ⟨w.heap.size, 5, none⟩ (.bool b0)).setCell ⟨w.heap.size, 6, none⟩ (.bool b1)).setCell ⟨w.heap.size, 7, none⟩ (.bool b2)) = w9 at *
      have kz := hz.cell
      refine bodyPost_ret (v := .tuple #[.agg #[.int .i64 ((t[3].toNat : Nat) : Int), .int .u64 c, .int .u64 b, .int .u64 o, .int .u64 p, .bool b0, .bool b1, .bool b2], .int .i64 0]) (by simp [results, Tryz.results62, go_sem, kz]) rfl ⟨rfl, H9.below⟩
    refine AllReadyH.cons rfl (fun K hK => ?_) AllReadyH.nil
    go_simp
    refine hK.out _ _ (hH1.alloc _) (fun hX => ?_)
    refine laid_own hH1 (n := 8) rfl (fun v14 hH14 => ?_)
    clear hK K hX hH1
    refine wpAnyH_ready (rs := [6]) (by kernel_rfl) (by simp) ?_
    refine AllReadyH.cons rfl (fun K hK => ?_) AllReadyH.nil
    go_simp
    refine (HN1.out _).mono ?_
    rintro e v15 ⟨rfl, hb⟩
    go_wp2_with fail
    refine hK.out _ _ (hH14.up hb) (fun hH15 => ?_)
    clear hK K hH14
    refine wpAnyH_ready (rs := [8]) (by kernel_rfl) (by simp) ?_
    refine AllReadyH.cons rfl (fun K hK => ?_) AllReadyH.nil
    go_simp
    refine (HN2.out _).mono ?_
    rintro e v16 ⟨rfl, hb⟩
    go_wp2_with fail
    refine hK.out _ _ (hH15.up hb) (fun hH16 => ?_)
    clear hK K hH15
    refine wpAnyH_ready (rs := [10]) (by kernel_rfl) (by simp) ?_
    refine AllReadyH.cons rfl (fun K hK => ?_) AllReadyH.nil
    go_simp
    refine (HN3.out _).mono ?_
    rintro e v17 ⟨rfl, hb⟩
    go_wp2_with fail
    refine hK.out _ _ (hH16.up hb) (fun hH17 => ?_)
    clear hK K hH16
    refine wpAnyH_take (i := 11) (v := ?_) rfl (by kernel_rfl) (by kernel_rfl) (by kernel_rfl) (fun _ _ _ h => h) (Or.inl ⟨by rfl, ?_⟩) hH17 ?_
    rotate_left
    · (intro v hSw; go_simp; try with_reducible rfl)
    simp only [Act.put, List.setIfInBounds_toArray, List.set_cons_zero, List.set_cons_succ, List.getElem_toArray, List.getElem_cons_zero, List.getElem_cons_succ]
    refine wpAnyH_take (i := 12) (v := ?_) rfl (by kernel_rfl) (by kernel_rfl) (by kernel_rfl) (fun _ _ _ h => h) (Or.inl ⟨by rfl, ?_⟩) hH17 ?_
    rotate_left
    · (intro v hSw; go_simp; try with_reducible rfl)
    simp only [Act.put, List.setIfInBounds_toArray, List.set_cons_zero, List.set_cons_succ, List.getElem_toArray, List.getElem_cons_zero, List.getElem_cons_succ]
    refine wpAnyH_take (i := 22) (v := ?_) rfl (by kernel_rfl) (by kernel_rfl) (by kernel_rfl) (fun _ _ _ h => h) (Or.inl ⟨by rfl, ?_⟩) hH17 ?_
    rotate_left
    · (intro v hSw; go_simp; try with_reducible rfl)
    simp only [Act.put, List.setIfInBounds_toArray, List.set_cons_zero, List.set_cons_succ, List.getElem_toArray, List.getElem_cons_zero, List.getElem_cons_succ]
    refine wpAnyH_ready (rs := [24]) (by kernel_rfl) (by simp) ?_
    refine AllReadyH.cons rfl (fun K hK => ?_) AllReadyH.nil
    obtain ⟨u0, u1, u2, u3, u4, u5, u6, u7, hx⟩ := hH17.o0.eight
    have kx := hx.cell
    have fx := hx.frozen
    go_simp
    refine hK.out _ _ (hH17.set8 ⟨8, by simp⟩ _ _ _ _ _ _ _ _) (fun hX => ?_)
    refine stored8 hH17 ⟨8, by simp⟩ hx (fun v18 hH18 hy => ?_)
    clear hK K hX hH17 hx kx fx
    refine wpAnyH_done (by kernel_rfl) ?_ _
    have kz := hy.cell
    have H3 := H2.out.up hH18.below
    clear hH18
    go_wp2_with fail
    refine (HSR.out _).mono ?_
    rintro e w5 ⟨rfl, hb⟩
    have H4 := H3.up hb
    have hq := hy.below hb
    have kq := hq.cell
    clear hb H3 hy kz
    go_wp2_with fail
    refine (HB.out _).mono ?_
    rintro e w6 ⟨rfl, hb⟩
    have H5 := H4.up hb
    have kq := (hq.below hb).cell
    clear hb H4 hq
    obtain ⟨u0, u1, u2, u3, u4, u5, u6, u7, hx⟩ := H5.o0.eight
    have k := hx.cell
    have f := hx.frozen
    have HX := Lib.hid hx; clear hx
    go_wp2_with fail
    have hz := HX.out.eight (.int .i64 ((t[3].toNat : Nat) : Int)) (.int .u64 c) (.int .u64 b) (.int .u64 o) (.int .u64 p) (.bool b0) (.bool b1) (.bool b2)
    have H9 : Held w [] [(w.heap.size, 8)] ((((((((w6.setCell ⟨w.heap.size, 0, none⟩ (.int .i64 ((t[3].toNat : Nat) : Int))).setCell ⟨w.heap.size, 1, none⟩ (.int .u64 c)).setCell ⟨w.heap.size, 2, none⟩ (.int .u64 b)).setCell ⟨w.heap.size, 3, none⟩ (.int .u64 o)).setCell ⟨w.heap.size, 4, none⟩ (.int .u64 p)).setCell ⟨w.heap.size, 5, none⟩ (.bool b0)).setCell ⟨w.heap.size, 6, none⟩ (.bool b1)).setCell ⟨w.heap.size, 7, none⟩ (.bool b2)) := H5.set8 ⟨8, by simp⟩ (.int .i64 ((t[3].toNat : Nat) : Int)) (.int .u64 c) (.int .u64 b) (.int .u64 o) (.int .u64 p) (.bool b0) (.bool b1) (.bool b2)
    generalize ((((((((w6.setCell ⟨w.heap.size, 0, none⟩ (.int .i64 ((t[3].toNat : Nat) : Int))).setCell ⟨w.heap.size, 1, none⟩ (.int .u64 c)).setCell ⟨w.heap.size, 2, none⟩ (.int .u64 b)).setCell ⟨w.heap.size, 3, none⟩ (.int .u64 o)).setCell ⟨w.heap.size, 4, none⟩ (.int .u64 p)).setCell ⟨w.heap.size, 5, none⟩ (.bool b0)).setCell ⟨w.heap.size, 6, none⟩ (.bool b1)).setCell ⟨w.heap.size, 7, none⟩ (.bool b2)) = w9 at *
    have kz := hz.cell
    refine bodyPost_ret (v := .tuple #[.agg #[.int .i64 ((t[3].toNat : Nat) : Int), .int .u64 c, .int .u64 b, .int .u64 o, .int .u64 p, .bool b0, .bool b1, .bool b2], .int .i64 0]) (by simp [results, Tryz.results62, go_sem, kz]) rfl ⟨rfl, H9.below⟩
  refine AllReadyH.cons rfl (fun K hK => ?_) AllReadyH.nil
  go_simp
  refine hK.out _ _ (hH0.alloc _) (fun hX => ?_)
  refine laid_own hH0 (n := 8) rfl (fun v19 hH19 => ?_)
  clear hK K hX hH0
  refine wpAnyH_ready (rs := [4]) (by kernel_rfl) (by simp) ?_
  refine AllReadyH.cons rfl (fun K hK => ?_) AllReadyH.nil
  go_simp
  refine (HN0.out _).mono ?_
  rintro e v20 ⟨rfl, hb⟩
  go_wp2_with fail
  refine hK.out _ _ (hH19.up hb) (fun hH20 => ?_)
  clear hK K hH19
  refine wpAnyH_ready (rs := [6]) (by kernel_rfl) (by simp) ?_
  refine AllReadyH.cons rfl (fun K hK => ?_) AllReadyH.nil
  go_simp
  refine (HN1.out _).mono ?_
  rintro e v21 ⟨rfl, hb⟩
  go_wp2_with fail
  refine hK.out _ _ (hH20.up hb) (fun hH21 => ?_)
  clear hK K hH20
  refine wpAnyH_ready (rs := [8]) (by kernel_rfl) (by simp) ?_
  refine AllReadyH.cons rfl (fun K hK => ?_) AllReadyH.nil
  go_simp
  refine (HN2.out _).mono ?_
  rintro e v22 ⟨rfl, hb⟩
  go_wp2_with fail
  refine hK.out _ _ (hH21.up hb) (fun hH22 => ?_)
  clear hK K hH21
  refine wpAnyH_ready (rs := [10]) (by kernel_rfl) (by simp) ?_
  refine AllReadyH.cons rfl (fun K hK => ?_) AllReadyH.nil
  go_simp
  refine (HN3.out _).mono ?_
  rintro e v23 ⟨rfl, hb⟩
  go_wp2_with fail
  refine hK.out _ _ (hH22.up hb) (fun hH23 => ?_)
  clear hK K hH22
  refine wpAnyH_take (i := 11) (v := ?_) rfl (by kernel_rfl) (by kernel_rfl) (by kernel_rfl) (fun _ _ _ h => h) (Or.inl ⟨by rfl, ?_⟩) hH23 ?_
  rotate_left
  · (intro v hSw; go_simp; try with_reducible rfl)
  simp only [Act.put, List.setIfInBounds_toArray, List.set_cons_zero, List.set_cons_succ, List.getElem_toArray, List.getElem_cons_zero, List.getElem_cons_succ]
  refine wpAnyH_take (i := 12) (v := ?_) rfl (by kernel_rfl) (by kernel_rfl) (by kernel_rfl) (fun _ _ _ h => h) (Or.inl ⟨by rfl, ?_⟩) hH23 ?_
  rotate_left
  · (intro v hSw; go_simp; try with_reducible rfl)
  simp only [Act.put, List.setIfInBounds_toArray, List.set_cons_zero, List.set_cons_succ, List.getElem_toArray, List.getElem_cons_zero, List.getElem_cons_succ]
  refine wpAnyH_take (i := 22) (v := ?_) rfl (by kernel_rfl) (by kernel_rfl) (by kernel_rfl) (fun _ _ _ h => h) (Or.inl ⟨by rfl, ?_⟩) hH23 ?_
  rotate_left
  · (intro v hSw; go_simp; try with_reducible rfl)
  simp only [Act.put, List.setIfInBounds_toArray, List.set_cons_zero, List.set_cons_succ, List.getElem_toArray, List.getElem_cons_zero, List.getElem_cons_succ]
  refine wpAnyH_ready (rs := [24]) (by kernel_rfl) (by simp) ?_
  refine AllReadyH.cons rfl (fun K hK => ?_) AllReadyH.nil
  obtain ⟨u0, u1, u2, u3, u4, u5, u6, u7, hx⟩ := hH23.o0.eight
  have kx := hx.cell
  have fx := hx.frozen
  go_simp
  refine hK.out _ _ (hH23.set8 ⟨8, by simp⟩ _ _ _ _ _ _ _ _) (fun hX => ?_)
  refine stored8 hH23 ⟨8, by simp⟩ hx (fun v24 hH24 hy => ?_)
  clear hK K hX hH23 hx kx fx
  refine wpAnyH_done (by kernel_rfl) ?_ _
  have kz := hy.cell
  have H3 := H2.out.up hH24.below
  clear hH24
  go_wp2_with fail
  refine (HSR.out _).mono ?_
  rintro e w5 ⟨rfl, hb⟩
  have H4 := H3.up hb
  have hq := hy.below hb
  have kq := hq.cell
  clear hb H3 hy kz
  go_wp2_with fail
  refine (HB.out _).mono ?_
  rintro e w6 ⟨rfl, hb⟩
  have H5 := H4.up hb
  have kq := (hq.below hb).cell
  clear hb H4 hq
  obtain ⟨u0, u1, u2, u3, u4, u5, u6, u7, hx⟩ := H5.o0.eight
  have k := hx.cell
  have f := hx.frozen
  have HX := Lib.hid hx; clear hx
  go_wp2_with fail
  have hz := HX.out.eight (.int .i64 ((t[3].toNat : Nat) : Int)) (.int .u64 c) (.int .u64 b) (.int .u64 o) (.int .u64 p) (.bool b0) (.bool b1) (.bool b2)
  have H9 : Held w [] [(w.heap.size, 8)] ((((((((w6.setCell ⟨w.heap.size, 0, none⟩ (.int .i64 ((t[3].toNat : Nat) : Int))).setCell ⟨w.heap.size, 1, none⟩ (.int .u64 c)).setCell ⟨w.heap.size, 2, none⟩ (.int .u64 b)).setCell ⟨w.heap.size, 3, none⟩ (.int .u64 o)).setCell ⟨w.heap.size, 4, none⟩ (.int .u64 p)).setCell ⟨w.heap.size, 5, none⟩ (.bool b0)).setCell ⟨w.heap.size, 6, none⟩ (.bool b1)).setCell ⟨w.heap.size, 7, none⟩ (.bool b2)) := H5.set8 ⟨8, by simp⟩ (.int .i64 ((t[3].toNat : Nat) : Int)) (.int .u64 c) (.int .u64 b) (.int .u64 o) (.int .u64 p) (.bool b0) (.bool b1) (.bool b2)
  generalize ((((((((w6.setCell ⟨w.heap.size, 0, none⟩ (.int .i64 ((t[3].toNat : Nat) : Int))).setCell ⟨w.heap.size, 1, none⟩ (.int .u64 c)).setCell ⟨w.heap.size, 2, none⟩ (.int .u64 b)).setCell ⟨w.heap.size, 3, none⟩ (.int .u64 o)).setCell ⟨w.heap.size, 4, none⟩ (.int .u64 p)).setCell ⟨w.heap.size, 5, none⟩ (.bool b0)).setCell ⟨w.heap.size, 6, none⟩ (.bool b1)).setCell ⟨w.heap.size, 7, none⟩ (.bool b2)) = w9 at *
  have kz := hz.cell
  refine bodyPost_ret (v := .tuple #[.agg #[.int .i64 ((t[3].toNat : Nat) : Int), .int .u64 c, .int .u64 b, .int .u64 o, .int .u64 p, .bool b0, .bool b1, .bool b2], .int .i64 0]) (by simp [results, Tryz.results62, go_sem, kz]) rfl ⟨rfl, H9.below⟩

end

end Go.Proofs.YtjkgellkkjjnbaaGreatDoor
