/- What parse answers to bytes that may be a superblock's. Under: both package variables as they are laid. -/
import Derived.Test.YtjkgellkkjjnbaaGreatDoorKU
namespace Go.Proofs.YtjkgellkkjjnbaaGreatDoor
open Go.RowKit

/-- Three flags of a byte. -/
theorem bits3 {w : World} {A : Option Addr} {b0 b1 b2 : Bool} (h : Bs w w.heap.size A [b0, b1, b2]) : ∃ g, A = some g ∧ g.block < w.heap.size ∧ w.cell? g = some (.bool b0) ∧ w.cell? ⟨g.block, g.off + 1, none⟩ = some (.bool b1) ∧ w.cell? ⟨g.block, g.off + 2, none⟩ = some (.bool b2) := by
  obtain ⟨g, rfl, hl, h0⟩ := h 0 b0 rfl
  obtain ⟨g1, e1, _, h1⟩ := h 1 b1 rfl
  obtain ⟨g2, e2, _, h2⟩ := h 2 b2 rfl
  injection e1 with e1
  injection e2 with e2
  subst e1; subst e2
  have a0 : g.add 0 = g := by unfold Addr.add; rw [if_pos rfl]
  have a1 := add_succ g 0
  have a2 := add_succ g 1
  have e3 : (g.add 1).off = g.off + 1 := by unfold Addr.add; rw [if_neg (by decide)]
  rw [add_block, e3] at a2
  rw [a0] at a1 h0
  exact ⟨g, rfl, hl, h0, by rw [a1]; exact h1, by rw [a2]; exact h2⟩

theorem unflag3 (x : Nat) (w : World) (h : x < 8) : Calls Tryz.prog 119 #[.int .u8 (x : Int), .int .i64 3] w fun e w' =>
    ∃ g c, e = .returned (.tuple #[.slice (some g) 3 c, .bool true]) ∧ 3 ≤ c ∧ g.block < w'.heap.size ∧ w'.cell? g = some (.bool (decide (x % 2 = 1))) ∧ w'.cell? ⟨g.block, g.off + 1, none⟩ = some (.bool (decide (x / 2 % 2 = 1))) ∧ w'.cell? ⟨g.block, g.off + 2, none⟩ = some (.bool (decide (x / 2 / 2 % 2 = 1))) ∧ Below w.heap.size w w' := by
  refine (unflag_yes (x : Int) 3 w (by omega) (by omega) (by decide) (by simpa using h)).mono ?_
  rintro e w' ⟨A, c, rfl, hc, _, hbs, hb⟩
  rw [Int.toNat_natCast, unfl3] at *
  obtain ⟨g, rfl, hl, h0, h1, h2⟩ := bits3 hbs
  exact ⟨g, c, rfl, hc, hl, h0, h1, h2, hb⟩

theorem runflag3 (x : Nat) (w : World) (h : x < 8) : Calls Tryz.prog 96 #[.int .u8 (x : Int), .int .i64 3] w fun e w' =>
    ∃ g c, e = .returned (.tuple #[.slice (some g) 3 c, .bool true]) ∧ 3 ≤ c ∧ g.block < w'.heap.size ∧ w'.cell? g = some (.bool (decide (x % 2 = 1))) ∧ w'.cell? ⟨g.block, g.off + 1, none⟩ = some (.bool (decide (x / 2 % 2 = 1))) ∧ w'.cell? ⟨g.block, g.off + 2, none⟩ = some (.bool (decide (x / 2 / 2 % 2 = 1))) ∧ Below w.heap.size w w' := by
  refine (runflag_any (x : Int) 3 w (by omega) (by omega) (by decide)).mono ?_
  rintro e w' (⟨_, A, c, rfl, hc, _, hbs, hb⟩ | ⟨hn, _⟩)
  · rw [Int.toNat_natCast, unfl3] at *
    obtain ⟨g, rfl, hl, h0, h1, h2⟩ := bits3 hbs
    exact ⟨g, c, rfl, hc, hl, h0, h1, h2, hb⟩
  · exact absurd (by simpa using h) hn

section
variable (s t : ByteArray) (a : Addr) (w : World)

set_option maxRecDepth 100000 in
set_option maxHeartbeats 8000000 in
theorem parse_ok (hg : Glob w a) (ho : ∀ w, Calls Tryz.prog 57 #[.string s] w fun e w' => e = .returned (.tuple #[.string t, .int .i64 0]) ∧ Below w.heap.size w w') (hl : (t.size : Int) = 37) (hh : t.extract 0 3 = ⟨#[71, 77, 1]⟩) (h8 : (t[4]'(by omega)).toNat < 8)
    (hr : (⟨((t[3]'(by omega)).toNat : Int), num8 (t.extract 5 t.size).data.toList 0, num8 (t.extract 5 t.size).data.toList 8, num8 (t.extract 5 t.size).data.toList 16, num8 (t.extract 5 t.size).data.toList 24, decide ((t[4]'(by omega)).toNat % 2 = 1), decide ((t[4]'(by omega)).toNat / 2 % 2 = 1), decide ((t[4]'(by omega)).toNat / 2 / 2 % 2 = 1)⟩ : Sup).right = true) :
    Calls Tryz.prog 91 #[.string s] w fun e w' => ∃ v, e = .returned (.tuple #[supV (⟨((t[3]'(by omega)).toNat : Int), num8 (t.extract 5 t.size).data.toList 0, num8 (t.extract 5 t.size).data.toList 8, num8 (t.extract 5 t.size).data.toList 16, num8 (t.extract 5 t.size).data.toList 24, decide ((t[4]'(by omega)).toNat % 2 = 1), decide ((t[4]'(by omega)).toNat / 2 % 2 = 1), decide ((t[4]'(by omega)).toNat / 2 / 2 % 2 = 1)⟩ : Sup), v]) ∧ ErrOf a v 0 ∧ Below w.heap.size w w' := by
  have hh' : ((t.extract 0 3).toList == [71, 77, 1]) = true := by rw [hh, text_head, beq_self_eq_true]
  clear hh
  have hun := fun w => unflag3 t[4].toNat w h8
  have hrd := fun w => sread_any (t.extract 5 t.size) w (by simp; omega)
  have hsr := fun w => sright_any (⟨((t[3]'(by omega)).toNat : Int), num8 (t.extract 5 t.size).data.toList 0, num8 (t.extract 5 t.size).data.toList 8, num8 (t.extract 5 t.size).data.toList 16, num8 (t.extract 5 t.size).data.toList 24, decide ((t[4]'(by omega)).toNat % 2 = 1), decide ((t[4]'(by omega)).toNat / 2 % 2 = 1), decide ((t[4]'(by omega)).toNat / 2 / 2 % 2 = 1)⟩ : Sup) w
  rw [hr] at hsr
  clear hr h8
  dsimp only [supV] at *
  generalize num8 (t.extract 5 t.size).data.toList 0 = c at *
  generalize num8 (t.extract 5 t.size).data.toList 8 = b at *
  generalize num8 (t.extract 5 t.size).data.toList 16 = o at *
  generalize num8 (t.extract 5 t.size).data.toList 24 = p at *
  generalize decide (t[4].toNat % 2 = 1) = b0 at *
  generalize decide (t[4].toNat / 2 % 2 = 1) = b1 at *
  generalize decide (t[4].toNat / 2 / 2 % 2 = 1) = b2 at *
  have HU := Lib.hid hun; clear hun
  have HRD := Lib.hid hrd; clear hrd
  have HSR := Lib.hid hsr; clear hsr
  have HO := Lib.hid ho; clear ho
  have HG := Lib.hid hg; clear hg
  have H0 := Lib.hid ((Held.refl w).own (supC Sup.zero) 31 (n := 8) rfl)
  go_enter Tryz.func91, Tryz.ntmps91
  go_wp2_with fail
  refine (HO.out _).mono ?_
  rintro e w1 ⟨rfl, hb⟩
  have H1 := Lib.hid (H0.out.up hb)
  clear hb H0
  go_wp2_with fail
  refine (HU.out _).mono ?_
  rintro e w2 ⟨g, cp, rfl, hcp, hg0, hk0, hk1, hk2, hb⟩
  have H2 := Lib.hid (H1.out.up hb)
  clear hb H1
  have hkeep : ∀ w', Below w2.heap.size w2 w' → w'.cell? g = some (.bool b0) ∧ w'.cell? ⟨g.block, g.off + 1, none⟩ = some (.bool b1) ∧ w'.cell? ⟨g.block, g.off + 2, none⟩ = some (.bool b2) := fun w' hb =>
    ⟨(hb.cell (p := g) hg0).trans hk0, (hb.cell (p := ⟨g.block, g.off + 1, none⟩) hg0).trans hk1, (hb.cell (p := ⟨g.block, g.off + 2, none⟩) hg0).trans hk2⟩
  have HK := Lib.hid hkeep; clear hkeep hk0 hk1 hk2 hg0
  go_wp2_with fail
  have hw3 : IntKind.i64.wrap ((t[3].toNat : Nat) : Int) = ((t[3].toNat : Nat) : Int) := IntWalk.i64_in _ (by have := byte_lt t[3]; omega)
  refine held_begin (by kernel_rfl) (Held.refl w2) (fun v0 hH0 => ?_)
  refine wpAnyH_take (i := 0) (v := ?_) rfl (by kernel_rfl) (by kernel_rfl) (by kernel_rfl) (fun _ _ _ h => h) (Or.inl ⟨by rfl, ?_⟩) hH0 ?_
  rotate_left
  · (intro v hSw; go_simp; try with_reducible rfl)
  simp only [Act.put, List.setIfInBounds_toArray, List.set_cons_zero, List.set_cons_succ, List.getElem_toArray, List.getElem_cons_zero]
  refine wpAnyH_take (i := 1) (v := ?_) rfl (by kernel_rfl) (by kernel_rfl) (by kernel_rfl) (fun _ _ _ h => h) (Or.inl ⟨by rfl, ?_⟩) hH0 ?_
  rotate_left
  · (intro v hSw; go_simp; try with_reducible rfl)
  simp only [Act.put, List.setIfInBounds_toArray, List.set_cons_zero, List.set_cons_succ, List.getElem_toArray, List.getElem_cons_zero, List.getElem_cons_succ]
  refine wpAnyH_take (i := 2) (v := ?_) rfl (by kernel_rfl) (by kernel_rfl) (by kernel_rfl) (fun _ _ _ h => h) (Or.inl ⟨by rfl, ?_⟩) hH0 ?_
  rotate_left
  · (intro v hSw; go_simp; try with_reducible rfl)
  simp only [Act.put, List.setIfInBounds_toArray, List.set_cons_zero, List.set_cons_succ, List.getElem_toArray, List.getElem_cons_zero, List.getElem_cons_succ]
  refine wpAnyH_take (i := 3) (v := ?_) rfl (by kernel_rfl) (by kernel_rfl) (by kernel_rfl) (fun _ _ _ h => h) (Or.inl ⟨by rfl, ?_⟩) hH0 ?_
  rotate_left
  · (intro v hSw; go_simp; try with_reducible rfl)
  simp only [Act.put, List.setIfInBounds_toArray, List.set_cons_zero, List.set_cons_succ, List.getElem_toArray, List.getElem_cons_zero, List.getElem_cons_succ]
  refine wpAnyH_take (i := 4) (v := ?_) rfl (by kernel_rfl) (by kernel_rfl) (by kernel_rfl) (fun _ _ _ h => h) (Or.inl ⟨by rfl, ?_⟩) hH0 ?_
  rotate_left
  · (intro v hSw; go_simp; try with_reducible rfl)
  simp only [Act.put, List.setIfInBounds_toArray, List.set_cons_zero, List.set_cons_succ, List.getElem_toArray, List.getElem_cons_zero, List.getElem_cons_succ]
  refine wpAnyH_take (i := 7) (v := ?_) rfl (by kernel_rfl) (by kernel_rfl) (by kernel_rfl) (fun _ _ _ h => h) (Or.inl ⟨by rfl, ?_⟩) hH0 ?_
  rotate_left
  · (intro v hSw; go_simp; try with_reducible rfl)
  simp only [Act.put, List.setIfInBounds_toArray, List.set_cons_zero, List.set_cons_succ, List.getElem_toArray, List.getElem_cons_zero, List.getElem_cons_succ]
  refine wpAnyH_take (i := 8) (v := ?_) rfl (by kernel_rfl) (by kernel_rfl) (by kernel_rfl) (fun _ _ _ h => h) (Or.inl ⟨by rfl, ?_⟩) hH0 ?_
  rotate_left
  · (intro v hSw; go_simp; try with_reducible rfl)
  simp only [Act.put, List.setIfInBounds_toArray, List.set_cons_zero, List.set_cons_succ, List.getElem_toArray, List.getElem_cons_zero, List.getElem_cons_succ]
  refine wpAnyH_take (i := 9) (v := ?_) rfl (by kernel_rfl) (by kernel_rfl) (by kernel_rfl) (fun _ _ _ h => h) (Or.inl ⟨by rfl, ?_⟩) hH0 ?_
  rotate_left
  · (intro v hSw; obtain ⟨k0, k1, k2⟩ := HK.out _ hSw.below; go_simp; try with_reducible rfl)
  simp only [Act.put, List.setIfInBounds_toArray, List.set_cons_zero, List.set_cons_succ, List.getElem_toArray, List.getElem_cons_zero, List.getElem_cons_succ]
  refine wpAnyH_take (i := 10) (v := ?_) rfl (by kernel_rfl) (by kernel_rfl) (by kernel_rfl) (fun _ _ _ h => h) (Or.inl ⟨by rfl, ?_⟩) hH0 ?_
  rotate_left
  · (intro v hSw; go_simp; try with_reducible rfl)
  simp only [Act.put, List.setIfInBounds_toArray, List.set_cons_zero, List.set_cons_succ, List.getElem_toArray, List.getElem_cons_zero, List.getElem_cons_succ]
  refine wpAnyH_take (i := 11) (v := ?_) rfl (by kernel_rfl) (by kernel_rfl) (by kernel_rfl) (fun _ _ _ h => h) (Or.inl ⟨by rfl, ?_⟩) hH0 ?_
  rotate_left
  · (intro v hSw; go_simp; try with_reducible rfl)
  simp only [Act.put, List.setIfInBounds_toArray, List.set_cons_zero, List.set_cons_succ, List.getElem_toArray, List.getElem_cons_zero, List.getElem_cons_succ]
  refine wpAnyH_take (i := 12) (v := ?_) rfl (by kernel_rfl) (by kernel_rfl) (by kernel_rfl) (fun _ _ _ h => h) (Or.inl ⟨by rfl, ?_⟩) hH0 ?_
  rotate_left
  · (intro v hSw; obtain ⟨k0, k1, k2⟩ := HK.out _ hSw.below; go_simp; try with_reducible rfl)
  simp only [Act.put, List.setIfInBounds_toArray, List.set_cons_zero, List.set_cons_succ, List.getElem_toArray, List.getElem_cons_zero, List.getElem_cons_succ]
  refine wpAnyH_take (i := 13) (v := ?_) rfl (by kernel_rfl) (by kernel_rfl) (by kernel_rfl) (fun _ _ _ h => h) (Or.inl ⟨by rfl, ?_⟩) hH0 ?_
  rotate_left
  · (intro v hSw; go_simp; try with_reducible rfl)
  simp only [Act.put, List.setIfInBounds_toArray, List.set_cons_zero, List.set_cons_succ, List.getElem_toArray, List.getElem_cons_zero, List.getElem_cons_succ]
  refine wpAnyH_take (i := 14) (v := ?_) rfl (by kernel_rfl) (by kernel_rfl) (by kernel_rfl) (fun _ _ _ h => h) (Or.inl ⟨by rfl, ?_⟩) hH0 ?_
  rotate_left
  · (intro v hSw; go_simp; try with_reducible rfl)
  simp only [Act.put, List.setIfInBounds_toArray, List.set_cons_zero, List.set_cons_succ, List.getElem_toArray, List.getElem_cons_zero, List.getElem_cons_succ]
  refine wpAnyH_take (i := 15) (v := ?_) rfl (by kernel_rfl) (by kernel_rfl) (by kernel_rfl) (fun _ _ _ h => h) (Or.inl ⟨by rfl, ?_⟩) hH0 ?_
  rotate_left
  · (intro v hSw; obtain ⟨k0, k1, k2⟩ := HK.out _ hSw.below; go_simp; try with_reducible rfl)
  simp only [Act.put, List.setIfInBounds_toArray, List.set_cons_zero, List.set_cons_succ, List.getElem_toArray, List.getElem_cons_zero, List.getElem_cons_succ]
  refine wpAnyH_ready (rs := [5, 17]) (by kernel_rfl) (by simp) ?_
  refine AllReadyH.cons rfl (fun K hK => ?_) ?_
  · go_simp
    refine (HRD.out _).mono ?_
    rintro e v1 ⟨rfl, hb⟩
    go_wp2_with fail
    refine hK.out _ _ (hH0.up hb) (fun hH1 => ?_)
    clear hK K hH0
    refine wpAnyH_ready (rs := [6, 17]) (by kernel_rfl) (by simp) ?_
    refine AllReadyH.cons rfl (fun K hK => ?_) ?_
    · go_simp
      refine (unlist_any _ _ _ _ _).mono ?_
      rintro e v2 ⟨rfl, hb⟩
      go_wp2_with fail
      refine hK.out _ _ (hH1.up hb) (fun hH2 => ?_)
      clear hK K hH1
      refine wpAnyH_take (i := 16) (v := ?_) rfl (by kernel_rfl) (by kernel_rfl) (by kernel_rfl) (fun _ _ _ h => h) (Or.inl ⟨by rfl, ?_⟩) hH2 ?_
      rotate_left
      · (intro v hSw; go_simp; try with_reducible rfl)
      simp only [Act.put, List.setIfInBounds_toArray, List.set_cons_zero, List.set_cons_succ, List.getElem_toArray, List.getElem_cons_zero, List.getElem_cons_succ]
      refine wpAnyH_ready (rs := [17]) (by kernel_rfl) (by simp) ?_
      refine AllReadyH.cons rfl (fun K hK => ?_) AllReadyH.nil
      go_simp
      refine hK.out _ _ (hH2.alloc _) (fun hX => ?_)
      refine laid_own hH2 (n := 8) rfl (fun v3 hH3 => ?_)
      clear hK K hX hH2
      refine wpAnyH_ready (rs := [18]) (by kernel_rfl) (by simp) ?_
      refine AllReadyH.cons rfl (fun K hK => ?_) AllReadyH.nil
      obtain ⟨u0, u1, u2, u3, u4, u5, u6, u7, hx⟩ := hH3.o0.eight
      have kx := hx.cell
      have fx := hx.frozen
      go_simp
      refine hK.out _ _ (hH3.set8 ⟨8, by simp⟩ _ _ _ _ _ _ _ _) (fun hX => ?_)
      refine stored8 hH3 ⟨8, by simp⟩ hx (fun v4 hH4 hy => ?_)
      clear hK K hX hH3 hx kx fx
      refine wpAnyH_done (by kernel_rfl) ?_ _
      have kz := hy.cell
      have H3 := H2.out.up hH4.below
      clear hH4
      go_wp2_with fail
      refine (HSR.out _).mono ?_
      rintro e w5 ⟨rfl, hb⟩
      have H4 := H3.up hb
      have kq := (hy.below hb).cell
      clear hb H3 hy kz
      obtain ⟨u0, u1, u2, u3, u4, u5, u6, u7, hx⟩ := H4.o0.eight
      have k := hx.cell
      have f := hx.frozen
      have HX := Lib.hid hx; clear hx
      go_wp2_with fail
      have hz := HX.out.eight (.int .i64 ((t[3].toNat : Nat) : Int)) (.int .u64 c) (.int .u64 b) (.int .u64 o) (.int .u64 p) (.bool b0) (.bool b1) (.bool b2)
      have H9 : Held w [] [(w.heap.size, 8)] ((((((((w5.setCell ⟨w.heap.size, 0, none⟩ (.int .i64 ((t[3].toNat : Nat) : Int))).setCell ⟨w.heap.size, 1, none⟩ (.int .u64 c)).setCell ⟨w.heap.size, 2, none⟩ (.int .u64 b)).setCell ⟨w.heap.size, 3, none⟩ (.int .u64 o)).setCell ⟨w.heap.size, 4, none⟩ (.int .u64 p)).setCell ⟨w.heap.size, 5, none⟩ (.bool b0)).setCell ⟨w.heap.size, 6, none⟩ (.bool b1)).setCell ⟨w.heap.size, 7, none⟩ (.bool b2)) := H4.set8 ⟨8, by simp⟩ (.int .i64 ((t[3].toNat : Nat) : Int)) (.int .u64 c) (.int .u64 b) (.int .u64 o) (.int .u64 p) (.bool b0) (.bool b1) (.bool b2)
      generalize ((((((((w5.setCell ⟨w.heap.size, 0, none⟩ (.int .i64 ((t[3].toNat : Nat) : Int))).setCell ⟨w.heap.size, 1, none⟩ (.int .u64 c)).setCell ⟨w.heap.size, 2, none⟩ (.int .u64 b)).setCell ⟨w.heap.size, 3, none⟩ (.int .u64 o)).setCell ⟨w.heap.size, 4, none⟩ (.int .u64 p)).setCell ⟨w.heap.size, 5, none⟩ (.bool b0)).setCell ⟨w.heap.size, 6, none⟩ (.bool b1)).setCell ⟨w.heap.size, 7, none⟩ (.bool b2)) = w9 at *
      have kz := hz.cell
      refine bodyPost_ret (v := .tuple #[.agg #[.int .i64 ((t[3].toNat : Nat) : Int), .int .u64 c, .int .u64 b, .int .u64 o, .int .u64 p, .bool b0, .bool b1, .bool b2], .nilIface]) (by simp [results, Tryz.results91, go_sem, kz]) rfl ⟨_, rfl, .inl ⟨rfl, rfl⟩, H9.below⟩
    refine AllReadyH.cons rfl (fun K hK => ?_) AllReadyH.nil
    go_simp
    refine hK.out _ _ (hH1.alloc _) (fun hX => ?_)
    refine laid_own hH1 (n := 8) rfl (fun v5 hH5 => ?_)
    clear hK K hX hH1
    refine wpAnyH_ready (rs := [6]) (by kernel_rfl) (by simp) ?_
    refine AllReadyH.cons rfl (fun K hK => ?_) AllReadyH.nil
    go_simp
    refine (unlist_any _ _ _ _ _).mono ?_
    rintro e v6 ⟨rfl, hb⟩
    go_wp2_with fail
    refine hK.out _ _ (hH5.up hb) (fun hH6 => ?_)
    clear hK K hH5
    refine wpAnyH_take (i := 16) (v := ?_) rfl (by kernel_rfl) (by kernel_rfl) (by kernel_rfl) (fun _ _ _ h => h) (Or.inl ⟨by rfl, ?_⟩) hH6 ?_
    rotate_left
    · (intro v hSw; go_simp; try with_reducible rfl)
    simp only [Act.put, List.setIfInBounds_toArray, List.set_cons_zero, List.set_cons_succ, List.getElem_toArray, List.getElem_cons_zero, List.getElem_cons_succ]
    refine wpAnyH_ready (rs := [18]) (by kernel_rfl) (by simp) ?_
    refine AllReadyH.cons rfl (fun K hK => ?_) AllReadyH.nil
    obtain ⟨u0, u1, u2, u3, u4, u5, u6, u7, hx⟩ := hH6.o0.eight
    have kx := hx.cell
    have fx := hx.frozen
    go_simp
    refine hK.out _ _ (hH6.set8 ⟨8, by simp⟩ _ _ _ _ _ _ _ _) (fun hX => ?_)
    refine stored8 hH6 ⟨8, by simp⟩ hx (fun v7 hH7 hy => ?_)
    clear hK K hX hH6 hx kx fx
    refine wpAnyH_done (by kernel_rfl) ?_ _
    have kz := hy.cell
    have H3 := H2.out.up hH7.below
    clear hH7
    go_wp2_with fail
    refine (HSR.out _).mono ?_
    rintro e w5 ⟨rfl, hb⟩
    have H4 := H3.up hb
    have kq := (hy.below hb).cell
    clear hb H3 hy kz
    obtain ⟨u0, u1, u2, u3, u4, u5, u6, u7, hx⟩ := H4.o0.eight
    have k := hx.cell
    have f := hx.frozen
    have HX := Lib.hid hx; clear hx
    go_wp2_with fail
    have hz := HX.out.eight (.int .i64 ((t[3].toNat : Nat) : Int)) (.int .u64 c) (.int .u64 b) (.int .u64 o) (.int .u64 p) (.bool b0) (.bool b1) (.bool b2)
    have H9 : Held w [] [(w.heap.size, 8)] ((((((((w5.setCell ⟨w.heap.size, 0, none⟩ (.int .i64 ((t[3].toNat : Nat) : Int))).setCell ⟨w.heap.size, 1, none⟩ (.int .u64 c)).setCell ⟨w.heap.size, 2, none⟩ (.int .u64 b)).setCell ⟨w.heap.size, 3, none⟩ (.int .u64 o)).setCell ⟨w.heap.size, 4, none⟩ (.int .u64 p)).setCell ⟨w.heap.size, 5, none⟩ (.bool b0)).setCell ⟨w.heap.size, 6, none⟩ (.bool b1)).setCell ⟨w.heap.size, 7, none⟩ (.bool b2)) := H4.set8 ⟨8, by simp⟩ (.int .i64 ((t[3].toNat : Nat) : Int)) (.int .u64 c) (.int .u64 b) (.int .u64 o) (.int .u64 p) (.bool b0) (.bool b1) (.bool b2)
    generalize ((((((((w5.setCell ⟨w.heap.size, 0, none⟩ (.int .i64 ((t[3].toNat : Nat) : Int))).setCell ⟨w.heap.size, 1, none⟩ (.int .u64 c)).setCell ⟨w.heap.size, 2, none⟩ (.int .u64 b)).setCell ⟨w.heap.size, 3, none⟩ (.int .u64 o)).setCell ⟨w.heap.size, 4, none⟩ (.int .u64 p)).setCell ⟨w.heap.size, 5, none⟩ (.bool b0)).setCell ⟨w.heap.size, 6, none⟩ (.bool b1)).setCell ⟨w.heap.size, 7, none⟩ (.bool b2)) = w9 at *
    have kz := hz.cell
    refine bodyPost_ret (v := .tuple #[.agg #[.int .i64 ((t[3].toNat : Nat) : Int), .int .u64 c, .int .u64 b, .int .u64 o, .int .u64 p, .bool b0, .bool b1, .bool b2], .nilIface]) (by simp [results, Tryz.results91, go_sem, kz]) rfl ⟨_, rfl, .inl ⟨rfl, rfl⟩, H9.below⟩
  refine AllReadyH.cons rfl (fun K hK => ?_) AllReadyH.nil
  go_simp
  refine hK.out _ _ (hH0.alloc _) (fun hX => ?_)
  refine laid_own hH0 (n := 8) rfl (fun v8 hH8 => ?_)
  clear hK K hX hH0
  refine wpAnyH_ready (rs := [5]) (by kernel_rfl) (by simp) ?_
  refine AllReadyH.cons rfl (fun K hK => ?_) AllReadyH.nil
  go_simp
  refine (HRD.out _).mono ?_
  rintro e v9 ⟨rfl, hb⟩
  go_wp2_with fail
  refine hK.out _ _ (hH8.up hb) (fun hH9 => ?_)
  clear hK K hH8
  refine wpAnyH_ready (rs := [6]) (by kernel_rfl) (by simp) ?_
  refine AllReadyH.cons rfl (fun K hK => ?_) AllReadyH.nil
  go_simp
  refine (unlist_any _ _ _ _ _).mono ?_
  rintro e v10 ⟨rfl, hb⟩
  go_wp2_with fail
  refine hK.out _ _ (hH9.up hb) (fun hH10 => ?_)
  clear hK K hH9
  refine wpAnyH_take (i := 16) (v := ?_) rfl (by kernel_rfl) (by kernel_rfl) (by kernel_rfl) (fun _ _ _ h => h) (Or.inl ⟨by rfl, ?_⟩) hH10 ?_
  rotate_left
  · (intro v hSw; go_simp; try with_reducible rfl)
  simp only [Act.put, List.setIfInBounds_toArray, List.set_cons_zero, List.set_cons_succ, List.getElem_toArray, List.getElem_cons_zero, List.getElem_cons_succ]
  refine wpAnyH_ready (rs := [18]) (by kernel_rfl) (by simp) ?_
  refine AllReadyH.cons rfl (fun K hK => ?_) AllReadyH.nil
  obtain ⟨u0, u1, u2, u3, u4, u5, u6, u7, hx⟩ := hH10.o0.eight
  have kx := hx.cell
  have fx := hx.frozen
  go_simp
  refine hK.out _ _ (hH10.set8 ⟨8, by simp⟩ _ _ _ _ _ _ _ _) (fun hX => ?_)
  refine stored8 hH10 ⟨8, by simp⟩ hx (fun v11 hH11 hy => ?_)
  clear hK K hX hH10 hx kx fx
  refine wpAnyH_done (by kernel_rfl) ?_ _
  have kz := hy.cell
  have H3 := H2.out.up hH11.below
  clear hH11
  go_wp2_with fail
  refine (HSR.out _).mono ?_
  rintro e w5 ⟨rfl, hb⟩
  have H4 := H3.up hb
  have kq := (hy.below hb).cell
  clear hb H3 hy kz
  obtain ⟨u0, u1, u2, u3, u4, u5, u6, u7, hx⟩ := H4.o0.eight
  have k := hx.cell
  have f := hx.frozen
  have HX := Lib.hid hx; clear hx
  go_wp2_with fail
  have hz := HX.out.eight (.int .i64 ((t[3].toNat : Nat) : Int)) (.int .u64 c) (.int .u64 b) (.int .u64 o) (.int .u64 p) (.bool b0) (.bool b1) (.bool b2)
  have H9 : Held w [] [(w.heap.size, 8)] ((((((((w5.setCell ⟨w.heap.size, 0, none⟩ (.int .i64 ((t[3].toNat : Nat) : Int))).setCell ⟨w.heap.size, 1, none⟩ (.int .u64 c)).setCell ⟨w.heap.size, 2, none⟩ (.int .u64 b)).setCell ⟨w.heap.size, 3, none⟩ (.int .u64 o)).setCell ⟨w.heap.size, 4, none⟩ (.int .u64 p)).setCell ⟨w.heap.size, 5, none⟩ (.bool b0)).setCell ⟨w.heap.size, 6, none⟩ (.bool b1)).setCell ⟨w.heap.size, 7, none⟩ (.bool b2)) := H4.set8 ⟨8, by simp⟩ (.int .i64 ((t[3].toNat : Nat) : Int)) (.int .u64 c) (.int .u64 b) (.int .u64 o) (.int .u64 p) (.bool b0) (.bool b1) (.bool b2)
  generalize ((((((((w5.setCell ⟨w.heap.size, 0, none⟩ (.int .i64 ((t[3].toNat : Nat) : Int))).setCell ⟨w.heap.size, 1, none⟩ (.int .u64 c)).setCell ⟨w.heap.size, 2, none⟩ (.int .u64 b)).setCell ⟨w.heap.size, 3, none⟩ (.int .u64 o)).setCell ⟨w.heap.size, 4, none⟩ (.int .u64 p)).setCell ⟨w.heap.size, 5, none⟩ (.bool b0)).setCell ⟨w.heap.size, 6, none⟩ (.bool b1)).setCell ⟨w.heap.size, 7, none⟩ (.bool b2)) = w9 at *
  have kz := hz.cell
  refine bodyPost_ret (v := .tuple #[.agg #[.int .i64 ((t[3].toNat : Nat) : Int), .int .u64 c, .int .u64 b, .int .u64 o, .int .u64 p, .bool b0, .bool b1, .bool b2], .nilIface]) (by simp [results, Tryz.results91, go_sem, kz]) rfl ⟨_, rfl, .inl ⟨rfl, rfl⟩, H9.below⟩

set_option maxRecDepth 100000 in
set_option maxHeartbeats 8000000 in
theorem parse_wrong (hg : Glob w a) (ho : ∀ w, Calls Tryz.prog 57 #[.string s] w fun e w' => e = .returned (.tuple #[.string t, .int .i64 0]) ∧ Below w.heap.size w w') (hl : (t.size : Int) = 37) (hh : t.extract 0 3 = ⟨#[71, 77, 1]⟩) (h8 : (t[4]'(by omega)).toNat < 8)
    (hr : (⟨((t[3]'(by omega)).toNat : Int), num8 (t.extract 5 t.size).data.toList 0, num8 (t.extract 5 t.size).data.toList 8, num8 (t.extract 5 t.size).data.toList 16, num8 (t.extract 5 t.size).data.toList 24, decide ((t[4]'(by omega)).toNat % 2 = 1), decide ((t[4]'(by omega)).toNat / 2 % 2 = 1), decide ((t[4]'(by omega)).toNat / 2 / 2 % 2 = 1)⟩ : Sup).right = false) :
    Calls Tryz.prog 91 #[.string s] w fun e w' => ∃ v, e = .returned (.tuple #[supV Sup.zero, v]) ∧ ErrOf a v 2 ∧ Below w.heap.size w w' := by
  have hh' : ((t.extract 0 3).toList == [71, 77, 1]) = true := by rw [hh, text_head, beq_self_eq_true]
  clear hh
  have hun := fun w => unflag3 t[4].toNat w h8
  have hrd := fun w => sread_any (t.extract 5 t.size) w (by simp; omega)
  have hsr := fun w => sright_any (⟨((t[3]'(by omega)).toNat : Int), num8 (t.extract 5 t.size).data.toList 0, num8 (t.extract 5 t.size).data.toList 8, num8 (t.extract 5 t.size).data.toList 16, num8 (t.extract 5 t.size).data.toList 24, decide ((t[4]'(by omega)).toNat % 2 = 1), decide ((t[4]'(by omega)).toNat / 2 % 2 = 1), decide ((t[4]'(by omega)).toNat / 2 / 2 % 2 = 1)⟩ : Sup) w
  rw [hr] at hsr
  clear hr h8
  dsimp only [supV] at *
  generalize num8 (t.extract 5 t.size).data.toList 0 = c at *
  generalize num8 (t.extract 5 t.size).data.toList 8 = b at *
  generalize num8 (t.extract 5 t.size).data.toList 16 = o at *
  generalize num8 (t.extract 5 t.size).data.toList 24 = p at *
  generalize decide (t[4].toNat % 2 = 1) = b0 at *
  generalize decide (t[4].toNat / 2 % 2 = 1) = b1 at *
  generalize decide (t[4].toNat / 2 / 2 % 2 = 1) = b2 at *
  have HU := Lib.hid hun; clear hun
  have HRD := Lib.hid hrd; clear hrd
  have HSR := Lib.hid hsr; clear hsr
  have HO := Lib.hid ho; clear ho
  have HG := Lib.hid hg; clear hg
  have H0 := Lib.hid ((Held.refl w).own (supC Sup.zero) 31 (n := 8) rfl)
  go_enter Tryz.func91, Tryz.ntmps91
  go_wp2_with fail
  refine (HO.out _).mono ?_
  rintro e w1 ⟨rfl, hb⟩
  have H1 := Lib.hid (H0.out.up hb)
  clear hb H0
  go_wp2_with fail
  refine (HU.out _).mono ?_
  rintro e w2 ⟨g, cp, rfl, hcp, hg0, hk0, hk1, hk2, hb⟩
  have H2 := Lib.hid (H1.out.up hb)
  clear hb H1
  have hkeep : ∀ w', Below w2.heap.size w2 w' → w'.cell? g = some (.bool b0) ∧ w'.cell? ⟨g.block, g.off + 1, none⟩ = some (.bool b1) ∧ w'.cell? ⟨g.block, g.off + 2, none⟩ = some (.bool b2) := fun w' hb =>
    ⟨(hb.cell (p := g) hg0).trans hk0, (hb.cell (p := ⟨g.block, g.off + 1, none⟩) hg0).trans hk1, (hb.cell (p := ⟨g.block, g.off + 2, none⟩) hg0).trans hk2⟩
  have HK := Lib.hid hkeep; clear hkeep hk0 hk1 hk2 hg0
  go_wp2_with fail
  have hw3 : IntKind.i64.wrap ((t[3].toNat : Nat) : Int) = ((t[3].toNat : Nat) : Int) := IntWalk.i64_in _ (by have := byte_lt t[3]; omega)
  refine held_begin (by kernel_rfl) (Held.refl w2) (fun v0 hH0 => ?_)
  refine wpAnyH_take (i := 0) (v := ?_) rfl (by kernel_rfl) (by kernel_rfl) (by kernel_rfl) (fun _ _ _ h => h) (Or.inl ⟨by rfl, ?_⟩) hH0 ?_
  rotate_left
  · (intro v hSw; go_simp; try with_reducible rfl)
  simp only [Act.put, List.setIfInBounds_toArray, List.set_cons_zero, List.set_cons_succ, List.getElem_toArray, List.getElem_cons_zero]
  refine wpAnyH_take (i := 1) (v := ?_) rfl (by kernel_rfl) (by kernel_rfl) (by kernel_rfl) (fun _ _ _ h => h) (Or.inl ⟨by rfl, ?_⟩) hH0 ?_
  rotate_left
  · (intro v hSw; go_simp; try with_reducible rfl)
  simp only [Act.put, List.setIfInBounds_toArray, List.set_cons_zero, List.set_cons_succ, List.getElem_toArray, List.getElem_cons_zero, List.getElem_cons_succ]
  refine wpAnyH_take (i := 2) (v := ?_) rfl (by kernel_rfl) (by kernel_rfl) (by kernel_rfl) (fun _ _ _ h => h) (Or.inl ⟨by rfl, ?_⟩) hH0 ?_
  rotate_left
  · (intro v hSw; go_simp; try with_reducible rfl)
  simp only [Act.put, List.setIfInBounds_toArray, List.set_cons_zero, List.set_cons_succ, List.getElem_toArray, List.getElem_cons_zero, List.getElem_cons_succ]
  refine wpAnyH_take (i := 3) (v := ?_) rfl (by kernel_rfl) (by kernel_rfl) (by kernel_rfl) (fun _ _ _ h => h) (Or.inl ⟨by rfl, ?_⟩) hH0 ?_
  rotate_left
  · (intro v hSw; go_simp; try with_reducible rfl)
  simp only [Act.put, List.setIfInBounds_toArray, List.set_cons_zero, List.set_cons_succ, List.getElem_toArray, List.getElem_cons_zero, List.getElem_cons_succ]
  refine wpAnyH_take (i := 4) (v := ?_) rfl (by kernel_rfl) (by kernel_rfl) (by kernel_rfl) (fun _ _ _ h => h) (Or.inl ⟨by rfl, ?_⟩) hH0 ?_
  rotate_left
  · (intro v hSw; go_simp; try with_reducible rfl)
  simp only [Act.put, List.setIfInBounds_toArray, List.set_cons_zero, List.set_cons_succ, List.getElem_toArray, List.getElem_cons_zero, List.getElem_cons_succ]
  refine wpAnyH_take (i := 7) (v := ?_) rfl (by kernel_rfl) (by kernel_rfl) (by kernel_rfl) (fun _ _ _ h => h) (Or.inl ⟨by rfl, ?_⟩) hH0 ?_
  rotate_left
  · (intro v hSw; go_simp; try with_reducible rfl)
  simp only [Act.put, List.setIfInBounds_toArray, List.set_cons_zero, List.set_cons_succ, List.getElem_toArray, List.getElem_cons_zero, List.getElem_cons_succ]
  refine wpAnyH_take (i := 8) (v := ?_) rfl (by kernel_rfl) (by kernel_rfl) (by kernel_rfl) (fun _ _ _ h => h) (Or.inl ⟨by rfl, ?_⟩) hH0 ?_
  rotate_left
  · (intro v hSw; go_simp; try with_reducible rfl)
  simp only [Act.put, List.setIfInBounds_toArray, List.set_cons_zero, List.set_cons_succ, List.getElem_toArray, List.getElem_cons_zero, List.getElem_cons_succ]
  refine wpAnyH_take (i := 9) (v := ?_) rfl (by kernel_rfl) (by kernel_rfl) (by kernel_rfl) (fun _ _ _ h => h) (Or.inl ⟨by rfl, ?_⟩) hH0 ?_
  rotate_left
  · (intro v hSw; obtain ⟨k0, k1, k2⟩ := HK.out _ hSw.below; go_simp; try with_reducible rfl)
  simp only [Act.put, List.setIfInBounds_toArray, List.set_cons_zero, List.set_cons_succ, List.getElem_toArray, List.getElem_cons_zero, List.getElem_cons_succ]
  refine wpAnyH_take (i := 10) (v := ?_) rfl (by kernel_rfl) (by kernel_rfl) (by kernel_rfl) (fun _ _ _ h => h) (Or.inl ⟨by rfl, ?_⟩) hH0 ?_
  rotate_left
  · (intro v hSw; go_simp; try with_reducible rfl)
  simp only [Act.put, List.setIfInBounds_toArray, List.set_cons_zero, List.set_cons_succ, List.getElem_toArray, List.getElem_cons_zero, List.getElem_cons_succ]
  refine wpAnyH_take (i := 11) (v := ?_) rfl (by kernel_rfl) (by kernel_rfl) (by kernel_rfl) (fun _ _ _ h => h) (Or.inl ⟨by rfl, ?_⟩) hH0 ?_
  rotate_left
  · (intro v hSw; go_simp; try with_reducible rfl)
  simp only [Act.put, List.setIfInBounds_toArray, List.set_cons_zero, List.set_cons_succ, List.getElem_toArray, List.getElem_cons_zero, List.getElem_cons_succ]
  refine wpAnyH_take (i := 12) (v := ?_) rfl (by kernel_rfl) (by kernel_rfl) (by kernel_rfl) (fun _ _ _ h => h) (Or.inl ⟨by rfl, ?_⟩) hH0 ?_
  rotate_left
  · (intro v hSw; obtain ⟨k0, k1, k2⟩ := HK.out _ hSw.below; go_simp; try with_reducible rfl)
  simp only [Act.put, List.setIfInBounds_toArray, List.set_cons_zero, List.set_cons_succ, List.getElem_toArray, List.getElem_cons_zero, List.getElem_cons_succ]
  refine wpAnyH_take (i := 13) (v := ?_) rfl (by kernel_rfl) (by kernel_rfl) (by kernel_rfl) (fun _ _ _ h => h) (Or.inl ⟨by rfl, ?_⟩) hH0 ?_
  rotate_left
  · (intro v hSw; go_simp; try with_reducible rfl)
  simp only [Act.put, List.setIfInBounds_toArray, List.set_cons_zero, List.set_cons_succ, List.getElem_toArray, List.getElem_cons_zero, List.getElem_cons_succ]
  refine wpAnyH_take (i := 14) (v := ?_) rfl (by kernel_rfl) (by kernel_rfl) (by kernel_rfl) (fun _ _ _ h => h) (Or.inl ⟨by rfl, ?_⟩) hH0 ?_
  rotate_left
  · (intro v hSw; go_simp; try with_reducible rfl)
  simp only [Act.put, List.setIfInBounds_toArray, List.set_cons_zero, List.set_cons_succ, List.getElem_toArray, List.getElem_cons_zero, List.getElem_cons_succ]
  refine wpAnyH_take (i := 15) (v := ?_) rfl (by kernel_rfl) (by kernel_rfl) (by kernel_rfl) (fun _ _ _ h => h) (Or.inl ⟨by rfl, ?_⟩) hH0 ?_
  rotate_left
  · (intro v hSw; obtain ⟨k0, k1, k2⟩ := HK.out _ hSw.below; go_simp; try with_reducible rfl)
  simp only [Act.put, List.setIfInBounds_toArray, List.set_cons_zero, List.set_cons_succ, List.getElem_toArray, List.getElem_cons_zero, List.getElem_cons_succ]
  refine wpAnyH_ready (rs := [5, 17]) (by kernel_rfl) (by simp) ?_
  refine AllReadyH.cons rfl (fun K hK => ?_) ?_
  · go_simp
    refine (HRD.out _).mono ?_
    rintro e v1 ⟨rfl, hb⟩
    go_wp2_with fail
    refine hK.out _ _ (hH0.up hb) (fun hH1 => ?_)
    clear hK K hH0
    refine wpAnyH_ready (rs := [6, 17]) (by kernel_rfl) (by simp) ?_
    refine AllReadyH.cons rfl (fun K hK => ?_) ?_
    · go_simp
      refine (unlist_any _ _ _ _ _).mono ?_
      rintro e v2 ⟨rfl, hb⟩
      go_wp2_with fail
      refine hK.out _ _ (hH1.up hb) (fun hH2 => ?_)
      clear hK K hH1
      refine wpAnyH_take (i := 16) (v := ?_) rfl (by kernel_rfl) (by kernel_rfl) (by kernel_rfl) (fun _ _ _ h => h) (Or.inl ⟨by rfl, ?_⟩) hH2 ?_
      rotate_left
      · (intro v hSw; go_simp; try with_reducible rfl)
      simp only [Act.put, List.setIfInBounds_toArray, List.set_cons_zero, List.set_cons_succ, List.getElem_toArray, List.getElem_cons_zero, List.getElem_cons_succ]
      refine wpAnyH_ready (rs := [17]) (by kernel_rfl) (by simp) ?_
      refine AllReadyH.cons rfl (fun K hK => ?_) AllReadyH.nil
      go_simp
      refine hK.out _ _ (hH2.alloc _) (fun hX => ?_)
      refine laid_own hH2 (n := 8) rfl (fun v3 hH3 => ?_)
      clear hK K hX hH2
      refine wpAnyH_ready (rs := [18]) (by kernel_rfl) (by simp) ?_
      refine AllReadyH.cons rfl (fun K hK => ?_) AllReadyH.nil
      obtain ⟨u0, u1, u2, u3, u4, u5, u6, u7, hx⟩ := hH3.o0.eight
      have kx := hx.cell
      have fx := hx.frozen
      go_simp
      refine hK.out _ _ (hH3.set8 ⟨8, by simp⟩ _ _ _ _ _ _ _ _) (fun hX => ?_)
      refine stored8 hH3 ⟨8, by simp⟩ hx (fun v4 hH4 hy => ?_)
      clear hK K hX hH3 hx kx fx
      refine wpAnyH_done (by kernel_rfl) ?_ _
      have kz := hy.cell
      have H3 := H2.out.up hH4.below
      clear hH4
      go_wp2_with fail
      refine (HSR.out _).mono ?_
      rintro e w5 ⟨rfl, hb⟩
      have H4 := H3.up hb
      have kq := (hy.below hb).cell
      clear hb H3 hy kz
      clear kq
      go_wp2_with fail
      refine held_begin (by kernel_rfl) H4 (fun v0 hH0 => ?_)
      refine wpAnyH_take (i := 0) (v := ?_) rfl (by kernel_rfl) (by kernel_rfl) (by kernel_rfl) (fun _ _ _ h => h) (Or.inl ⟨by rfl, ?_⟩) hH0 ?_
      rotate_left
      · (intro v hSw; go_simp; try with_reducible rfl)
      simp only [Act.put, List.setIfInBounds_toArray, List.set_cons_zero, List.set_cons_succ, List.getElem_toArray, List.getElem_cons_zero]
      refine wpAnyH_take (i := 1) (v := ?_) rfl (by kernel_rfl) (by kernel_rfl) (by kernel_rfl) (fun _ _ _ h => h) (Or.inl ⟨by rfl, ?_⟩) hH0 ?_
      rotate_left
      · (intro v hSw; have k := (HG.out.up hSw.below).e0; go_simp; try with_reducible rfl)
      simp only [Act.put, List.setIfInBounds_toArray, List.set_cons_zero, List.set_cons_succ, List.getElem_toArray, List.getElem_cons_zero, List.getElem_cons_succ]
      refine wpAnyH_take (i := 2) (v := ?_) rfl (by kernel_rfl) (by kernel_rfl) (by kernel_rfl) (fun _ _ _ h => h) (Or.inl ⟨by rfl, ?_⟩) hH0 ?_
      rotate_left
      · (intro v hSw; go_simp; try with_reducible rfl)
      simp only [Act.put, List.setIfInBounds_toArray, List.set_cons_zero, List.set_cons_succ, List.getElem_toArray, List.getElem_cons_zero, List.getElem_cons_succ]
      refine wpAnyH_take (i := 3) (v := ?_) rfl (by kernel_rfl) (by kernel_rfl) (by kernel_rfl) (fun _ _ _ h => h) (Or.inl ⟨by rfl, ?_⟩) hH0 ?_
      rotate_left
      · (intro v hSw; go_simp; try with_reducible rfl)
      simp only [Act.put, List.setIfInBounds_toArray, List.set_cons_zero, List.set_cons_succ, List.getElem_toArray, List.getElem_cons_zero, List.getElem_cons_succ]
      refine wpAnyH_ready (rs := [4]) (by kernel_rfl) (by simp) ?_
      refine AllReadyH.cons rfl (fun K hK => ?_) AllReadyH.nil
      obtain ⟨u0, u1, u2, u3, u4, u5, u6, u7, hx⟩ := hH0.o0.eight
      have kx := hx.cell
      have fx := hx.frozen
      go_simp
      refine hK.out _ _ (hH0.set8 ⟨8, by simp⟩ _ _ _ _ _ _ _ _) (fun hX => ?_)
      refine stored8 hH0 ⟨8, by simp⟩ hx (fun v1 hH1 hy => ?_)
      clear hK K hX hH0 hx kx fx
      refine wpAnyH_take (i := 5) (v := ?_) rfl (by kernel_rfl) (by kernel_rfl) (by kernel_rfl) (fun _ _ _ h => h) (Or.inl ⟨by rfl, ?_⟩) hH1 ?_
      rotate_left
      · (intro v hSw; go_simp; try with_reducible rfl)
      simp only [Act.put, List.setIfInBounds_toArray, List.set_cons_zero, List.set_cons_succ, List.getElem_toArray, List.getElem_cons_zero, List.getElem_cons_succ]
      refine wpAnyH_done (by kernel_rfl) ?_ _
      have kz := hy.cell
      go_wp2_with fail
      refine bodyPost_ret (v := .tuple #[.agg #[.int .i64 0, .int .u64 0, .int .u64 0, .int .u64 0, .int .u64 0, .bool false, .bool false, .bool false], .iface 137 (.agg #[.string ⟨#[98, 108, 111, 99, 107, 115, 32, 111, 114, 32, 103, 101, 110, 101, 114, 97, 116, 105, 111, 110, 115]⟩, .iface 179 (.pointer (some a))])]) (by simp [results, Tryz.results91, go_sem, kz]) rfl ⟨_, rfl, .inr (.inl ⟨_, rfl, rfl⟩), hH1.below⟩
    refine AllReadyH.cons rfl (fun K hK => ?_) AllReadyH.nil
    go_simp
    refine hK.out _ _ (hH1.alloc _) (fun hX => ?_)
    refine laid_own hH1 (n := 8) rfl (fun v5 hH5 => ?_)
    clear hK K hX hH1
    refine wpAnyH_ready (rs := [6]) (by kernel_rfl) (by simp) ?_
    refine AllReadyH.cons rfl (fun K hK => ?_) AllReadyH.nil
    go_simp
    refine (unlist_any _ _ _ _ _).mono ?_
    rintro e v6 ⟨rfl, hb⟩
    go_wp2_with fail
    refine hK.out _ _ (hH5.up hb) (fun hH6 => ?_)
    clear hK K hH5
    refine wpAnyH_take (i := 16) (v := ?_) rfl (by kernel_rfl) (by kernel_rfl) (by kernel_rfl) (fun _ _ _ h => h) (Or.inl ⟨by rfl, ?_⟩) hH6 ?_
    rotate_left
    · (intro v hSw; go_simp; try with_reducible rfl)
    simp only [Act.put, List.setIfInBounds_toArray, List.set_cons_zero, List.set_cons_succ, List.getElem_toArray, List.getElem_cons_zero, List.getElem_cons_succ]
    refine wpAnyH_ready (rs := [18]) (by kernel_rfl) (by simp) ?_
    refine AllReadyH.cons rfl (fun K hK => ?_) AllReadyH.nil
    obtain ⟨u0, u1, u2, u3, u4, u5, u6, u7, hx⟩ := hH6.o0.eight
    have kx := hx.cell
    have fx := hx.frozen
    go_simp
    refine hK.out _ _ (hH6.set8 ⟨8, by simp⟩ _ _ _ _ _ _ _ _) (fun hX => ?_)
    refine stored8 hH6 ⟨8, by simp⟩ hx (fun v7 hH7 hy => ?_)
    clear hK K hX hH6 hx kx fx
    refine wpAnyH_done (by kernel_rfl) ?_ _
    have kz := hy.cell
    have H3 := H2.out.up hH7.below
    clear hH7
    go_wp2_with fail
    refine (HSR.out _).mono ?_
    rintro e w5 ⟨rfl, hb⟩
    have H4 := H3.up hb
    have kq := (hy.below hb).cell
    clear hb H3 hy kz
    clear kq
    go_wp2_with fail
    refine held_begin (by kernel_rfl) H4 (fun v0 hH0 => ?_)
    refine wpAnyH_take (i := 0) (v := ?_) rfl (by kernel_rfl) (by kernel_rfl) (by kernel_rfl) (fun _ _ _ h => h) (Or.inl ⟨by rfl, ?_⟩) hH0 ?_
    rotate_left
    · (intro v hSw; go_simp; try with_reducible rfl)
    simp only [Act.put, List.setIfInBounds_toArray, List.set_cons_zero, List.set_cons_succ, List.getElem_toArray, List.getElem_cons_zero]
    refine wpAnyH_take (i := 1) (v := ?_) rfl (by kernel_rfl) (by kernel_rfl) (by kernel_rfl) (fun _ _ _ h => h) (Or.inl ⟨by rfl, ?_⟩) hH0 ?_
    rotate_left
    · (intro v hSw; have k := (HG.out.up hSw.below).e0; go_simp; try with_reducible rfl)
    simp only [Act.put, List.setIfInBounds_toArray, List.set_cons_zero, List.set_cons_succ, List.getElem_toArray, List.getElem_cons_zero, List.getElem_cons_succ]
    refine wpAnyH_take (i := 2) (v := ?_) rfl (by kernel_rfl) (by kernel_rfl) (by kernel_rfl) (fun _ _ _ h => h) (Or.inl ⟨by rfl, ?_⟩) hH0 ?_
    rotate_left
    · (intro v hSw; go_simp; try with_reducible rfl)
    simp only [Act.put, List.setIfInBounds_toArray, List.set_cons_zero, List.set_cons_succ, List.getElem_toArray, List.getElem_cons_zero, List.getElem_cons_succ]
    refine wpAnyH_take (i := 3) (v := ?_) rfl (by kernel_rfl) (by kernel_rfl) (by kernel_rfl) (fun _ _ _ h => h) (Or.inl ⟨by rfl, ?_⟩) hH0 ?_
    rotate_left
    · (intro v hSw; go_simp; try with_reducible rfl)
    simp only [Act.put, List.setIfInBounds_toArray, List.set_cons_zero, List.set_cons_succ, List.getElem_toArray, List.getElem_cons_zero, List.getElem_cons_succ]
    refine wpAnyH_ready (rs := [4]) (by kernel_rfl) (by simp) ?_
    refine AllReadyH.cons rfl (fun K hK => ?_) AllReadyH.nil
    obtain ⟨u0, u1, u2, u3, u4, u5, u6, u7, hx⟩ := hH0.o0.eight
    have kx := hx.cell
    have fx := hx.frozen
    go_simp
    refine hK.out _ _ (hH0.set8 ⟨8, by simp⟩ _ _ _ _ _ _ _ _) (fun hX => ?_)
    refine stored8 hH0 ⟨8, by simp⟩ hx (fun v1 hH1 hy => ?_)
    clear hK K hX hH0 hx kx fx
    refine wpAnyH_take (i := 5) (v := ?_) rfl (by kernel_rfl) (by kernel_rfl) (by kernel_rfl) (fun _ _ _ h => h) (Or.inl ⟨by rfl, ?_⟩) hH1 ?_
    rotate_left
    · (intro v hSw; go_simp; try with_reducible rfl)
    simp only [Act.put, List.setIfInBounds_toArray, List.set_cons_zero, List.set_cons_succ, List.getElem_toArray, List.getElem_cons_zero, List.getElem_cons_succ]
    refine wpAnyH_done (by kernel_rfl) ?_ _
    have kz := hy.cell
    go_wp2_with fail
    refine bodyPost_ret (v := .tuple #[.agg #[.int .i64 0, .int .u64 0, .int .u64 0, .int .u64 0, .int .u64 0, .bool false, .bool false, .bool false], .iface 137 (.agg #[.string ⟨#[98, 108, 111, 99, 107, 115, 32, 111, 114, 32, 103, 101, 110, 101, 114, 97, 116, 105, 111, 110, 115]⟩, .iface 179 (.pointer (some a))])]) (by simp [results, Tryz.results91, go_sem, kz]) rfl ⟨_, rfl, .inr (.inl ⟨_, rfl, rfl⟩), hH1.below⟩
  refine AllReadyH.cons rfl (fun K hK => ?_) AllReadyH.nil
  go_simp
  refine hK.out _ _ (hH0.alloc _) (fun hX => ?_)
  refine laid_own hH0 (n := 8) rfl (fun v8 hH8 => ?_)
  clear hK K hX hH0
  refine wpAnyH_ready (rs := [5]) (by kernel_rfl) (by simp) ?_
  refine AllReadyH.cons rfl (fun K hK => ?_) AllReadyH.nil
  go_simp
  refine (HRD.out _).mono ?_
  rintro e v9 ⟨rfl, hb⟩
  go_wp2_with fail
  refine hK.out _ _ (hH8.up hb) (fun hH9 => ?_)
  clear hK K hH8
  refine wpAnyH_ready (rs := [6]) (by kernel_rfl) (by simp) ?_
  refine AllReadyH.cons rfl (fun K hK => ?_) AllReadyH.nil
  go_simp
  refine (unlist_any _ _ _ _ _).mono ?_
  rintro e v10 ⟨rfl, hb⟩
  go_wp2_with fail
  refine hK.out _ _ (hH9.up hb) (fun hH10 => ?_)
  clear hK K hH9
  refine wpAnyH_take (i := 16) (v := ?_) rfl (by kernel_rfl) (by kernel_rfl) (by kernel_rfl) (fun _ _ _ h => h) (Or.inl ⟨by rfl, ?_⟩) hH10 ?_
  rotate_left
  · (intro v hSw; go_simp; try with_reducible rfl)
  simp only [Act.put, List.setIfInBounds_toArray, List.set_cons_zero, List.set_cons_succ, List.getElem_toArray, List.getElem_cons_zero, List.getElem_cons_succ]
  refine wpAnyH_ready (rs := [18]) (by kernel_rfl) (by simp) ?_
  refine AllReadyH.cons rfl (fun K hK => ?_) AllReadyH.nil
  obtain ⟨u0, u1, u2, u3, u4, u5, u6, u7, hx⟩ := hH10.o0.eight
  have kx := hx.cell
  have fx := hx.frozen
  go_simp
  refine hK.out _ _ (hH10.set8 ⟨8, by simp⟩ _ _ _ _ _ _ _ _) (fun hX => ?_)
  refine stored8 hH10 ⟨8, by simp⟩ hx (fun v11 hH11 hy => ?_)
  clear hK K hX hH10 hx kx fx
  refine wpAnyH_done (by kernel_rfl) ?_ _
  have kz := hy.cell
  have H3 := H2.out.up hH11.below
  clear hH11
  go_wp2_with fail
  refine (HSR.out _).mono ?_
  rintro e w5 ⟨rfl, hb⟩
  have H4 := H3.up hb
  have kq := (hy.below hb).cell
  clear hb H3 hy kz
  clear kq
  go_wp2_with fail
  refine held_begin (by kernel_rfl) H4 (fun v0 hH0 => ?_)
  refine wpAnyH_take (i := 0) (v := ?_) rfl (by kernel_rfl) (by kernel_rfl) (by kernel_rfl) (fun _ _ _ h => h) (Or.inl ⟨by rfl, ?_⟩) hH0 ?_
  rotate_left
  · (intro v hSw; go_simp; try with_reducible rfl)
  simp only [Act.put, List.setIfInBounds_toArray, List.set_cons_zero, List.set_cons_succ, List.getElem_toArray, List.getElem_cons_zero]
  refine wpAnyH_take (i := 1) (v := ?_) rfl (by kernel_rfl) (by kernel_rfl) (by kernel_rfl) (fun _ _ _ h => h) (Or.inl ⟨by rfl, ?_⟩) hH0 ?_
  rotate_left
  · (intro v hSw; have k := (HG.out.up hSw.below).e0; go_simp; try with_reducible rfl)
  simp only [Act.put, List.setIfInBounds_toArray, List.set_cons_zero, List.set_cons_succ, List.getElem_toArray, List.getElem_cons_zero, List.getElem_cons_succ]
  refine wpAnyH_take (i := 2) (v := ?_) rfl (by kernel_rfl) (by kernel_rfl) (by kernel_rfl) (fun _ _ _ h => h) (Or.inl ⟨by rfl, ?_⟩) hH0 ?_
  rotate_left
  · (intro v hSw; go_simp; try with_reducible rfl)
  simp only [Act.put, List.setIfInBounds_toArray, List.set_cons_zero, List.set_cons_succ, List.getElem_toArray, List.getElem_cons_zero, List.getElem_cons_succ]
  refine wpAnyH_take (i := 3) (v := ?_) rfl (by kernel_rfl) (by kernel_rfl) (by kernel_rfl) (fun _ _ _ h => h) (Or.inl ⟨by rfl, ?_⟩) hH0 ?_
  rotate_left
  · (intro v hSw; go_simp; try with_reducible rfl)
  simp only [Act.put, List.setIfInBounds_toArray, List.set_cons_zero, List.set_cons_succ, List.getElem_toArray, List.getElem_cons_zero, List.getElem_cons_succ]
  refine wpAnyH_ready (rs := [4]) (by kernel_rfl) (by simp) ?_
  refine AllReadyH.cons rfl (fun K hK => ?_) AllReadyH.nil
  obtain ⟨u0, u1, u2, u3, u4, u5, u6, u7, hx⟩ := hH0.o0.eight
  have kx := hx.cell
  have fx := hx.frozen
  go_simp
  refine hK.out _ _ (hH0.set8 ⟨8, by simp⟩ _ _ _ _ _ _ _ _) (fun hX => ?_)
  refine stored8 hH0 ⟨8, by simp⟩ hx (fun v1 hH1 hy => ?_)
  clear hK K hX hH0 hx kx fx
  refine wpAnyH_take (i := 5) (v := ?_) rfl (by kernel_rfl) (by kernel_rfl) (by kernel_rfl) (fun _ _ _ h => h) (Or.inl ⟨by rfl, ?_⟩) hH1 ?_
  rotate_left
  · (intro v hSw; go_simp; try with_reducible rfl)
  simp only [Act.put, List.setIfInBounds_toArray, List.set_cons_zero, List.set_cons_succ, List.getElem_toArray, List.getElem_cons_zero, List.getElem_cons_succ]
  refine wpAnyH_done (by kernel_rfl) ?_ _
  have kz := hy.cell
  go_wp2_with fail
  refine bodyPost_ret (v := .tuple #[.agg #[.int .i64 0, .int .u64 0, .int .u64 0, .int .u64 0, .int .u64 0, .bool false, .bool false, .bool false], .iface 137 (.agg #[.string ⟨#[98, 108, 111, 99, 107, 115, 32, 111, 114, 32, 103, 101, 110, 101, 114, 97, 116, 105, 111, 110, 115]⟩, .iface 179 (.pointer (some a))])]) (by simp [results, Tryz.results91, go_sem, kz]) rfl ⟨_, rfl, .inr (.inl ⟨_, rfl, rfl⟩), hH1.below⟩

end

end Go.Proofs.YtjkgellkkjjnbaaGreatDoor
