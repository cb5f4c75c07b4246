/- Vectors: the walk of the law on three mints: it answers true, for every vector and every three generations. No other condition. -/
import Derived.Test.YtofojafihcekjaaV8
namespace Go.Proofs.Ytofojafihcekjaa
open Go.RowKit

/-- One more mint of a vector's four numbers. -/
def mintT (x : Int × Int × Int × Int) (g : Int) : Int × Int × Int × Int := (g, mintB x.1 x.2.1 g, mintO x.1 x.2.1 x.2.2.1 g, mintP x.2.1 x.2.2.1 x.2.2.2 g)

theorem long_end0 {c o p g0 g1 g2 : Int} (hc : ¬ c = 0) (h0 : ¬ g0 = 0) (h1 : ¬ g1 = 0) (h2 : ¬ g2 = 0) : [g0, g1, g2].foldl mintT (c, 0, o, p) = (g2, c, g1, g0) := by
  simp [mintT, mintB, mintO, mintP, hc, h0, h1, h2]
theorem long_end {c b o p g0 g1 g2 : Int} (hb : ¬ b = 0) (h0 : ¬ g0 = 0) (h1 : ¬ g1 = 0) (h2 : ¬ g2 = 0) : [g0, g1, g2].foldl mintT (c, b, o, p) = (g2, b, g1, g0) := by
  simp [mintT, mintB, mintO, mintP, hb, h0, h1, h2]
theorem mint_more {g0 g1 g2 : Int} {x : Int × Int × Int × Int} (k : Nat) (h : k < 3) : ([g0, g1, g2].take (k + 1)).foldl mintT x = mintT (([g0, g1, g2].take k).foldl mintT x) ([g0, g1, g2][k]) := by
  rw [take_snoc [g0, g1, g2] k h, List.foldl_append]; rfl
theorem long_at {g0 g1 g2 : Int} (k : Nat) (h : k < 3) (h0 : ¬ g0 = 0) (h1 : ¬ g1 = 0) (h2 : ¬ g2 = 0) : ¬ [g0, g1, g2][k] = 0 := by
  match k, h with
  | 0, _ => exact h0
  | 1, _ => exact h1
  | 2, _ => exact h2
theorem ret_base {c b o p : Int} (hb : ¬ b = 0) (w : World) : Calls Try.prog 10 #[vecV c b o p] w fun e w' => e = .returned (vecV c 0 b o) ∧ Below w.heap.size w w' := by
  have := retire_any c b o p w
  unfold retO retP at this
  simpa only [if_neg hb] using this

set_option maxRecDepth 100000 in
set_option maxHeartbeats 8000000 in
theorem long_zero (c o p g0 g1 g2 : Int) (w : World) (hc : ¬ c = 0) (h0 : ¬ g0 = 0) (h1 : ¬ g1 = 0) (h2 : ¬ g2 = 0) : Calls Try.prog 6 #[vecV c 0 o p, .agg #[.int .u64 g0, .int .u64 g1, .int .u64 g2]] w (Yes w) := by
  have HEND := Lib.hid (long_end0 hc h0 h1 h2 (c := c) (o := o) (p := p))
  have HAT := Lib.hid fun k h => @long_at g0 g1 g2 k h h0 h1 h2
  have HMORE := Lib.hid fun k h => @mint_more g0 g1 g2 (c, 0, o, p) k h
  have HRET := Lib.hid fun w => @ret_base g2 c g1 g0 hc w
  have B0 := Lib.hid (((Boxs.nil w).lay [.int .u64 c, .int .u64 0, .int .u64 o, .int .u64 p] 25).lay [.int .u64 g0, .int .u64 g1, .int .u64 g2] 38)
  have H0 := Lib.hid (below2 (w := w) (o := .cells #[.int .u64 c, .int .u64 0, .int .u64 o, .int .u64 p] 25) (p := .cells #[.int .u64 g0, .int .u64 g1, .int .u64 g2] 38))
  have e0 := ne0 h0
  have e1 := ne0 h1
  have e2 := ne0 h2
  have ec := ne0 hc
  go_enter Try.func6, Try.ntmps6
  go_wp2_with fail
  refine (alive_any _).mono ?_
  rintro e w1 ⟨rfl, hb1⟩
  have B1 := Lib.hid (B0.out.up hb1)
  have H1 := Lib.hid (ext H0.out hb1)
  clear hb1 B0 H0
  have k1 := B1.out.hd.cell
  have k2 := B1.out.tl.hd.cell
  rw [World.size_alloc] at k1
  go_wp2_with fail
  have s1 := B1.out.hd
  rw [World.size_alloc] at s1
  have HG1 := Lib.hid s1; clear s1
  have HV1 := Lib.hid B1.out.tl.hd
  clear k1 k2
  go_loopw [6, 7, 8] (fun i _ _ wr => ∃ (k : Nat) (C B O P : Int), k ≤ 3 ∧ i = .int .i64 k ∧ Hid ((C, B, O, P) = ([g0, g1, g2].take k).foldl mintT (c, 0, o, p)) ∧ Hid (Box wr w.heap.size [Value.int .u64 C, .int .u64 B, .int .u64 O, .int .u64 P]) ∧ Hid (Box wr (w.heap.size + 1) [Value.int .u64 g0, .int .u64 g1, .int .u64 g2]) ∧ Hid (Below w.heap.size w wr)) (fun i _ _ _ => 3 - (intOf i).toNat)
  case atStart => exact ⟨0, c, 0, o, p, by omega, rfl, rfl, HV1.out, HG1.out, H1.out⟩
  case round =>
    obtain ⟨k, C, B, O, P, hk, rfl, HI, HV, HG, HB⟩ := hrel
    clear B1 H1 HG1 HV1
    have hkeep : ∀ w', Below wr.heap.size wr w' → (∀ j, w'.cell? ⟨w.heap.size, j, none⟩ = [Value.int .u64 C, .int .u64 B, .int .u64 O, .int .u64 P][j]?) ∧ (∀ j, w'.cell? ⟨w.heap.size + 1, j, none⟩ = [Value.int .u64 g0, .int .u64 g1, .int .u64 g2][j]?) := fun w' hb => ⟨(HV.out.below hb).cell, (HG.out.below hb).cell⟩
    have HK := Lib.hid hkeep; clear hkeep
    by_cases hlt : k < 3
    · have hx := (HG.out).cell k
      have hne := HAT.out k hlt
      have hmo := HMORE.out k hlt
      rw [← HI.out] at hmo
      have hgx : [Value.int .u64 g0, .int .u64 g1, .int .u64 g2][k]? = some (.int .u64 [g0, g1, g2][k]) := by
        show (([g0, g1, g2] : List Int).map (Value.int .u64))[k]? = _
        rw [List.getElem?_map, List.getElem?_eq_getElem hlt]; rfl
      rw [hgx] at hx
      generalize [g0, g1, g2][k] = x at *
      have hkeep : ∀ w', Below wr.heap.size wr w' → (∀ j, w'.cell? ⟨w.heap.size, j, none⟩ = [Value.int .u64 C, .int .u64 B, .int .u64 O, .int .u64 P][j]?) ∧ w'.cell? ⟨w.heap.size + 1, k, none⟩ = some (.int .u64 x) := fun w' hb => ⟨(HV.out.below hb).cell, (hb.cell (p := ⟨w.heap.size + 1, k, none⟩) HG.out.lt).trans hx⟩
      have HK2 := Lib.hid hkeep; clear hkeep hx hgx HK
      have hcall := fun w => mint_any C B O P x w
      rw [mintE_ok hne] at hcall
      have hmo2 : (([g0, g1, g2].take (k + 1)).foldl mintT (c, 0, o, p)) = (x, mintB C B x, mintO C B O x, mintP B O P x) := hmo
      have HMO := Lib.hid hmo2.symm; clear hmo hmo2
      have HC := Lib.hid hcall; clear hcall
      clear hne HI
      generalize mintB C B x = B' at *
      generalize mintO C B O x = O' at *
      generalize mintP B O P x = P' at *
      have hki : (k : Int) < 3 := by omega
      have HNE := Lib.hid HV.out.lt
      have HNG := Lib.hid HG.out.lt
      go_wp2_with fail
      go_region_held3 (fun w' => Below wr.heap.size wr w' ∧ (∀ j, w'.cell? ⟨w.heap.size, j, none⟩ = [Value.int .u64 C, .int .u64 B, .int .u64 O, .int .u64 P][j]?) ∧ w'.cell? ⟨w.heap.size + 1, k, none⟩ = some (.int .u64 x))
        (first | exact ⟨(Below.refl _ _).drew, HK2.out _ (Below.refl _ _).drew⟩ | exact ⟨by assumption, HK2.out _ (by assumption)⟩ | exact ⟨ext_alloc hB _, HK2.out _ (ext_alloc hB _)⟩ | exact ⟨below4 hB (Nat.le_refl _) _ _ _ _, HK2.out _ (below4 hB (Nat.le_refl _) _ _ _ _)⟩ | exact ⟨(ext_alloc (Below.refl _ _) _).drew, HK2.out _ (ext_alloc (Below.refl _ _) _).drew⟩)
        (first
          | (go_at_call 8; obtain ⟨hcur, _⟩ := ‹Below wr.heap.size wr _ ∧ _›; refine (HC.out _).mono ?_; rintro e w6 ⟨rfl, hb6⟩; have by6 := (show Box ((wr.alloc (.cells #[.int .u64 0, .int .u64 0, .int .u64 0, .int .u64 0] 25)).drew) wr.heap.size [.int .u64 0, .int .u64 0, .int .u64 0, .int .u64 0] from Box.new wr [.int .u64 0, .int .u64 0, .int .u64 0, .int .u64 0] 25).below hb6; have hB := ext hcur hb6; have cy6 := by6.cell; have zy6 := by6.frozen)
          | (go_at_call 8; obtain ⟨hcur, _⟩ := ‹Below wr.heap.size wr _ ∧ _›; refine (HC.out _).mono ?_; rintro e w6 ⟨rfl, hb6⟩; have hB := ext hcur hb6))
      · have hy := Box.new w6 [.int .u64 x, .int .u64 B', .int .u64 O', .int .u64 P'] 25
        have hx := (HV.out.below hB).alloc (.cells #[.int .u64 x, .int .u64 B', .int .u64 O', .int .u64 P'] 25)
        have hg := (HG.out.below hB).alloc (.cells #[.int .u64 x, .int .u64 B', .int .u64 O', .int .u64 P'] 25)
        have hbl := ext_alloc (ext HB.out hB) (.cells #[.int .u64 x, .int .u64 B', .int .u64 O', .int .u64 P'] 25)
        obtain ⟨wz, hwz⟩ : ∃ wz, w6.alloc (.cells #[.int .u64 x, .int .u64 B', .int .u64 O', .int .u64 P'] 25) = wz := ⟨_, rfl⟩
        rw [hwz] at hy hx hg hbl
        simp only [hwz]
        clear hwz
        have HVz := Lib.hid hx; clear hx
        have HGz := Lib.hid hg; clear hg
        have HBz := Lib.hid hbl; clear hbl
        have ky := hy.cell
        have kx := HVz.out.cell
        have zx := HVz.out.frozen
        clear hy HC HK2 HV HG HB
        go_wp2_with fail
        go_roundw
        case rel => exact ⟨k + 1, x, B', O', P', by omega, by go_num, HMO.out, HVz.out.four _ _ _ _, HGz.out.past4 (by omega) _ _ _ _, below4 HBz.out (Nat.le_refl _) _ _ _ _⟩
        case measure => simp [intOf]; omega
      · have hy := by6.four (.int .u64 x) (.int .u64 B') (.int .u64 O') (.int .u64 P')
        have hx := (HV.out.below hB).past4 (b := wr.heap.size) (by have := HV.out.lt; omega) (.int .u64 x) (.int .u64 B') (.int .u64 O') (.int .u64 P')
        have hg := (HG.out.below hB).past4 (b := wr.heap.size) (by have := HG.out.lt; omega) (.int .u64 x) (.int .u64 B') (.int .u64 O') (.int .u64 P')
        have hbl := below4 (ext HB.out hB) HB.out.size (.int .u64 x) (.int .u64 B') (.int .u64 O') (.int .u64 P')
        obtain ⟨wz, hwz⟩ : ∃ wz, (((w6.setCell ⟨wr.heap.size, 0, none⟩ (.int .u64 x)).setCell ⟨wr.heap.size, 1, none⟩ (.int .u64 B')).setCell ⟨wr.heap.size, 2, none⟩ (.int .u64 O')).setCell ⟨wr.heap.size, 3, none⟩ (.int .u64 P') = wz := ⟨_, rfl⟩
        rw [hwz] at hy hx hg hbl
        simp only [hwz]
        clear hwz by6 cy6 zy6
        have HVz := Lib.hid hx; clear hx
        have HGz := Lib.hid hg; clear hg
        have HBz := Lib.hid hbl; clear hbl
        have ky := hy.cell
        have kx := HVz.out.cell
        have zx := HVz.out.frozen
        clear hy HC HK2 HV HG HB
        go_wp2_with fail
        go_roundw
        case rel => exact ⟨k + 1, x, B', O', P', by omega, by go_num, HMO.out, HVz.out.four _ _ _ _, HGz.out.past4 (by omega) _ _ _ _, below4 HBz.out (Nat.le_refl _) _ _ _ _⟩
        case measure => simp [intOf]; omega
    · obtain rfl : k = 3 := by omega
      have hi := HI.out
      rw [show [g0, g1, g2].take 3 = [g0, g1, g2] from rfl, HEND.out] at hi
      injection hi with q1 hi
      injection hi with q2 hi
      injection hi with q3 q4
      subst q1; subst q2; subst q3; subst q4
      clear HI
      go_wp2_with fail
      go_region_held3 (fun w' => Below wr.heap.size wr w' ∧ (∀ j, w'.cell? ⟨w.heap.size, j, none⟩ = [Value.int .u64 C, .int .u64 B, .int .u64 O, .int .u64 P][j]?) ∧ (∀ j, w'.cell? ⟨w.heap.size + 1, j, none⟩ = [Value.int .u64 P, .int .u64 O, .int .u64 C][j]?))
        (first | exact ⟨(Below.refl _ _).drew, HK.out _ (Below.refl _ _).drew⟩ | exact ⟨by assumption, HK.out _ (by assumption)⟩)
        (first
          | (go_at_call 10; obtain ⟨hcur, _⟩ := ‹Below wr.heap.size wr _ ∧ _›; refine (HRET.out _).mono ?_; rintro e w6 ⟨rfl, hb6⟩; have hB := ext hcur hb6))
      all_goals
        obtain ⟨hcur, _⟩ := ‹Below wr.heap.size wr _ ∧ _›
        go_wp2_with fail
        go_ret
        exact ⟨rfl, ext HB.out hcur⟩

set_option maxRecDepth 100000 in
set_option maxHeartbeats 8000000 in
theorem long_some (c b o p g0 g1 g2 : Int) (w : World) (hc : ¬ c = 0) (hb : ¬ b = 0) (h0 : ¬ g0 = 0) (h1 : ¬ g1 = 0) (h2 : ¬ g2 = 0) : Calls Try.prog 6 #[vecV c b o p, .agg #[.int .u64 g0, .int .u64 g1, .int .u64 g2]] w (Yes w) := by
  have HEND := Lib.hid (long_end hb h0 h1 h2 (c := c) (o := o) (p := p))
  have HAT := Lib.hid fun k h => @long_at g0 g1 g2 k h h0 h1 h2
  have HMORE := Lib.hid fun k h => @mint_more g0 g1 g2 (c, b, o, p) k h
  have HRET := Lib.hid fun w => @ret_base g2 b g1 g0 hb w
  have B0 := Lib.hid (((Boxs.nil w).lay [.int .u64 c, .int .u64 b, .int .u64 o, .int .u64 p] 25).lay [.int .u64 g0, .int .u64 g1, .int .u64 g2] 38)
  have H0 := Lib.hid (below2 (w := w) (o := .cells #[.int .u64 c, .int .u64 b, .int .u64 o, .int .u64 p] 25) (p := .cells #[.int .u64 g0, .int .u64 g1, .int .u64 g2] 38))
  have e0 := ne0 h0
  have e1 := ne0 h1
  have e2 := ne0 h2
  have ec := ne0 hc
  have eb := ne0 hb
  go_enter Try.func6, Try.ntmps6
  go_wp2_with fail
  refine (alive_any _).mono ?_
  rintro e w1 ⟨rfl, hb1⟩
  have B1 := Lib.hid (B0.out.up hb1)
  have H1 := Lib.hid (ext H0.out hb1)
  clear hb1 B0 H0
  have k1 := B1.out.hd.cell
  have k2 := B1.out.tl.hd.cell
  rw [World.size_alloc] at k1
  go_wp2_with fail
  have s1 := B1.out.hd
  rw [World.size_alloc] at s1
  have HG1 := Lib.hid s1; clear s1
  have HV1 := Lib.hid B1.out.tl.hd
  clear k1 k2
  go_loopw [6, 7, 8] (fun i _ _ wr => ∃ (k : Nat) (C B O P : Int), k ≤ 3 ∧ i = .int .i64 k ∧ Hid ((C, B, O, P) = ([g0, g1, g2].take k).foldl mintT (c, b, o, p)) ∧ Hid (Box wr w.heap.size [Value.int .u64 C, .int .u64 B, .int .u64 O, .int .u64 P]) ∧ Hid (Box wr (w.heap.size + 1) [Value.int .u64 g0, .int .u64 g1, .int .u64 g2]) ∧ Hid (Below w.heap.size w wr)) (fun i _ _ _ => 3 - (intOf i).toNat)
  case atStart => exact ⟨0, c, b, o, p, by omega, rfl, rfl, HV1.out, HG1.out, H1.out⟩
  case round =>
    obtain ⟨k, C, B, O, P, hk, rfl, HI, HV, HG, HB⟩ := hrel
    clear B1 H1 HG1 HV1
    have hkeep : ∀ w', Below wr.heap.size wr w' → (∀ j, w'.cell? ⟨w.heap.size, j, none⟩ = [Value.int .u64 C, .int .u64 B, .int .u64 O, .int .u64 P][j]?) ∧ (∀ j, w'.cell? ⟨w.heap.size + 1, j, none⟩ = [Value.int .u64 g0, .int .u64 g1, .int .u64 g2][j]?) := fun w' hb => ⟨(HV.out.below hb).cell, (HG.out.below hb).cell⟩
    have HK := Lib.hid hkeep; clear hkeep
    by_cases hlt : k < 3
    · have hx := (HG.out).cell k
      have hne := HAT.out k hlt
      have hmo := HMORE.out k hlt
      rw [← HI.out] at hmo
      have hgx : [Value.int .u64 g0, .int .u64 g1, .int .u64 g2][k]? = some (.int .u64 [g0, g1, g2][k]) := by
        show (([g0, g1, g2] : List Int).map (Value.int .u64))[k]? = _
        rw [List.getElem?_map, List.getElem?_eq_getElem hlt]; rfl
      rw [hgx] at hx
      generalize [g0, g1, g2][k] = x at *
      have hkeep : ∀ w', Below wr.heap.size wr w' → (∀ j, w'.cell? ⟨w.heap.size, j, none⟩ = [Value.int .u64 C, .int .u64 B, .int .u64 O, .int .u64 P][j]?) ∧ w'.cell? ⟨w.heap.size + 1, k, none⟩ = some (.int .u64 x) := fun w' hb => ⟨(HV.out.below hb).cell, (hb.cell (p := ⟨w.heap.size + 1, k, none⟩) HG.out.lt).trans hx⟩
      have HK2 := Lib.hid hkeep; clear hkeep hx hgx HK
      have hcall := fun w => mint_any C B O P x w
      rw [mintE_ok hne] at hcall
      have hmo2 : (([g0, g1, g2].take (k + 1)).foldl mintT (c, b, o, p)) = (x, mintB C B x, mintO C B O x, mintP B O P x) := hmo
      have HMO := Lib.hid hmo2.symm; clear hmo hmo2
      have HC := Lib.hid hcall; clear hcall
      clear hne HI
      generalize mintB C B x = B' at *
      generalize mintO C B O x = O' at *
      generalize mintP B O P x = P' at *
      have hki : (k : Int) < 3 := by omega
      have HNE := Lib.hid HV.out.lt
      have HNG := Lib.hid HG.out.lt
      go_wp2_with fail
      go_region_held3 (fun w' => Below wr.heap.size wr w' ∧ (∀ j, w'.cell? ⟨w.heap.size, j, none⟩ = [Value.int .u64 C, .int .u64 B, .int .u64 O, .int .u64 P][j]?) ∧ w'.cell? ⟨w.heap.size + 1, k, none⟩ = some (.int .u64 x))
        (first | exact ⟨(Below.refl _ _).drew, HK2.out _ (Below.refl _ _).drew⟩ | exact ⟨by assumption, HK2.out _ (by assumption)⟩ | exact ⟨ext_alloc hB _, HK2.out _ (ext_alloc hB _)⟩ | exact ⟨below4 hB (Nat.le_refl _) _ _ _ _, HK2.out _ (below4 hB (Nat.le_refl _) _ _ _ _)⟩ | exact ⟨(ext_alloc (Below.refl _ _) _).drew, HK2.out _ (ext_alloc (Below.refl _ _) _).drew⟩)
        (first
          | (go_at_call 8; obtain ⟨hcur, _⟩ := ‹Below wr.heap.size wr _ ∧ _›; refine (HC.out _).mono ?_; rintro e w6 ⟨rfl, hb6⟩; have by6 := (show Box ((wr.alloc (.cells #[.int .u64 0, .int .u64 0, .int .u64 0, .int .u64 0] 25)).drew) wr.heap.size [.int .u64 0, .int .u64 0, .int .u64 0, .int .u64 0] from Box.new wr [.int .u64 0, .int .u64 0, .int .u64 0, .int .u64 0] 25).below hb6; have hB := ext hcur hb6; have cy6 := by6.cell; have zy6 := by6.frozen)
          | (go_at_call 8; obtain ⟨hcur, _⟩ := ‹Below wr.heap.size wr _ ∧ _›; refine (HC.out _).mono ?_; rintro e w6 ⟨rfl, hb6⟩; have hB := ext hcur hb6))
      · have hy := Box.new w6 [.int .u64 x, .int .u64 B', .int .u64 O', .int .u64 P'] 25
        have hx := (HV.out.below hB).alloc (.cells #[.int .u64 x, .int .u64 B', .int .u64 O', .int .u64 P'] 25)
        have hg := (HG.out.below hB).alloc (.cells #[.int .u64 x, .int .u64 B', .int .u64 O', .int .u64 P'] 25)
        have hbl := ext_alloc (ext HB.out hB) (.cells #[.int .u64 x, .int .u64 B', .int .u64 O', .int .u64 P'] 25)
        obtain ⟨wz, hwz⟩ : ∃ wz, w6.alloc (.cells #[.int .u64 x, .int .u64 B', .int .u64 O', .int .u64 P'] 25) = wz := ⟨_, rfl⟩
        rw [hwz] at hy hx hg hbl
        simp only [hwz]
        clear hwz
        have HVz := Lib.hid hx; clear hx
        have HGz := Lib.hid hg; clear hg
        have HBz := Lib.hid hbl; clear hbl
        have ky := hy.cell
        have kx := HVz.out.cell
        have zx := HVz.out.frozen
        clear hy HC HK2 HV HG HB
        go_wp2_with fail
        go_roundw
        case rel => exact ⟨k + 1, x, B', O', P', by omega, by go_num, HMO.out, HVz.out.four _ _ _ _, HGz.out.past4 (by omega) _ _ _ _, below4 HBz.out (Nat.le_refl _) _ _ _ _⟩
        case measure => simp [intOf]; omega
      · have hy := by6.four (.int .u64 x) (.int .u64 B') (.int .u64 O') (.int .u64 P')
        have hx := (HV.out.below hB).past4 (b := wr.heap.size) (by have := HV.out.lt; omega) (.int .u64 x) (.int .u64 B') (.int .u64 O') (.int .u64 P')
        have hg := (HG.out.below hB).past4 (b := wr.heap.size) (by have := HG.out.lt; omega) (.int .u64 x) (.int .u64 B') (.int .u64 O') (.int .u64 P')
        have hbl := below4 (ext HB.out hB) HB.out.size (.int .u64 x) (.int .u64 B') (.int .u64 O') (.int .u64 P')
        obtain ⟨wz, hwz⟩ : ∃ wz, (((w6.setCell ⟨wr.heap.size, 0, none⟩ (.int .u64 x)).setCell ⟨wr.heap.size, 1, none⟩ (.int .u64 B')).setCell ⟨wr.heap.size, 2, none⟩ (.int .u64 O')).setCell ⟨wr.heap.size, 3, none⟩ (.int .u64 P') = wz := ⟨_, rfl⟩
        rw [hwz] at hy hx hg hbl
        simp only [hwz]
        clear hwz by6 cy6 zy6
        have HVz := Lib.hid hx; clear hx
        have HGz := Lib.hid hg; clear hg
        have HBz := Lib.hid hbl; clear hbl
        have ky := hy.cell
        have kx := HVz.out.cell
        have zx := HVz.out.frozen
        clear hy HC HK2 HV HG HB
        go_wp2_with fail
        go_roundw
        case rel => exact ⟨k + 1, x, B', O', P', by omega, by go_num, HMO.out, HVz.out.four _ _ _ _, HGz.out.past4 (by omega) _ _ _ _, below4 HBz.out (Nat.le_refl _) _ _ _ _⟩
        case measure => simp [intOf]; omega
    · obtain rfl : k = 3 := by omega
      have hi := HI.out
      rw [show [g0, g1, g2].take 3 = [g0, g1, g2] from rfl, HEND.out] at hi
      injection hi with q1 hi
      injection hi with q2 hi
      injection hi with q3 q4
      subst q1; subst q2; subst q3; subst q4
      clear HI
      go_wp2_with fail
      go_region_held3 (fun w' => Below wr.heap.size wr w' ∧ (∀ j, w'.cell? ⟨w.heap.size, j, none⟩ = [Value.int .u64 C, .int .u64 B, .int .u64 O, .int .u64 P][j]?) ∧ (∀ j, w'.cell? ⟨w.heap.size + 1, j, none⟩ = [Value.int .u64 P, .int .u64 O, .int .u64 C][j]?))
        (first | exact ⟨(Below.refl _ _).drew, HK.out _ (Below.refl _ _).drew⟩ | exact ⟨by assumption, HK.out _ (by assumption)⟩)
        (first
          | (go_at_call 10; obtain ⟨hcur, _⟩ := ‹Below wr.heap.size wr _ ∧ _›; refine (HRET.out _).mono ?_; rintro e w6 ⟨rfl, hb6⟩; have hB := ext hcur hb6))
      all_goals
        obtain ⟨hcur, _⟩ := ‹Below wr.heap.size wr _ ∧ _›
        go_wp2_with fail
        go_ret
        exact ⟨rfl, ext HB.out hcur⟩

set_option maxRecDepth 100000 in
set_option maxHeartbeats 2000000 in
theorem long_none (c b o p g0 g1 g2 : Int) (w : World) (h : c = 0 ∨ (¬ c = 0 ∧ g0 = 0) ∨ (¬ c = 0 ∧ ¬ g0 = 0 ∧ g1 = 0) ∨ (¬ c = 0 ∧ ¬ g0 = 0 ∧ ¬ g1 = 0 ∧ g2 = 0)) : Calls Try.prog 6 #[vecV c b o p, .agg #[.int .u64 g0, .int .u64 g1, .int .u64 g2]] w (Yes w) := by
  have B0 := Lib.hid (((Boxs.nil w).lay [.int .u64 c, .int .u64 b, .int .u64 o, .int .u64 p] 25).lay [.int .u64 g0, .int .u64 g1, .int .u64 g2] 38)
  have H0 := Lib.hid (below2 (w := w) (o := .cells #[.int .u64 c, .int .u64 b, .int .u64 o, .int .u64 p] 25) (p := .cells #[.int .u64 g0, .int .u64 g1, .int .u64 g2] 38))
  have HH := Lib.hid h; clear h
  go_enter Try.func6, Try.ntmps6
  go_wp2_with fail
  refine (alive_any _).mono ?_
  rintro e w1 ⟨rfl, hb1⟩
  have B1 := Lib.hid (B0.out.up hb1)
  have H1 := Lib.hid (ext H0.out hb1)
  clear hb1 B0 H0
  have k1 := B1.out.hd.cell
  have k2 := B1.out.tl.hd.cell
  rw [World.size_alloc] at k1
  clear B1
  rcases HH.out with hc | ⟨hc, h0⟩ | ⟨hc, h0, h1⟩ | ⟨hc, h0, h1, h2⟩
  · have q0 : (c == 0) = true := beq_iff_eq.2 hc
    clear HH hc
    go_wp2_with fail
    go_ret
    exact ⟨rfl, H1.out⟩
  · have q0 := ne0 hc
    have q1 : (g0 == 0) = true := beq_iff_eq.2 h0
    clear HH hc h0
    go_wp2_with fail
    go_ret
    exact ⟨rfl, H1.out⟩
  · have q0 := ne0 hc
    have q1 := ne0 h0
    have q2 : (g1 == 0) = true := beq_iff_eq.2 h1
    clear HH hc h0 h1
    go_wp2_with fail
    go_ret
    exact ⟨rfl, H1.out⟩
  · have q0 := ne0 hc
    have q1 := ne0 h0
    have q2 := ne0 h1
    have q3 : (g2 == 0) = true := beq_iff_eq.2 h2
    clear HH hc h0 h1 h2
    go_wp2_with fail
    go_ret
    exact ⟨rfl, H1.out⟩

theorem long_law (c b o p g0 g1 g2 : Int) (w : World) : Calls Try.prog 6 #[vecV c b o p, .agg #[.int .u64 g0, .int .u64 g1, .int .u64 g2]] w (Yes w) := by
  by_cases hc : c = 0
  · exact long_none c b o p g0 g1 g2 w (Or.inl hc)
  · by_cases h0 : g0 = 0
    · exact long_none c b o p g0 g1 g2 w (Or.inr (Or.inl ⟨hc, h0⟩))
    · by_cases h1 : g1 = 0
      · exact long_none c b o p g0 g1 g2 w (Or.inr (Or.inr (Or.inl ⟨hc, h0, h1⟩)))
      · by_cases h2 : g2 = 0
        · exact long_none c b o p g0 g1 g2 w (Or.inr (Or.inr (Or.inr ⟨hc, h0, h1, h2⟩)))
        · by_cases hb : b = 0
          · subst hb
            exact long_zero c o p g0 g1 g2 w hc h0 h1 h2
          · exact long_some c b o p g0 g1 g2 w hc hb h0 h1 h2
end Go.Proofs.Ytofojafihcekjaa
