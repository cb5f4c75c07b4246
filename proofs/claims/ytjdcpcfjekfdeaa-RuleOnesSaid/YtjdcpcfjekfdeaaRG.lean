/- Rule: what a verdict tells, which blocks it copies, and whether two vectors agree, on both sides; of Bits for numbers of blocks that may be. -/
import Derived.Test.YtjdcpcfjekfdeaaRF
import Derived.Test.YtjdcpcfjekfdeaaMU
import Derived.Test.YtjdcpcfjekfdeaaR1
namespace Go.Proofs.Ytjdcpcfjekfdeaa
open Go.RowKit

/-- Do they agree? -/
def sameB (c b o p c2 b2 o2 p2 : Int) : Bool := c == c2 && (retO b o == retO b2 o2 && retP b o p == retP b2 o2 p2)

theorem full_bits (n : Int) (h : 1 ≤ n ∧ n ≤ 32) : ((2 : Int) ^ n.toNat - 1) % 4294967296 = ((allB n : Nat) : Int) := by
  rw [allB_of n h.1 h.2]
  have h1 : 2 ^ n.toNat ≤ 2 ^ 32 := Nat.pow_le_pow_right (by decide) (by omega)
  have h2 : 0 < 2 ^ n.toNat := Nat.pow_pos (by decide)
  have h3 : ((2 ^ n.toNat : Nat) : Int) = (2 : Int) ^ n.toNat := by simp
  rw [← h3]
  generalize 2 ^ n.toNat = z at *
  omega

set_option maxRecDepth 100000 in
set_option maxHeartbeats 4000000 in
theorem target_any (k s : Int) (w : World) : Calls Try.prog 15 #[verV k s] w fun e w' => e = .returned (.int .i64 (tgtI s)) ∧ Below w.heap.size w w' := by
  by_cases h0 : s = 0
  · subst h0
    go_enter Try.func15, Try.ntmps15
    go_wp2_with fail
    go_ret
    exact ⟨ret_int (by simp [tgtI]), below1⟩
  · have e0 : (s == 0) = false := beq_eq_false_iff_ne.2 h0
    by_cases h1 : s = 1
    · subst h1
      go_enter Try.func15, Try.ntmps15
      go_wp2_with fail
      go_ret
      exact ⟨ret_int (by simp [tgtI]), below1⟩
    · have e1 : (s == 1) = false := beq_eq_false_iff_ne.2 h1
      go_enter Try.func15, Try.ntmps15
      go_wp2_with fail
      go_ret
      exact ⟨ret_int (by simp [tgtI, h0, h1]), below1⟩

set_option maxRecDepth 100000 in
set_option maxHeartbeats 4000000 in
theorem rtarget_any (k s : Int) (w : World) : Calls Try.prog 16 #[verV k s] w fun e w' => e = .returned (.int .i64 (tgtI s)) ∧ Below w.heap.size w w' := by
  by_cases h0 : s = 0
  · subst h0
    go_enter Try.func16, Try.ntmps16
    go_wp2_with fail
    go_ret
    exact ⟨ret_int (by simp [tgtI]), below1⟩
  · have e0 : (s == 0) = false := beq_eq_false_iff_ne.2 h0
    by_cases h1 : s = 1
    · subst h1
      go_enter Try.func16, Try.ntmps16
      go_wp2_with fail
      go_ret
      exact ⟨ret_int (by simp [tgtI]), below1⟩
    · have e1 : (s == 1) = false := beq_eq_false_iff_ne.2 h1
      go_enter Try.func16, Try.ntmps16
      go_wp2_with fail
      go_ret
      exact ⟨ret_int (by simp [tgtI, h0, h1]), below1⟩

set_option maxRecDepth 100000 in
set_option maxHeartbeats 4000000 in
theorem bits_any (k s : Int) (x y : Hel) (w : World) (hm : x.m < 4294967296) (hm2 : y.m < 4294967296) (hn : 1 ≤ x.n ∧ x.n ≤ 32) : Calls Try.prog 13 #[verV k s, helV x, helV y] w fun e w' => e = .returned (.int .u32 ((bitsB k x y : Nat) : Int)) ∧ Below w.heap.size w w' := by
  obtain ⟨n, c, b, o, p, i, r, d, q, m⟩ := x
  obtain ⟨n2, c2, b2, o2, p2, i2, r2, d2, q2, m2⟩ := y
  unfold bitsB
  dsimp only [helV] at *
  have H0 := (((Held.refl w).lay [.int .i64 k, .int .i64 s] 32).lay [.int .i64 n, .int .u64 c, .int .u64 b, .int .u64 o, .int .u64 p, .bool i, .bool r, .bool d, .bool q, .int .u32 (m : Int)] 28).lay [.int .i64 n2, .int .u64 c2, .int .u64 b2, .int .u64 o2, .int .u64 p2, .bool i2, .bool r2, .bool d2, .bool q2, .int .u32 (m2 : Int)] 28
  simp only [World.size_alloc] at H0
  replace H0 := Lib.hid H0
  by_cases h2 : k = 2
  · subst h2
    go_enter Try.func13, Try.ntmps13
    go_wp2_with fail
    go_ret
    exact ⟨ret_int (by simp [← u32_or_nat m m2 hm hm2]), H0.out.below⟩
  · have e2 : (k == 2) = false := beq_eq_false_iff_ne.2 h2
    by_cases h3 : k = 3
    · subst h3
      go_enter Try.func13, Try.ntmps13
      go_wp2_with fail
      go_ret
      exact ⟨ret_int (by simpa using full_bits n hn), H0.out.below⟩
    · have e3 : (k == 3) = false := beq_eq_false_iff_ne.2 h3
      go_enter Try.func13, Try.ntmps13
      go_wp2_with fail
      go_ret
      exact ⟨ret_int (by simp), H0.out.below⟩

theorem es_one32 (w : World) (l : List Nat) (t : TypeId) : Cs .u32 (w.alloc (.cells ((l.map fun (x : Nat) => (x : Int)).map (Value.int .u32)).toArray t)) (w.alloc (.cells ((l.map fun (x : Nat) => (x : Int)).map (Value.int .u32)).toArray t)).heap.size (some ⟨w.heap.size, 0, none⟩) (l.map fun (x : Nat) => (x : Int)) := by
  rw [World.size_alloc]; exact cs_new _ _ _ _

theorem runion_two (m m2 : Nat) (hm : m < 4294967296) (hm2 : m2 < 4294967296) (W : World) (A : Option Addr) (h : Cs .u32 W W.heap.size A [(m : Int), (m2 : Int)]) : Calls Try.prog 26 #[.slice A 2 2] W fun e w' => e = .returned (.int .u32 ((uniB [m, m2] : Nat) : Int)) ∧ Below W.heap.size W w' :=
  runion_any A 2 [m, m2] W h (by simp [hm, hm2]) (by simp [maxLen])

set_option maxRecDepth 100000 in
set_option maxHeartbeats 4000000 in
theorem rbits_any (k s : Int) (x y : Hel) (w : World) (hm : x.m < 4294967296) (hm2 : y.m < 4294967296) (hn : 1 ≤ x.n ∧ x.n ≤ 32) : Calls Try.prog 14 #[verV k s, helV x, helV y] w fun e w' => e = .returned (.int .u32 ((bitsB k x y : Nat) : Int)) ∧ Below w.heap.size w w' := by
  obtain ⟨n, c, b, o, p, i, r, d, q, m⟩ := x
  obtain ⟨n2, c2, b2, o2, p2, i2, r2, d2, q2, m2⟩ := y
  unfold bitsB
  dsimp only [helV] at *
  have H0 := (((Held.refl w).lay [.int .i64 k, .int .i64 s] 32).lay [.int .i64 n, .int .u64 c, .int .u64 b, .int .u64 o, .int .u64 p, .bool i, .bool r, .bool d, .bool q, .int .u32 (m : Int)] 28).lay [.int .i64 n2, .int .u64 c2, .int .u64 b2, .int .u64 o2, .int .u64 p2, .bool i2, .bool r2, .bool d2, .bool q2, .int .u32 (m2 : Int)] 28
  simp only [World.size_alloc] at H0
  replace H0 := Lib.hid H0
  have hu := fun W A h => runion_two m m2 hm hm2 W A h
  have HU := Lib.hid hu; clear hu
  have ha := fun w => rall_any n w
  have HA := Lib.hid ha; clear ha
  generalize allB n = z at *
  by_cases h2 : k = 2
  · subst h2
    have hE := es_one32 ((((w.alloc (.cells #[.int .i64 2, .int .i64 s] 32)).alloc (.cells #[.int .i64 n, .int .u64 c, .int .u64 b, .int .u64 o, .int .u64 p, .bool i, .bool r, .bool d, .bool q, .int .u32 (m : Int)] 28)).alloc (.cells #[.int .i64 n2, .int .u64 c2, .int .u64 b2, .int .u64 o2, .int .u64 p2, .bool i2, .bool r2, .bool d2, .bool q2, .int .u32 (m2 : Int)] 28))) [m, m2] 26
    have HE := Lib.hid hE; clear hE
    go_enter Try.func14, Try.ntmps14
    go_wp2_with fail
    refine (HU.out _ _ ?_).mono ?_
    · simpa only [World.size_alloc, List.map_cons, List.map_nil] using HE.out
    rintro e w1 ⟨rfl, hb⟩
    have H1 := Lib.hid ((H0.out.lay [.int .u32 (m : Int), .int .u32 (m2 : Int)] 26).up hb)
    clear hb H0 HE HU
    go_wp2_with fail
    go_ret
    exact ⟨ret_int (by simp [uniB]), H1.out.below⟩
  · have e2 : (k == 2) = false := beq_eq_false_iff_ne.2 h2
    by_cases h3 : k = 3
    · subst h3
      go_enter Try.func14, Try.ntmps14
      go_wp2_with fail
      refine (HA.out _).mono ?_
      rintro e w1 ⟨rfl, rfl⟩
      go_wp2_with fail
      go_ret
      exact ⟨ret_int (by simp), H0.out.below⟩
    · have e3 : (k == 3) = false := beq_eq_false_iff_ne.2 h3
      go_enter Try.func14, Try.ntmps14
      go_wp2_with fail
      go_ret
      exact ⟨ret_int (by simp), H0.out.below⟩

set_option maxRecDepth 100000 in
set_option maxHeartbeats 4000000 in
theorem same_any (c b o p c2 b2 o2 p2 : Int) (w : World) : Calls Try.prog 17 #[vecV c b o p, vecV c2 b2 o2 p2] w fun e w' => e = .returned (.bool (sameB c b o p c2 b2 o2 p2)) ∧ Below w.heap.size w w' := by
  unfold sameB
  have hx := fun w => retire_any c b o p w
  have hy := fun w => retire_any c2 b2 o2 p2 w
  generalize retO b o = u at *
  generalize retP b o p = u2 at *
  generalize retO b2 o2 = v at *
  generalize retP b2 o2 p2 = v2 at *
  have HX := Lib.hid hx; clear hx
  have HY := Lib.hid hy; clear hy
  have H0 := ((Held.refl w).lay [.int .u64 c, .int .u64 b, .int .u64 o, .int .u64 p] 25).lay [.int .u64 c2, .int .u64 b2, .int .u64 o2, .int .u64 p2] 25
  simp only [World.size_alloc] at H0
  replace H0 := Lib.hid H0
  by_cases hc : c = c2
  · subst hc
    by_cases hu : u = v
    · subst hu
      by_cases hw : u2 = v2
      · subst hw
        go_enter Try.func17, Try.ntmps17
        go_wp2_with fail
        refine held_begin (by kernel_rfl) H0.out (fun v0 hH0 => ?_)
        refine wpAnyH_take (i := 0) (v := ?_) rfl (by kernel_rfl) (by kernel_rfl) (by kernel_rfl) (fun _ _ _ h => h) (Or.inl ⟨by rfl, ?_⟩) hH0 ?_
        rotate_left
        · (intro v hSw; have k1 := hSw.b0.cell; have k2 := hSw.b1.cell; go_simp; try with_reducible rfl)
        simp only [Act.put, List.setIfInBounds_toArray, List.set_cons_zero, List.set_cons_succ, List.getElem_toArray, List.getElem_cons_zero]
        refine wpAnyH_take (i := 2) (v := ?_) rfl (by kernel_rfl) (by kernel_rfl) (by kernel_rfl) (fun _ _ _ h => h) (Or.inl ⟨by rfl, ?_⟩) hH0 ?_
        rotate_left
        · (intro v hSw; have k1 := hSw.b0.cell; have k2 := hSw.b1.cell; go_simp; try with_reducible rfl)
        simp only [Act.put, List.setIfInBounds_toArray, List.set_cons_zero, List.set_cons_succ, List.getElem_toArray, List.getElem_cons_zero, List.getElem_cons_succ]
        refine wpAnyH_ready (rs := [1]) (by kernel_rfl) (by simp) ?_
        refine AllReadyH.cons rfl (fun K hK => ?_) AllReadyH.nil
        go_simp
        refine (HX.out _).mono ?_
        rintro e v1 ⟨rfl, hb⟩
        go_wp2_with fail
        refine hK.out _ _ (hH0.up hb) (fun hH1 => ?_)
        clear hK K hH0
        refine wpAnyH_ready (rs := [3]) (by kernel_rfl) (by simp) ?_
        refine AllReadyH.cons rfl (fun K hK => ?_) AllReadyH.nil
        go_simp
        refine (HY.out _).mono ?_
        rintro e v2 ⟨rfl, hb⟩
        go_wp2_with fail
        refine hK.out _ _ (hH1.up hb) (fun hH2 => ?_)
        clear hK K hH1
        refine wpAnyH_take (i := 4) (v := ?_) rfl (by kernel_rfl) (by kernel_rfl) (by kernel_rfl) (fun _ _ _ h => h) (Or.inl ⟨by rfl, ?_⟩) hH2 ?_
        rotate_left
        · (intro v hSw; have k1 := hSw.b0.cell; have k2 := hSw.b1.cell; go_simp; try with_reducible rfl)
        simp only [Act.put, List.setIfInBounds_toArray, List.set_cons_zero, List.set_cons_succ, List.getElem_toArray, List.getElem_cons_zero, List.getElem_cons_succ]
        refine wpAnyH_take (i := 5) (v := ?_) rfl (by kernel_rfl) (by kernel_rfl) (by kernel_rfl) (fun _ _ _ h => h) (Or.inl ⟨by rfl, ?_⟩) hH2 ?_
        rotate_left
        · (intro v hSw; have k1 := hSw.b0.cell; have k2 := hSw.b1.cell; go_simp; try with_reducible rfl)
        simp only [Act.put, List.setIfInBounds_toArray, List.set_cons_zero, List.set_cons_succ, List.getElem_toArray, List.getElem_cons_zero, List.getElem_cons_succ]
        refine wpAnyH_done (by kernel_rfl) ?_ _
        go_wp2_with fail
        go_ret
        exact ⟨ret_bool (by simp), hH2.below⟩
      · go_enter Try.func17, Try.ntmps17
        go_wp2_with fail
        refine held_begin (by kernel_rfl) H0.out (fun v0 hH0 => ?_)
        refine wpAnyH_take (i := 0) (v := ?_) rfl (by kernel_rfl) (by kernel_rfl) (by kernel_rfl) (fun _ _ _ h => h) (Or.inl ⟨by rfl, ?_⟩) hH0 ?_
        rotate_left
        · (intro v hSw; have k1 := hSw.b0.cell; have k2 := hSw.b1.cell; go_simp; try with_reducible rfl)
        simp only [Act.put, List.setIfInBounds_toArray, List.set_cons_zero, List.set_cons_succ, List.getElem_toArray, List.getElem_cons_zero]
        refine wpAnyH_take (i := 2) (v := ?_) rfl (by kernel_rfl) (by kernel_rfl) (by kernel_rfl) (fun _ _ _ h => h) (Or.inl ⟨by rfl, ?_⟩) hH0 ?_
        rotate_left
        · (intro v hSw; have k1 := hSw.b0.cell; have k2 := hSw.b1.cell; go_simp; try with_reducible rfl)
        simp only [Act.put, List.setIfInBounds_toArray, List.set_cons_zero, List.set_cons_succ, List.getElem_toArray, List.getElem_cons_zero, List.getElem_cons_succ]
        refine wpAnyH_ready (rs := [1]) (by kernel_rfl) (by simp) ?_
        refine AllReadyH.cons rfl (fun K hK => ?_) AllReadyH.nil
        go_simp
        refine (HX.out _).mono ?_
        rintro e v1 ⟨rfl, hb⟩
        go_wp2_with fail
        refine hK.out _ _ (hH0.up hb) (fun hH1 => ?_)
        clear hK K hH0
        refine wpAnyH_ready (rs := [3]) (by kernel_rfl) (by simp) ?_
        refine AllReadyH.cons rfl (fun K hK => ?_) AllReadyH.nil
        go_simp
        refine (HY.out _).mono ?_
        rintro e v2 ⟨rfl, hb⟩
        go_wp2_with fail
        refine hK.out _ _ (hH1.up hb) (fun hH2 => ?_)
        clear hK K hH1
        refine wpAnyH_take (i := 4) (v := ?_) rfl (by kernel_rfl) (by kernel_rfl) (by kernel_rfl) (fun _ _ _ h => h) (Or.inl ⟨by rfl, ?_⟩) hH2 ?_
        rotate_left
        · (intro v hSw; have k1 := hSw.b0.cell; have k2 := hSw.b1.cell; go_simp; try with_reducible rfl)
        simp only [Act.put, List.setIfInBounds_toArray, List.set_cons_zero, List.set_cons_succ, List.getElem_toArray, List.getElem_cons_zero, List.getElem_cons_succ]
        refine wpAnyH_take (i := 5) (v := ?_) rfl (by kernel_rfl) (by kernel_rfl) (by kernel_rfl) (fun _ _ _ h => h) (Or.inl ⟨by rfl, ?_⟩) hH2 ?_
        rotate_left
        · (intro v hSw; have k1 := hSw.b0.cell; have k2 := hSw.b1.cell; go_simp; try with_reducible rfl)
        simp only [Act.put, List.setIfInBounds_toArray, List.set_cons_zero, List.set_cons_succ, List.getElem_toArray, List.getElem_cons_zero, List.getElem_cons_succ]
        refine wpAnyH_done (by kernel_rfl) ?_ _
        go_wp2_with fail
        go_ret
        exact ⟨ret_bool (by simp [hw]), hH2.below⟩
    · go_enter Try.func17, Try.ntmps17
      go_wp2_with fail
      refine held_begin (by kernel_rfl) H0.out (fun v0 hH0 => ?_)
      refine wpAnyH_take (i := 0) (v := ?_) rfl (by kernel_rfl) (by kernel_rfl) (by kernel_rfl) (fun _ _ _ h => h) (Or.inl ⟨by rfl, ?_⟩) hH0 ?_
      rotate_left
      · (intro v hSw; have k1 := hSw.b0.cell; have k2 := hSw.b1.cell; go_simp; try with_reducible rfl)
      simp only [Act.put, List.setIfInBounds_toArray, List.set_cons_zero, List.set_cons_succ, List.getElem_toArray, List.getElem_cons_zero]
      refine wpAnyH_take (i := 2) (v := ?_) rfl (by kernel_rfl) (by kernel_rfl) (by kernel_rfl) (fun _ _ _ h => h) (Or.inl ⟨by rfl, ?_⟩) hH0 ?_
      rotate_left
      · (intro v hSw; have k1 := hSw.b0.cell; have k2 := hSw.b1.cell; go_simp; try with_reducible rfl)
      simp only [Act.put, List.setIfInBounds_toArray, List.set_cons_zero, List.set_cons_succ, List.getElem_toArray, List.getElem_cons_zero, List.getElem_cons_succ]
      refine wpAnyH_ready (rs := [1]) (by kernel_rfl) (by simp) ?_
      refine AllReadyH.cons rfl (fun K hK => ?_) AllReadyH.nil
      go_simp
      refine (HX.out _).mono ?_
      rintro e v1 ⟨rfl, hb⟩
      go_wp2_with fail
      refine hK.out _ _ (hH0.up hb) (fun hH1 => ?_)
      clear hK K hH0
      refine wpAnyH_ready (rs := [3]) (by kernel_rfl) (by simp) ?_
      refine AllReadyH.cons rfl (fun K hK => ?_) AllReadyH.nil
      go_simp
      refine (HY.out _).mono ?_
      rintro e v2 ⟨rfl, hb⟩
      go_wp2_with fail
      refine hK.out _ _ (hH1.up hb) (fun hH2 => ?_)
      clear hK K hH1
      refine wpAnyH_take (i := 4) (v := ?_) rfl (by kernel_rfl) (by kernel_rfl) (by kernel_rfl) (fun _ _ _ h => h) (Or.inl ⟨by rfl, ?_⟩) hH2 ?_
      rotate_left
      · (intro v hSw; have k1 := hSw.b0.cell; have k2 := hSw.b1.cell; go_simp; try with_reducible rfl)
      simp only [Act.put, List.setIfInBounds_toArray, List.set_cons_zero, List.set_cons_succ, List.getElem_toArray, List.getElem_cons_zero, List.getElem_cons_succ]
      refine wpAnyH_take (i := 5) (v := ?_) rfl (by kernel_rfl) (by kernel_rfl) (by kernel_rfl) (fun _ _ _ h => h) (Or.inl ⟨by rfl, ?_⟩) hH2 ?_
      rotate_left
      · (intro v hSw; have k1 := hSw.b0.cell; have k2 := hSw.b1.cell; go_simp; try with_reducible rfl)
      simp only [Act.put, List.setIfInBounds_toArray, List.set_cons_zero, List.set_cons_succ, List.getElem_toArray, List.getElem_cons_zero, List.getElem_cons_succ]
      refine wpAnyH_done (by kernel_rfl) ?_ _
      go_wp2_with fail
      go_ret
      exact ⟨ret_bool (by simp [hu]), hH2.below⟩
  · go_enter Try.func17, Try.ntmps17
    go_wp2_with fail
    refine held_begin (by kernel_rfl) H0.out (fun v0 hH0 => ?_)
    refine wpAnyH_take (i := 0) (v := ?_) rfl (by kernel_rfl) (by kernel_rfl) (by kernel_rfl) (fun _ _ _ h => h) (Or.inl ⟨by rfl, ?_⟩) hH0 ?_
    rotate_left
    · (intro v hSw; have k1 := hSw.b0.cell; have k2 := hSw.b1.cell; go_simp; try with_reducible rfl)
    simp only [Act.put, List.setIfInBounds_toArray, List.set_cons_zero, List.set_cons_succ, List.getElem_toArray, List.getElem_cons_zero]
    refine wpAnyH_take (i := 2) (v := ?_) rfl (by kernel_rfl) (by kernel_rfl) (by kernel_rfl) (fun _ _ _ h => h) (Or.inl ⟨by rfl, ?_⟩) hH0 ?_
    rotate_left
    · (intro v hSw; have k1 := hSw.b0.cell; have k2 := hSw.b1.cell; go_simp; try with_reducible rfl)
    simp only [Act.put, List.setIfInBounds_toArray, List.set_cons_zero, List.set_cons_succ, List.getElem_toArray, List.getElem_cons_zero, List.getElem_cons_succ]
    refine wpAnyH_ready (rs := [1]) (by kernel_rfl) (by simp) ?_
    refine AllReadyH.cons rfl (fun K hK => ?_) AllReadyH.nil
    go_simp
    refine (HX.out _).mono ?_
    rintro e v1 ⟨rfl, hb⟩
    go_wp2_with fail
    refine hK.out _ _ (hH0.up hb) (fun hH1 => ?_)
    clear hK K hH0
    refine wpAnyH_ready (rs := [3]) (by kernel_rfl) (by simp) ?_
    refine AllReadyH.cons rfl (fun K hK => ?_) AllReadyH.nil
    go_simp
    refine (HY.out _).mono ?_
    rintro e v2 ⟨rfl, hb⟩
    go_wp2_with fail
    refine hK.out _ _ (hH1.up hb) (fun hH2 => ?_)
    clear hK K hH1
    refine wpAnyH_take (i := 4) (v := ?_) rfl (by kernel_rfl) (by kernel_rfl) (by kernel_rfl) (fun _ _ _ h => h) (Or.inl ⟨by rfl, ?_⟩) hH2 ?_
    rotate_left
    · (intro v hSw; have k1 := hSw.b0.cell; have k2 := hSw.b1.cell; go_simp; try with_reducible rfl)
    simp only [Act.put, List.setIfInBounds_toArray, List.set_cons_zero, List.set_cons_succ, List.getElem_toArray, List.getElem_cons_zero, List.getElem_cons_succ]
    refine wpAnyH_take (i := 5) (v := ?_) rfl (by kernel_rfl) (by kernel_rfl) (by kernel_rfl) (fun _ _ _ h => h) (Or.inl ⟨by rfl, ?_⟩) hH2 ?_
    rotate_left
    · (intro v hSw; have k1 := hSw.b0.cell; have k2 := hSw.b1.cell; go_simp; try with_reducible rfl)
    simp only [Act.put, List.setIfInBounds_toArray, List.set_cons_zero, List.set_cons_succ, List.getElem_toArray, List.getElem_cons_zero, List.getElem_cons_succ]
    refine wpAnyH_done (by kernel_rfl) ?_ _
    go_wp2_with fail
    go_ret
    exact ⟨ret_bool (by simp [hc]), hH2.below⟩

set_option maxRecDepth 100000 in
set_option maxHeartbeats 4000000 in
theorem rsame_any (c b o p c2 b2 o2 p2 : Int) (w : World) : Calls Try.prog 18 #[vecV c b o p, vecV c2 b2 o2 p2] w fun e w' => e = .returned (.bool (sameB c b o p c2 b2 o2 p2)) ∧ Below w.heap.size w w' := by
  unfold sameB
  have hx := fun w => rretire_any c b o p w
  have hy := fun w => rretire_any c2 b2 o2 p2 w
  generalize retO b o = u at *
  generalize retP b o p = u2 at *
  generalize retO b2 o2 = v at *
  generalize retP b2 o2 p2 = v2 at *
  have HX := Lib.hid hx; clear hx
  have HY := Lib.hid hy; clear hy
  have H0 := ((Held.refl w).lay [.int .u64 c, .int .u64 b, .int .u64 o, .int .u64 p] 25).lay [.int .u64 c2, .int .u64 b2, .int .u64 o2, .int .u64 p2] 25
  simp only [World.size_alloc] at H0
  replace H0 := Lib.hid H0
  by_cases hc : c = c2
  · subst hc
    have ec : (c == c) = true := beq_self_eq_true c
    go_enter Try.func18, Try.ntmps18
    go_wp2_with fail
    refine held_begin (by kernel_rfl) H0.out (fun v0 hH0 => ?_)
    refine wpAnyH_take (i := 0) (v := ?_) rfl (by kernel_rfl) (by kernel_rfl) (by kernel_rfl) (fun _ _ _ h => h) (Or.inl ⟨by rfl, ?_⟩) hH0 ?_
    rotate_left
    · (intro v hSw; have k1 := hSw.b0.cell; have k2 := hSw.b1.cell; go_simp; try with_reducible rfl)
    simp only [Act.put, List.setIfInBounds_toArray, List.set_cons_zero, List.set_cons_succ, List.getElem_toArray, List.getElem_cons_zero]
    refine wpAnyH_take (i := 2) (v := ?_) rfl (by kernel_rfl) (by kernel_rfl) (by kernel_rfl) (fun _ _ _ h => h) (Or.inl ⟨by rfl, ?_⟩) hH0 ?_
    rotate_left
    · (intro v hSw; have k1 := hSw.b0.cell; have k2 := hSw.b1.cell; go_simp; try with_reducible rfl)
    simp only [Act.put, List.setIfInBounds_toArray, List.set_cons_zero, List.set_cons_succ, List.getElem_toArray, List.getElem_cons_zero, List.getElem_cons_succ]
    refine wpAnyH_ready (rs := [1, 4, 5]) (by kernel_rfl) (by simp) ?_
    refine AllReadyH.cons rfl (fun K hK => ?_) ?_
    · go_simp
      refine (HX.out _).mono ?_
      rintro e v1 ⟨rfl, hb⟩
      go_wp2_with fail
      refine hK.out _ _ (hH0.up hb) (fun hH1 => ?_)
      clear hK K hH0
      refine wpAnyH_ready (rs := [3, 4, 5]) (by kernel_rfl) (by simp) ?_
      refine AllReadyH.cons rfl (fun K hK => ?_) ?_
      · go_simp
        refine (HY.out _).mono ?_
        rintro e v2 ⟨rfl, hb⟩
        go_wp2_with fail
        refine hK.out _ _ (hH1.up hb) (fun hH2 => ?_)
        clear hK K hH1
        refine wpAnyH_ready (rs := [4, 5]) (by kernel_rfl) (by simp) ?_
        refine AllReadyH.cons rfl (fun K hK => ?_) ?_
        · go_simp
          have hne3 := hH2.fresh
          refine hK.out _ _ (hH2.alloc _) (fun hX => ?_)
          refine laid_own hH2 (n := 4) rfl (fun v3 hH3 => ?_)
          clear hK K hX hH2
          refine wpAnyH_ready (rs := [5]) (by kernel_rfl) (by simp) ?_
          refine AllReadyH.cons rfl (fun K hK => ?_) AllReadyH.nil
          go_simp
          have hne4 := hH3.fresh
          refine hK.out _ _ (hH3.alloc _) (fun hX => ?_)
          refine laid_own hH3 (n := 4) rfl (fun v4 hH4 => ?_)
          clear hK K hX hH3
          refine wpAnyH_ready (rs := [6]) (by kernel_rfl) (by simp) ?_
          refine AllReadyH.cons rfl (fun K hK => ?_) AllReadyH.nil
          obtain ⟨z0, z1, z2, z3, hx⟩ := hH4.o1.four
          have kx := hx.cell
          have fx := hx.frozen
          go_simp
          refine hK.out _ _ (hH4.set4 ⟨4, by simp⟩ _ _ _ _) (fun hX => ?_)
          refine stored4 hH4 ⟨4, by simp⟩ hx (fun v5 hW hy => ?_)
          clear hK K hX hH4 hx kx fx
          refine fixed (M' := [(v3.heap.size, 4)]) hW hy rfl (fun y hy e => by rw [List.mem_singleton] at hy; subst hy; exact hne4 _ (List.mem_singleton.2 rfl) e.symm) (by simp) rest_snd (fun hH5 => ?_)
          clear hW hy
          refine wpAnyH_ready (rs := [7]) (by kernel_rfl) (by simp) ?_
          refine AllReadyH.cons rfl (fun K hK => ?_) AllReadyH.nil
          obtain ⟨z0, z1, z2, z3, hx⟩ := hH5.o0.four
          have kx := hx.cell
          have fx := hx.frozen
          go_simp
          refine hK.out _ _ (hH5.set4 ⟨4, by simp⟩ _ _ _ _) (fun hX => ?_)
          refine stored4 hH5 ⟨4, by simp⟩ hx (fun v6 hW hy => ?_)
          clear hK K hX hH5 hx kx fx
          refine fixed (M' := []) hW hy rfl (by simp) (by simp) rest_one (fun hH6 => ?_)
          clear hW hy
          refine wpAnyH_done (by kernel_rfl) ?_ _
          have H6 := Lib.hid hH6
          have k0 := hH6.boxs.hd.cell
          have k1 := hH6.boxs.tl.hd.cell
          go_wp2_with fail
          go_ret
          exact ⟨ret_bool (by simp), H6.out.below⟩
        refine AllReadyH.cons rfl (fun K hK => ?_) AllReadyH.nil
        go_simp
        have hne7 := hH2.fresh
        refine hK.out _ _ (hH2.alloc _) (fun hX => ?_)
        refine laid_own hH2 (n := 4) rfl (fun v7 hH7 => ?_)
        clear hK K hX hH2
        refine wpAnyH_ready (rs := [4]) (by kernel_rfl) (by simp) ?_
        refine AllReadyH.cons rfl (fun K hK => ?_) AllReadyH.nil
        go_simp
        have hne8 := hH7.fresh
        refine hK.out _ _ (hH7.alloc _) (fun hX => ?_)
        refine laid_own hH7 (n := 4) rfl (fun v8 hH8 => ?_)
        clear hK K hX hH7
        refine wpAnyH_ready (rs := [6]) (by kernel_rfl) (by simp) ?_
        refine AllReadyH.cons rfl (fun K hK => ?_) AllReadyH.nil
        obtain ⟨z0, z1, z2, z3, hx⟩ := hH8.o0.four
        have kx := hx.cell
        have fx := hx.frozen
        go_simp
        refine hK.out _ _ (hH8.set4 ⟨4, by simp⟩ _ _ _ _) (fun hX => ?_)
        refine stored4 hH8 ⟨4, by simp⟩ hx (fun v9 hW hy => ?_)
        clear hK K hX hH8 hx kx fx
        refine fixed (M' := [(v2.heap.size, 4)]) hW hy rfl (fun y hy => hne8 y hy) (by simp) rest_fst (fun hH9 => ?_)
        clear hW hy
        refine wpAnyH_ready (rs := [7]) (by kernel_rfl) (by simp) ?_
        refine AllReadyH.cons rfl (fun K hK => ?_) AllReadyH.nil
        obtain ⟨z0, z1, z2, z3, hx⟩ := hH9.o0.four
        have kx := hx.cell
        have fx := hx.frozen
        go_simp
        refine hK.out _ _ (hH9.set4 ⟨4, by simp⟩ _ _ _ _) (fun hX => ?_)
        refine stored4 hH9 ⟨4, by simp⟩ hx (fun v10 hW hy => ?_)
        clear hK K hX hH9 hx kx fx
        refine fixed (M' := []) hW hy rfl (by simp) (by simp) rest_one (fun hH10 => ?_)
        clear hW hy
        refine wpAnyH_done (by kernel_rfl) ?_ _
        have H6 := Lib.hid hH10
        have k0 := hH10.boxs.hd.cell
        have k1 := hH10.boxs.tl.hd.cell
        go_wp2_with fail
        go_ret
        exact ⟨ret_bool (by simp), H6.out.below⟩
      refine AllReadyH.cons rfl (fun K hK => ?_) ?_
      · go_simp
        have hne11 := hH1.fresh
        refine hK.out _ _ (hH1.alloc _) (fun hX => ?_)
        refine laid_own hH1 (n := 4) rfl (fun v11 hH11 => ?_)
        clear hK K hX hH1
        refine wpAnyH_ready (rs := [3, 5]) (by kernel_rfl) (by simp) ?_
        refine AllReadyH.cons rfl (fun K hK => ?_) ?_
        · go_simp
          refine (HY.out _).mono ?_
          rintro e v12 ⟨rfl, hb⟩
          go_wp2_with fail
          refine hK.out _ _ (hH11.up hb) (fun hH12 => ?_)
          clear hK K hH11
          refine wpAnyH_ready (rs := [5]) (by kernel_rfl) (by simp) ?_
          refine AllReadyH.cons rfl (fun K hK => ?_) AllReadyH.nil
          go_simp
          have hne13 := hH12.fresh
          refine hK.out _ _ (hH12.alloc _) (fun hX => ?_)
          refine laid_own hH12 (n := 4) rfl (fun v13 hH13 => ?_)
          clear hK K hX hH12
          refine wpAnyH_ready (rs := [6]) (by kernel_rfl) (by simp) ?_
          refine AllReadyH.cons rfl (fun K hK => ?_) AllReadyH.nil
          obtain ⟨z0, z1, z2, z3, hx⟩ := hH13.o1.four
          have kx := hx.cell
          have fx := hx.frozen
          go_simp
          refine hK.out _ _ (hH13.set4 ⟨4, by simp⟩ _ _ _ _) (fun hX => ?_)
          refine stored4 hH13 ⟨4, by simp⟩ hx (fun v14 hW hy => ?_)
          clear hK K hX hH13 hx kx fx
          refine fixed (M' := [(v12.heap.size, 4)]) hW hy rfl (fun y hy e => by rw [List.mem_singleton] at hy; subst hy; exact hne13 _ (List.mem_singleton.2 rfl) e.symm) (by simp) rest_snd (fun hH14 => ?_)
          clear hW hy
          refine wpAnyH_ready (rs := [7]) (by kernel_rfl) (by simp) ?_
          refine AllReadyH.cons rfl (fun K hK => ?_) AllReadyH.nil
          obtain ⟨z0, z1, z2, z3, hx⟩ := hH14.o0.four
          have kx := hx.cell
          have fx := hx.frozen
          go_simp
          refine hK.out _ _ (hH14.set4 ⟨4, by simp⟩ _ _ _ _) (fun hX => ?_)
          refine stored4 hH14 ⟨4, by simp⟩ hx (fun v15 hW hy => ?_)
          clear hK K hX hH14 hx kx fx
          refine fixed (M' := []) hW hy rfl (by simp) (by simp) rest_one (fun hH15 => ?_)
          clear hW hy
          refine wpAnyH_done (by kernel_rfl) ?_ _
          have H6 := Lib.hid hH15
          have k0 := hH15.boxs.hd.cell
          have k1 := hH15.boxs.tl.hd.cell
          go_wp2_with fail
          go_ret
          exact ⟨ret_bool (by simp), H6.out.below⟩
        refine AllReadyH.cons rfl (fun K hK => ?_) AllReadyH.nil
        go_simp
        have hne16 := hH11.fresh
        refine hK.out _ _ (hH11.alloc _) (fun hX => ?_)
        refine laid_own hH11 (n := 4) rfl (fun v16 hH16 => ?_)
        clear hK K hX hH11
        refine wpAnyH_ready (rs := [3]) (by kernel_rfl) (by simp) ?_
        refine AllReadyH.cons rfl (fun K hK => ?_) AllReadyH.nil
        go_simp
        refine (HY.out _).mono ?_
        rintro e v17 ⟨rfl, hb⟩
        go_wp2_with fail
        refine hK.out _ _ (hH16.up hb) (fun hH17 => ?_)
        clear hK K hH16
        refine wpAnyH_ready (rs := [6]) (by kernel_rfl) (by simp) ?_
        refine AllReadyH.cons rfl (fun K hK => ?_) AllReadyH.nil
        obtain ⟨z0, z1, z2, z3, hx⟩ := hH17.o1.four
        have kx := hx.cell
        have fx := hx.frozen
        go_simp
        refine hK.out _ _ (hH17.set4 ⟨4, by simp⟩ _ _ _ _) (fun hX => ?_)
        refine stored4 hH17 ⟨4, by simp⟩ hx (fun v18 hW hy => ?_)
        clear hK K hX hH17 hx kx fx
        refine fixed (M' := [(v11.heap.size, 4)]) hW hy rfl (fun y hy e => by rw [List.mem_singleton] at hy; subst hy; exact hne16 _ (List.mem_singleton.2 rfl) e.symm) (by simp) rest_snd (fun hH18 => ?_)
        clear hW hy
        refine wpAnyH_ready (rs := [7]) (by kernel_rfl) (by simp) ?_
        refine AllReadyH.cons rfl (fun K hK => ?_) AllReadyH.nil
        obtain ⟨z0, z1, z2, z3, hx⟩ := hH18.o0.four
        have kx := hx.cell
        have fx := hx.frozen
        go_simp
        refine hK.out _ _ (hH18.set4 ⟨4, by simp⟩ _ _ _ _) (fun hX => ?_)
        refine stored4 hH18 ⟨4, by simp⟩ hx (fun v19 hW hy => ?_)
        clear hK K hX hH18 hx kx fx
        refine fixed (M' := []) hW hy rfl (by simp) (by simp) rest_one (fun hH19 => ?_)
        clear hW hy
        refine wpAnyH_done (by kernel_rfl) ?_ _
        have H6 := Lib.hid hH19
        have k0 := hH19.boxs.hd.cell
        have k1 := hH19.boxs.tl.hd.cell
        go_wp2_with fail
        go_ret
        exact ⟨ret_bool (by simp), H6.out.below⟩
      refine AllReadyH.cons rfl (fun K hK => ?_) AllReadyH.nil
      go_simp
      have hne20 := hH1.fresh
      refine hK.out _ _ (hH1.alloc _) (fun hX => ?_)
      refine laid_own hH1 (n := 4) rfl (fun v20 hH20 => ?_)
      clear hK K hX hH1
      refine wpAnyH_ready (rs := [3, 4]) (by kernel_rfl) (by simp) ?_
      refine AllReadyH.cons rfl (fun K hK => ?_) ?_
      · go_simp
        refine (HY.out _).mono ?_
        rintro e v21 ⟨rfl, hb⟩
        go_wp2_with fail
        refine hK.out _ _ (hH20.up hb) (fun hH21 => ?_)
        clear hK K hH20
        refine wpAnyH_ready (rs := [4]) (by kernel_rfl) (by simp) ?_
        refine AllReadyH.cons rfl (fun K hK => ?_) AllReadyH.nil
        go_simp
        have hne22 := hH21.fresh
        refine hK.out _ _ (hH21.alloc _) (fun hX => ?_)
        refine laid_own hH21 (n := 4) rfl (fun v22 hH22 => ?_)
        clear hK K hX hH21
        refine wpAnyH_ready (rs := [6]) (by kernel_rfl) (by simp) ?_
        refine AllReadyH.cons rfl (fun K hK => ?_) AllReadyH.nil
        obtain ⟨z0, z1, z2, z3, hx⟩ := hH22.o0.four
        have kx := hx.cell
        have fx := hx.frozen
        go_simp
        refine hK.out _ _ (hH22.set4 ⟨4, by simp⟩ _ _ _ _) (fun hX => ?_)
        refine stored4 hH22 ⟨4, by simp⟩ hx (fun v23 hW hy => ?_)
        clear hK K hX hH22 hx kx fx
        refine fixed (M' := [(v1.heap.size, 4)]) hW hy rfl (fun y hy => hne22 y hy) (by simp) rest_fst (fun hH23 => ?_)
        clear hW hy
        refine wpAnyH_ready (rs := [7]) (by kernel_rfl) (by simp) ?_
        refine AllReadyH.cons rfl (fun K hK => ?_) AllReadyH.nil
        obtain ⟨z0, z1, z2, z3, hx⟩ := hH23.o0.four
        have kx := hx.cell
        have fx := hx.frozen
        go_simp
        refine hK.out _ _ (hH23.set4 ⟨4, by simp⟩ _ _ _ _) (fun hX => ?_)
        refine stored4 hH23 ⟨4, by simp⟩ hx (fun v24 hW hy => ?_)
        clear hK K hX hH23 hx kx fx
        refine fixed (M' := []) hW hy rfl (by simp) (by simp) rest_one (fun hH24 => ?_)
        clear hW hy
        refine wpAnyH_done (by kernel_rfl) ?_ _
        have H6 := Lib.hid hH24
        have k0 := hH24.boxs.hd.cell
        have k1 := hH24.boxs.tl.hd.cell
        go_wp2_with fail
        go_ret
        exact ⟨ret_bool (by simp), H6.out.below⟩
      refine AllReadyH.cons rfl (fun K hK => ?_) AllReadyH.nil
      go_simp
      have hne25 := hH20.fresh
      refine hK.out _ _ (hH20.alloc _) (fun hX => ?_)
      refine laid_own hH20 (n := 4) rfl (fun v25 hH25 => ?_)
      clear hK K hX hH20
      refine wpAnyH_ready (rs := [3]) (by kernel_rfl) (by simp) ?_
      refine AllReadyH.cons rfl (fun K hK => ?_) AllReadyH.nil
      go_simp
      refine (HY.out _).mono ?_
      rintro e v26 ⟨rfl, hb⟩
      go_wp2_with fail
      refine hK.out _ _ (hH25.up hb) (fun hH26 => ?_)
      clear hK K hH25
      refine wpAnyH_ready (rs := [6]) (by kernel_rfl) (by simp) ?_
      refine AllReadyH.cons rfl (fun K hK => ?_) AllReadyH.nil
      obtain ⟨z0, z1, z2, z3, hx⟩ := hH26.o0.four
      have kx := hx.cell
      have fx := hx.frozen
      go_simp
      refine hK.out _ _ (hH26.set4 ⟨4, by simp⟩ _ _ _ _) (fun hX => ?_)
      refine stored4 hH26 ⟨4, by simp⟩ hx (fun v27 hW hy => ?_)
      clear hK K hX hH26 hx kx fx
      refine fixed (M' := [(v1.heap.size, 4)]) hW hy rfl (fun y hy => hne25 y hy) (by simp) rest_fst (fun hH27 => ?_)
      clear hW hy
      refine wpAnyH_ready (rs := [7]) (by kernel_rfl) (by simp) ?_
      refine AllReadyH.cons rfl (fun K hK => ?_) AllReadyH.nil
      obtain ⟨z0, z1, z2, z3, hx⟩ := hH27.o0.four
      have kx := hx.cell
      have fx := hx.frozen
      go_simp
      refine hK.out _ _ (hH27.set4 ⟨4, by simp⟩ _ _ _ _) (fun hX => ?_)
      refine stored4 hH27 ⟨4, by simp⟩ hx (fun v28 hW hy => ?_)
      clear hK K hX hH27 hx kx fx
      refine fixed (M' := []) hW hy rfl (by simp) (by simp) rest_one (fun hH28 => ?_)
      clear hW hy
      refine wpAnyH_done (by kernel_rfl) ?_ _
      have H6 := Lib.hid hH28
      have k0 := hH28.boxs.hd.cell
      have k1 := hH28.boxs.tl.hd.cell
      go_wp2_with fail
      go_ret
      exact ⟨ret_bool (by simp), H6.out.below⟩
    refine AllReadyH.cons rfl (fun K hK => ?_) ?_
    · go_simp
      have hne29 := hH0.fresh
      refine hK.out _ _ (hH0.alloc _) (fun hX => ?_)
      refine laid_own hH0 (n := 4) rfl (fun v29 hH29 => ?_)
      clear hK K hX hH0
      refine wpAnyH_ready (rs := [1, 5]) (by kernel_rfl) (by simp) ?_
      refine AllReadyH.cons rfl (fun K hK => ?_) ?_
      · go_simp
        refine (HX.out _).mono ?_
        rintro e v30 ⟨rfl, hb⟩
        go_wp2_with fail
        refine hK.out _ _ (hH29.up hb) (fun hH30 => ?_)
        clear hK K hH29
        refine wpAnyH_ready (rs := [3, 5]) (by kernel_rfl) (by simp) ?_
        refine AllReadyH.cons rfl (fun K hK => ?_) ?_
        · go_simp
          refine (HY.out _).mono ?_
          rintro e v31 ⟨rfl, hb⟩
          go_wp2_with fail
          refine hK.out _ _ (hH30.up hb) (fun hH31 => ?_)
          clear hK K hH30
          refine wpAnyH_ready (rs := [5]) (by kernel_rfl) (by simp) ?_
          refine AllReadyH.cons rfl (fun K hK => ?_) AllReadyH.nil
          go_simp
          have hne32 := hH31.fresh
          refine hK.out _ _ (hH31.alloc _) (fun hX => ?_)
          refine laid_own hH31 (n := 4) rfl (fun v32 hH32 => ?_)
          clear hK K hX hH31
          refine wpAnyH_ready (rs := [6]) (by kernel_rfl) (by simp) ?_
          refine AllReadyH.cons rfl (fun K hK => ?_) AllReadyH.nil
          obtain ⟨z0, z1, z2, z3, hx⟩ := hH32.o1.four
          have kx := hx.cell
          have fx := hx.frozen
          go_simp
          refine hK.out _ _ (hH32.set4 ⟨4, by simp⟩ _ _ _ _) (fun hX => ?_)
          refine stored4 hH32 ⟨4, by simp⟩ hx (fun v33 hW hy => ?_)
          clear hK K hX hH32 hx kx fx
          refine fixed (M' := [(v31.heap.size, 4)]) hW hy rfl (fun y hy e => by rw [List.mem_singleton] at hy; subst hy; exact hne32 _ (List.mem_singleton.2 rfl) e.symm) (by simp) rest_snd (fun hH33 => ?_)
          clear hW hy
          refine wpAnyH_ready (rs := [7]) (by kernel_rfl) (by simp) ?_
          refine AllReadyH.cons rfl (fun K hK => ?_) AllReadyH.nil
          obtain ⟨z0, z1, z2, z3, hx⟩ := hH33.o0.four
          have kx := hx.cell
          have fx := hx.frozen
          go_simp
          refine hK.out _ _ (hH33.set4 ⟨4, by simp⟩ _ _ _ _) (fun hX => ?_)
          refine stored4 hH33 ⟨4, by simp⟩ hx (fun v34 hW hy => ?_)
          clear hK K hX hH33 hx kx fx
          refine fixed (M' := []) hW hy rfl (by simp) (by simp) rest_one (fun hH34 => ?_)
          clear hW hy
          refine wpAnyH_done (by kernel_rfl) ?_ _
          have H6 := Lib.hid hH34
          have k0 := hH34.boxs.hd.cell
          have k1 := hH34.boxs.tl.hd.cell
          go_wp2_with fail
          go_ret
          exact ⟨ret_bool (by simp), H6.out.below⟩
        refine AllReadyH.cons rfl (fun K hK => ?_) AllReadyH.nil
        go_simp
        have hne35 := hH30.fresh
        refine hK.out _ _ (hH30.alloc _) (fun hX => ?_)
        refine laid_own hH30 (n := 4) rfl (fun v35 hH35 => ?_)
        clear hK K hX hH30
        refine wpAnyH_ready (rs := [3]) (by kernel_rfl) (by simp) ?_
        refine AllReadyH.cons rfl (fun K hK => ?_) AllReadyH.nil
        go_simp
        refine (HY.out _).mono ?_
        rintro e v36 ⟨rfl, hb⟩
        go_wp2_with fail
        refine hK.out _ _ (hH35.up hb) (fun hH36 => ?_)
        clear hK K hH35
        refine wpAnyH_ready (rs := [6]) (by kernel_rfl) (by simp) ?_
        refine AllReadyH.cons rfl (fun K hK => ?_) AllReadyH.nil
        obtain ⟨z0, z1, z2, z3, hx⟩ := hH36.o1.four
        have kx := hx.cell
        have fx := hx.frozen
        go_simp
        refine hK.out _ _ (hH36.set4 ⟨4, by simp⟩ _ _ _ _) (fun hX => ?_)
        refine stored4 hH36 ⟨4, by simp⟩ hx (fun v37 hW hy => ?_)
        clear hK K hX hH36 hx kx fx
        refine fixed (M' := [(v30.heap.size, 4)]) hW hy rfl (fun y hy e => by rw [List.mem_singleton] at hy; subst hy; exact hne35 _ (List.mem_singleton.2 rfl) e.symm) (by simp) rest_snd (fun hH37 => ?_)
        clear hW hy
        refine wpAnyH_ready (rs := [7]) (by kernel_rfl) (by simp) ?_
        refine AllReadyH.cons rfl (fun K hK => ?_) AllReadyH.nil
        obtain ⟨z0, z1, z2, z3, hx⟩ := hH37.o0.four
        have kx := hx.cell
        have fx := hx.frozen
        go_simp
        refine hK.out _ _ (hH37.set4 ⟨4, by simp⟩ _ _ _ _) (fun hX => ?_)
        refine stored4 hH37 ⟨4, by simp⟩ hx (fun v38 hW hy => ?_)
        clear hK K hX hH37 hx kx fx
        refine fixed (M' := []) hW hy rfl (by simp) (by simp) rest_one (fun hH38 => ?_)
        clear hW hy
        refine wpAnyH_done (by kernel_rfl) ?_ _
        have H6 := Lib.hid hH38
        have k0 := hH38.boxs.hd.cell
        have k1 := hH38.boxs.tl.hd.cell
        go_wp2_with fail
        go_ret
        exact ⟨ret_bool (by simp), H6.out.below⟩
      refine AllReadyH.cons rfl (fun K hK => ?_) AllReadyH.nil
      go_simp
      have hne39 := hH29.fresh
      refine hK.out _ _ (hH29.alloc _) (fun hX => ?_)
      refine laid_own hH29 (n := 4) rfl (fun v39 hH39 => ?_)
      clear hK K hX hH29
      refine wpAnyH_ready (rs := [1]) (by kernel_rfl) (by simp) ?_
      refine AllReadyH.cons rfl (fun K hK => ?_) AllReadyH.nil
      go_simp
      refine (HX.out _).mono ?_
      rintro e v40 ⟨rfl, hb⟩
      go_wp2_with fail
      refine hK.out _ _ (hH39.up hb) (fun hH40 => ?_)
      clear hK K hH39
      refine wpAnyH_ready (rs := [3]) (by kernel_rfl) (by simp) ?_
      refine AllReadyH.cons rfl (fun K hK => ?_) AllReadyH.nil
      go_simp
      refine (HY.out _).mono ?_
      rintro e v41 ⟨rfl, hb⟩
      go_wp2_with fail
      refine hK.out _ _ (hH40.up hb) (fun hH41 => ?_)
      clear hK K hH40
      refine wpAnyH_ready (rs := [6]) (by kernel_rfl) (by simp) ?_
      refine AllReadyH.cons rfl (fun K hK => ?_) AllReadyH.nil
      obtain ⟨z0, z1, z2, z3, hx⟩ := hH41.o1.four
      have kx := hx.cell
      have fx := hx.frozen
      go_simp
      refine hK.out _ _ (hH41.set4 ⟨4, by simp⟩ _ _ _ _) (fun hX => ?_)
      refine stored4 hH41 ⟨4, by simp⟩ hx (fun v42 hW hy => ?_)
      clear hK K hX hH41 hx kx fx
      refine fixed (M' := [(v29.heap.size, 4)]) hW hy rfl (fun y hy e => by rw [List.mem_singleton] at hy; subst hy; exact hne39 _ (List.mem_singleton.2 rfl) e.symm) (by simp) rest_snd (fun hH42 => ?_)
      clear hW hy
      refine wpAnyH_ready (rs := [7]) (by kernel_rfl) (by simp) ?_
      refine AllReadyH.cons rfl (fun K hK => ?_) AllReadyH.nil
      obtain ⟨z0, z1, z2, z3, hx⟩ := hH42.o0.four
      have kx := hx.cell
      have fx := hx.frozen
      go_simp
      refine hK.out _ _ (hH42.set4 ⟨4, by simp⟩ _ _ _ _) (fun hX => ?_)
      refine stored4 hH42 ⟨4, by simp⟩ hx (fun v43 hW hy => ?_)
      clear hK K hX hH42 hx kx fx
      refine fixed (M' := []) hW hy rfl (by simp) (by simp) rest_one (fun hH43 => ?_)
      clear hW hy
      refine wpAnyH_done (by kernel_rfl) ?_ _
      have H6 := Lib.hid hH43
      have k0 := hH43.boxs.hd.cell
      have k1 := hH43.boxs.tl.hd.cell
      go_wp2_with fail
      go_ret
      exact ⟨ret_bool (by simp), H6.out.below⟩
    refine AllReadyH.cons rfl (fun K hK => ?_) AllReadyH.nil
    go_simp
    have hne44 := hH0.fresh
    refine hK.out _ _ (hH0.alloc _) (fun hX => ?_)
    refine laid_own hH0 (n := 4) rfl (fun v44 hH44 => ?_)
    clear hK K hX hH0
    refine wpAnyH_ready (rs := [1, 4]) (by kernel_rfl) (by simp) ?_
    refine AllReadyH.cons rfl (fun K hK => ?_) ?_
    · go_simp
      refine (HX.out _).mono ?_
      rintro e v45 ⟨rfl, hb⟩
      go_wp2_with fail
      refine hK.out _ _ (hH44.up hb) (fun hH45 => ?_)
      clear hK K hH44
      refine wpAnyH_ready (rs := [3, 4]) (by kernel_rfl) (by simp) ?_
      refine AllReadyH.cons rfl (fun K hK => ?_) ?_
      · go_simp
        refine (HY.out _).mono ?_
        rintro e v46 ⟨rfl, hb⟩
        go_wp2_with fail
        refine hK.out _ _ (hH45.up hb) (fun hH46 => ?_)
        clear hK K hH45
        refine wpAnyH_ready (rs := [4]) (by kernel_rfl) (by simp) ?_
        refine AllReadyH.cons rfl (fun K hK => ?_) AllReadyH.nil
        go_simp
        have hne47 := hH46.fresh
        refine hK.out _ _ (hH46.alloc _) (fun hX => ?_)
        refine laid_own hH46 (n := 4) rfl (fun v47 hH47 => ?_)
        clear hK K hX hH46
        refine wpAnyH_ready (rs := [6]) (by kernel_rfl) (by simp) ?_
        refine AllReadyH.cons rfl (fun K hK => ?_) AllReadyH.nil
        obtain ⟨z0, z1, z2, z3, hx⟩ := hH47.o0.four
        have kx := hx.cell
        have fx := hx.frozen
        go_simp
        refine hK.out _ _ (hH47.set4 ⟨4, by simp⟩ _ _ _ _) (fun hX => ?_)
        refine stored4 hH47 ⟨4, by simp⟩ hx (fun v48 hW hy => ?_)
        clear hK K hX hH47 hx kx fx
        refine fixed (M' := [(v0.heap.size, 4)]) hW hy rfl (fun y hy => hne47 y hy) (by simp) rest_fst (fun hH48 => ?_)
        clear hW hy
        refine wpAnyH_ready (rs := [7]) (by kernel_rfl) (by simp) ?_
        refine AllReadyH.cons rfl (fun K hK => ?_) AllReadyH.nil
        obtain ⟨z0, z1, z2, z3, hx⟩ := hH48.o0.four
        have kx := hx.cell
        have fx := hx.frozen
        go_simp
        refine hK.out _ _ (hH48.set4 ⟨4, by simp⟩ _ _ _ _) (fun hX => ?_)
        refine stored4 hH48 ⟨4, by simp⟩ hx (fun v49 hW hy => ?_)
        clear hK K hX hH48 hx kx fx
        refine fixed (M' := []) hW hy rfl (by simp) (by simp) rest_one (fun hH49 => ?_)
        clear hW hy
        refine wpAnyH_done (by kernel_rfl) ?_ _
        have H6 := Lib.hid hH49
        have k0 := hH49.boxs.hd.cell
        have k1 := hH49.boxs.tl.hd.cell
        go_wp2_with fail
        go_ret
        exact ⟨ret_bool (by simp), H6.out.below⟩
      refine AllReadyH.cons rfl (fun K hK => ?_) AllReadyH.nil
      go_simp
      have hne50 := hH45.fresh
      refine hK.out _ _ (hH45.alloc _) (fun hX => ?_)
      refine laid_own hH45 (n := 4) rfl (fun v50 hH50 => ?_)
      clear hK K hX hH45
      refine wpAnyH_ready (rs := [3]) (by kernel_rfl) (by simp) ?_
      refine AllReadyH.cons rfl (fun K hK => ?_) AllReadyH.nil
      go_simp
      refine (HY.out _).mono ?_
      rintro e v51 ⟨rfl, hb⟩
      go_wp2_with fail
      refine hK.out _ _ (hH50.up hb) (fun hH51 => ?_)
      clear hK K hH50
      refine wpAnyH_ready (rs := [6]) (by kernel_rfl) (by simp) ?_
      refine AllReadyH.cons rfl (fun K hK => ?_) AllReadyH.nil
      obtain ⟨z0, z1, z2, z3, hx⟩ := hH51.o0.four
      have kx := hx.cell
      have fx := hx.frozen
      go_simp
      refine hK.out _ _ (hH51.set4 ⟨4, by simp⟩ _ _ _ _) (fun hX => ?_)
      refine stored4 hH51 ⟨4, by simp⟩ hx (fun v52 hW hy => ?_)
      clear hK K hX hH51 hx kx fx
      refine fixed (M' := [(v0.heap.size, 4)]) hW hy rfl (fun y hy => hne50 y hy) (by simp) rest_fst (fun hH52 => ?_)
      clear hW hy
      refine wpAnyH_ready (rs := [7]) (by kernel_rfl) (by simp) ?_
      refine AllReadyH.cons rfl (fun K hK => ?_) AllReadyH.nil
      obtain ⟨z0, z1, z2, z3, hx⟩ := hH52.o0.four
      have kx := hx.cell
      have fx := hx.frozen
      go_simp
      refine hK.out _ _ (hH52.set4 ⟨4, by simp⟩ _ _ _ _) (fun hX => ?_)
      refine stored4 hH52 ⟨4, by simp⟩ hx (fun v53 hW hy => ?_)
      clear hK K hX hH52 hx kx fx
      refine fixed (M' := []) hW hy rfl (by simp) (by simp) rest_one (fun hH53 => ?_)
      clear hW hy
      refine wpAnyH_done (by kernel_rfl) ?_ _
      have H6 := Lib.hid hH53
      have k0 := hH53.boxs.hd.cell
      have k1 := hH53.boxs.tl.hd.cell
      go_wp2_with fail
      go_ret
      exact ⟨ret_bool (by simp), H6.out.below⟩
    refine AllReadyH.cons rfl (fun K hK => ?_) AllReadyH.nil
    go_simp
    have hne54 := hH44.fresh
    refine hK.out _ _ (hH44.alloc _) (fun hX => ?_)
    refine laid_own hH44 (n := 4) rfl (fun v54 hH54 => ?_)
    clear hK K hX hH44
    refine wpAnyH_ready (rs := [1]) (by kernel_rfl) (by simp) ?_
    refine AllReadyH.cons rfl (fun K hK => ?_) AllReadyH.nil
    go_simp
    refine (HX.out _).mono ?_
    rintro e v55 ⟨rfl, hb⟩
    go_wp2_with fail
    refine hK.out _ _ (hH54.up hb) (fun hH55 => ?_)
    clear hK K hH54
    refine wpAnyH_ready (rs := [3]) (by kernel_rfl) (by simp) ?_
    refine AllReadyH.cons rfl (fun K hK => ?_) AllReadyH.nil
    go_simp
    refine (HY.out _).mono ?_
    rintro e v56 ⟨rfl, hb⟩
    go_wp2_with fail
    refine hK.out _ _ (hH55.up hb) (fun hH56 => ?_)
    clear hK K hH55
    refine wpAnyH_ready (rs := [6]) (by kernel_rfl) (by simp) ?_
    refine AllReadyH.cons rfl (fun K hK => ?_) AllReadyH.nil
    obtain ⟨z0, z1, z2, z3, hx⟩ := hH56.o0.four
    have kx := hx.cell
    have fx := hx.frozen
    go_simp
    refine hK.out _ _ (hH56.set4 ⟨4, by simp⟩ _ _ _ _) (fun hX => ?_)
    refine stored4 hH56 ⟨4, by simp⟩ hx (fun v57 hW hy => ?_)
    clear hK K hX hH56 hx kx fx
    refine fixed (M' := [(v0.heap.size, 4)]) hW hy rfl (fun y hy => hne54 y hy) (by simp) rest_fst (fun hH57 => ?_)
    clear hW hy
    refine wpAnyH_ready (rs := [7]) (by kernel_rfl) (by simp) ?_
    refine AllReadyH.cons rfl (fun K hK => ?_) AllReadyH.nil
    obtain ⟨z0, z1, z2, z3, hx⟩ := hH57.o0.four
    have kx := hx.cell
    have fx := hx.frozen
    go_simp
    refine hK.out _ _ (hH57.set4 ⟨4, by simp⟩ _ _ _ _) (fun hX => ?_)
    refine stored4 hH57 ⟨4, by simp⟩ hx (fun v58 hW hy => ?_)
    clear hK K hX hH57 hx kx fx
    refine fixed (M' := []) hW hy rfl (by simp) (by simp) rest_one (fun hH58 => ?_)
    clear hW hy
    refine wpAnyH_done (by kernel_rfl) ?_ _
    have H6 := Lib.hid hH58
    have k0 := hH58.boxs.hd.cell
    have k1 := hH58.boxs.tl.hd.cell
    go_wp2_with fail
    go_ret
    exact ⟨ret_bool (by simp), H6.out.below⟩
  · have ec : (c == c2) = false := beq_eq_false_iff_ne.2 hc
    go_enter Try.func18, Try.ntmps18
    go_wp2_with fail
    refine held_begin (by kernel_rfl) H0.out (fun v0 hH0 => ?_)
    refine wpAnyH_take (i := 0) (v := ?_) rfl (by kernel_rfl) (by kernel_rfl) (by kernel_rfl) (fun _ _ _ h => h) (Or.inl ⟨by rfl, ?_⟩) hH0 ?_
    rotate_left
    · (intro v hSw; have k1 := hSw.b0.cell; have k2 := hSw.b1.cell; go_simp; try with_reducible rfl)
    simp only [Act.put, List.setIfInBounds_toArray, List.set_cons_zero, List.set_cons_succ, List.getElem_toArray, List.getElem_cons_zero]
    refine wpAnyH_take (i := 2) (v := ?_) rfl (by kernel_rfl) (by kernel_rfl) (by kernel_rfl) (fun _ _ _ h => h) (Or.inl ⟨by rfl, ?_⟩) hH0 ?_
    rotate_left
    · (intro v hSw; have k1 := hSw.b0.cell; have k2 := hSw.b1.cell; go_simp; try with_reducible rfl)
    simp only [Act.put, List.setIfInBounds_toArray, List.set_cons_zero, List.set_cons_succ, List.getElem_toArray, List.getElem_cons_zero, List.getElem_cons_succ]
    refine wpAnyH_ready (rs := [1, 4, 5]) (by kernel_rfl) (by simp) ?_
    refine AllReadyH.cons rfl (fun K hK => ?_) ?_
    · go_simp
      refine (HX.out _).mono ?_
      rintro e v1 ⟨rfl, hb⟩
      go_wp2_with fail
      refine hK.out _ _ (hH0.up hb) (fun hH1 => ?_)
      clear hK K hH0
      refine wpAnyH_ready (rs := [3, 4, 5]) (by kernel_rfl) (by simp) ?_
      refine AllReadyH.cons rfl (fun K hK => ?_) ?_
      · go_simp
        refine (HY.out _).mono ?_
        rintro e v2 ⟨rfl, hb⟩
        go_wp2_with fail
        refine hK.out _ _ (hH1.up hb) (fun hH2 => ?_)
        clear hK K hH1
        refine wpAnyH_ready (rs := [4, 5]) (by kernel_rfl) (by simp) ?_
        refine AllReadyH.cons rfl (fun K hK => ?_) ?_
        · go_simp
          have hne3 := hH2.fresh
          refine hK.out _ _ (hH2.alloc _) (fun hX => ?_)
          refine laid_own hH2 (n := 4) rfl (fun v3 hH3 => ?_)
          clear hK K hX hH2
          refine wpAnyH_ready (rs := [5]) (by kernel_rfl) (by simp) ?_
          refine AllReadyH.cons rfl (fun K hK => ?_) AllReadyH.nil
          go_simp
          have hne4 := hH3.fresh
          refine hK.out _ _ (hH3.alloc _) (fun hX => ?_)
          refine laid_own hH3 (n := 4) rfl (fun v4 hH4 => ?_)
          clear hK K hX hH3
          refine wpAnyH_ready (rs := [6]) (by kernel_rfl) (by simp) ?_
          refine AllReadyH.cons rfl (fun K hK => ?_) AllReadyH.nil
          obtain ⟨z0, z1, z2, z3, hx⟩ := hH4.o1.four
          have kx := hx.cell
          have fx := hx.frozen
          go_simp
          refine hK.out _ _ (hH4.set4 ⟨4, by simp⟩ _ _ _ _) (fun hX => ?_)
          refine stored4 hH4 ⟨4, by simp⟩ hx (fun v5 hW hy => ?_)
          clear hK K hX hH4 hx kx fx
          refine fixed (M' := [(v3.heap.size, 4)]) hW hy rfl (fun y hy e => by rw [List.mem_singleton] at hy; subst hy; exact hne4 _ (List.mem_singleton.2 rfl) e.symm) (by simp) rest_snd (fun hH5 => ?_)
          clear hW hy
          refine wpAnyH_ready (rs := [7]) (by kernel_rfl) (by simp) ?_
          refine AllReadyH.cons rfl (fun K hK => ?_) AllReadyH.nil
          obtain ⟨z0, z1, z2, z3, hx⟩ := hH5.o0.four
          have kx := hx.cell
          have fx := hx.frozen
          go_simp
          refine hK.out _ _ (hH5.set4 ⟨4, by simp⟩ _ _ _ _) (fun hX => ?_)
          refine stored4 hH5 ⟨4, by simp⟩ hx (fun v6 hW hy => ?_)
          clear hK K hX hH5 hx kx fx
          refine fixed (M' := []) hW hy rfl (by simp) (by simp) rest_one (fun hH6 => ?_)
          clear hW hy
          refine wpAnyH_done (by kernel_rfl) ?_ _
          have H6 := Lib.hid hH6
          have k0 := hH6.boxs.hd.cell
          have k1 := hH6.boxs.tl.hd.cell
          go_wp2_with fail
          go_ret
          exact ⟨ret_bool (by simp [hc]), H6.out.below⟩
        refine AllReadyH.cons rfl (fun K hK => ?_) AllReadyH.nil
        go_simp
        have hne7 := hH2.fresh
        refine hK.out _ _ (hH2.alloc _) (fun hX => ?_)
        refine laid_own hH2 (n := 4) rfl (fun v7 hH7 => ?_)
        clear hK K hX hH2
        refine wpAnyH_ready (rs := [4]) (by kernel_rfl) (by simp) ?_
        refine AllReadyH.cons rfl (fun K hK => ?_) AllReadyH.nil
        go_simp
        have hne8 := hH7.fresh
        refine hK.out _ _ (hH7.alloc _) (fun hX => ?_)
        refine laid_own hH7 (n := 4) rfl (fun v8 hH8 => ?_)
        clear hK K hX hH7
        refine wpAnyH_ready (rs := [6]) (by kernel_rfl) (by simp) ?_
        refine AllReadyH.cons rfl (fun K hK => ?_) AllReadyH.nil
        obtain ⟨z0, z1, z2, z3, hx⟩ := hH8.o0.four
        have kx := hx.cell
        have fx := hx.frozen
        go_simp
        refine hK.out _ _ (hH8.set4 ⟨4, by simp⟩ _ _ _ _) (fun hX => ?_)
        refine stored4 hH8 ⟨4, by simp⟩ hx (fun v9 hW hy => ?_)
        clear hK K hX hH8 hx kx fx
        refine fixed (M' := [(v2.heap.size, 4)]) hW hy rfl (fun y hy => hne8 y hy) (by simp) rest_fst (fun hH9 => ?_)
        clear hW hy
        refine wpAnyH_ready (rs := [7]) (by kernel_rfl) (by simp) ?_
        refine AllReadyH.cons rfl (fun K hK => ?_) AllReadyH.nil
        obtain ⟨z0, z1, z2, z3, hx⟩ := hH9.o0.four
        have kx := hx.cell
        have fx := hx.frozen
        go_simp
        refine hK.out _ _ (hH9.set4 ⟨4, by simp⟩ _ _ _ _) (fun hX => ?_)
        refine stored4 hH9 ⟨4, by simp⟩ hx (fun v10 hW hy => ?_)
        clear hK K hX hH9 hx kx fx
        refine fixed (M' := []) hW hy rfl (by simp) (by simp) rest_one (fun hH10 => ?_)
        clear hW hy
        refine wpAnyH_done (by kernel_rfl) ?_ _
        have H6 := Lib.hid hH10
        have k0 := hH10.boxs.hd.cell
        have k1 := hH10.boxs.tl.hd.cell
        go_wp2_with fail
        go_ret
        exact ⟨ret_bool (by simp [hc]), H6.out.below⟩
      refine AllReadyH.cons rfl (fun K hK => ?_) ?_
      · go_simp
        have hne11 := hH1.fresh
        refine hK.out _ _ (hH1.alloc _) (fun hX => ?_)
        refine laid_own hH1 (n := 4) rfl (fun v11 hH11 => ?_)
        clear hK K hX hH1
        refine wpAnyH_ready (rs := [3, 5]) (by kernel_rfl) (by simp) ?_
        refine AllReadyH.cons rfl (fun K hK => ?_) ?_
        · go_simp
          refine (HY.out _).mono ?_
          rintro e v12 ⟨rfl, hb⟩
          go_wp2_with fail
          refine hK.out _ _ (hH11.up hb) (fun hH12 => ?_)
          clear hK K hH11
          refine wpAnyH_ready (rs := [5]) (by kernel_rfl) (by simp) ?_
          refine AllReadyH.cons rfl (fun K hK => ?_) AllReadyH.nil
          go_simp
          have hne13 := hH12.fresh
          refine hK.out _ _ (hH12.alloc _) (fun hX => ?_)
          refine laid_own hH12 (n := 4) rfl (fun v13 hH13 => ?_)
          clear hK K hX hH12
          refine wpAnyH_ready (rs := [6]) (by kernel_rfl) (by simp) ?_
          refine AllReadyH.cons rfl (fun K hK => ?_) AllReadyH.nil
          obtain ⟨z0, z1, z2, z3, hx⟩ := hH13.o1.four
          have kx := hx.cell
          have fx := hx.frozen
          go_simp
          refine hK.out _ _ (hH13.set4 ⟨4, by simp⟩ _ _ _ _) (fun hX => ?_)
          refine stored4 hH13 ⟨4, by simp⟩ hx (fun v14 hW hy => ?_)
          clear hK K hX hH13 hx kx fx
          refine fixed (M' := [(v12.heap.size, 4)]) hW hy rfl (fun y hy e => by rw [List.mem_singleton] at hy; subst hy; exact hne13 _ (List.mem_singleton.2 rfl) e.symm) (by simp) rest_snd (fun hH14 => ?_)
          clear hW hy
          refine wpAnyH_ready (rs := [7]) (by kernel_rfl) (by simp) ?_
          refine AllReadyH.cons rfl (fun K hK => ?_) AllReadyH.nil
          obtain ⟨z0, z1, z2, z3, hx⟩ := hH14.o0.four
          have kx := hx.cell
          have fx := hx.frozen
          go_simp
          refine hK.out _ _ (hH14.set4 ⟨4, by simp⟩ _ _ _ _) (fun hX => ?_)
          refine stored4 hH14 ⟨4, by simp⟩ hx (fun v15 hW hy => ?_)
          clear hK K hX hH14 hx kx fx
          refine fixed (M' := []) hW hy rfl (by simp) (by simp) rest_one (fun hH15 => ?_)
          clear hW hy
          refine wpAnyH_done (by kernel_rfl) ?_ _
          have H6 := Lib.hid hH15
          have k0 := hH15.boxs.hd.cell
          have k1 := hH15.boxs.tl.hd.cell
          go_wp2_with fail
          go_ret
          exact ⟨ret_bool (by simp [hc]), H6.out.below⟩
        refine AllReadyH.cons rfl (fun K hK => ?_) AllReadyH.nil
        go_simp
        have hne16 := hH11.fresh
        refine hK.out _ _ (hH11.alloc _) (fun hX => ?_)
        refine laid_own hH11 (n := 4) rfl (fun v16 hH16 => ?_)
        clear hK K hX hH11
        refine wpAnyH_ready (rs := [3]) (by kernel_rfl) (by simp) ?_
        refine AllReadyH.cons rfl (fun K hK => ?_) AllReadyH.nil
        go_simp
        refine (HY.out _).mono ?_
        rintro e v17 ⟨rfl, hb⟩
        go_wp2_with fail
        refine hK.out _ _ (hH16.up hb) (fun hH17 => ?_)
        clear hK K hH16
        refine wpAnyH_ready (rs := [6]) (by kernel_rfl) (by simp) ?_
        refine AllReadyH.cons rfl (fun K hK => ?_) AllReadyH.nil
        obtain ⟨z0, z1, z2, z3, hx⟩ := hH17.o1.four
        have kx := hx.cell
        have fx := hx.frozen
        go_simp
        refine hK.out _ _ (hH17.set4 ⟨4, by simp⟩ _ _ _ _) (fun hX => ?_)
        refine stored4 hH17 ⟨4, by simp⟩ hx (fun v18 hW hy => ?_)
        clear hK K hX hH17 hx kx fx
        refine fixed (M' := [(v11.heap.size, 4)]) hW hy rfl (fun y hy e => by rw [List.mem_singleton] at hy; subst hy; exact hne16 _ (List.mem_singleton.2 rfl) e.symm) (by simp) rest_snd (fun hH18 => ?_)
        clear hW hy
        refine wpAnyH_ready (rs := [7]) (by kernel_rfl) (by simp) ?_
        refine AllReadyH.cons rfl (fun K hK => ?_) AllReadyH.nil
        obtain ⟨z0, z1, z2, z3, hx⟩ := hH18.o0.four
        have kx := hx.cell
        have fx := hx.frozen
        go_simp
        refine hK.out _ _ (hH18.set4 ⟨4, by simp⟩ _ _ _ _) (fun hX => ?_)
        refine stored4 hH18 ⟨4, by simp⟩ hx (fun v19 hW hy => ?_)
        clear hK K hX hH18 hx kx fx
        refine fixed (M' := []) hW hy rfl (by simp) (by simp) rest_one (fun hH19 => ?_)
        clear hW hy
        refine wpAnyH_done (by kernel_rfl) ?_ _
        have H6 := Lib.hid hH19
        have k0 := hH19.boxs.hd.cell
        have k1 := hH19.boxs.tl.hd.cell
        go_wp2_with fail
        go_ret
        exact ⟨ret_bool (by simp [hc]), H6.out.below⟩
      refine AllReadyH.cons rfl (fun K hK => ?_) AllReadyH.nil
      go_simp
      have hne20 := hH1.fresh
      refine hK.out _ _ (hH1.alloc _) (fun hX => ?_)
      refine laid_own hH1 (n := 4) rfl (fun v20 hH20 => ?_)
      clear hK K hX hH1
      refine wpAnyH_ready (rs := [3, 4]) (by kernel_rfl) (by simp) ?_
      refine AllReadyH.cons rfl (fun K hK => ?_) ?_
      · go_simp
        refine (HY.out _).mono ?_
        rintro e v21 ⟨rfl, hb⟩
        go_wp2_with fail
        refine hK.out _ _ (hH20.up hb) (fun hH21 => ?_)
        clear hK K hH20
        refine wpAnyH_ready (rs := [4]) (by kernel_rfl) (by simp) ?_
        refine AllReadyH.cons rfl (fun K hK => ?_) AllReadyH.nil
        go_simp
        have hne22 := hH21.fresh
        refine hK.out _ _ (hH21.alloc _) (fun hX => ?_)
        refine laid_own hH21 (n := 4) rfl (fun v22 hH22 => ?_)
        clear hK K hX hH21
        refine wpAnyH_ready (rs := [6]) (by kernel_rfl) (by simp) ?_
        refine AllReadyH.cons rfl (fun K hK => ?_) AllReadyH.nil
        obtain ⟨z0, z1, z2, z3, hx⟩ := hH22.o0.four
        have kx := hx.cell
        have fx := hx.frozen
        go_simp
        refine hK.out _ _ (hH22.set4 ⟨4, by simp⟩ _ _ _ _) (fun hX => ?_)
        refine stored4 hH22 ⟨4, by simp⟩ hx (fun v23 hW hy => ?_)
        clear hK K hX hH22 hx kx fx
        refine fixed (M' := [(v1.heap.size, 4)]) hW hy rfl (fun y hy => hne22 y hy) (by simp) rest_fst (fun hH23 => ?_)
        clear hW hy
        refine wpAnyH_ready (rs := [7]) (by kernel_rfl) (by simp) ?_
        refine AllReadyH.cons rfl (fun K hK => ?_) AllReadyH.nil
        obtain ⟨z0, z1, z2, z3, hx⟩ := hH23.o0.four
        have kx := hx.cell
        have fx := hx.frozen
        go_simp
        refine hK.out _ _ (hH23.set4 ⟨4, by simp⟩ _ _ _ _) (fun hX => ?_)
        refine stored4 hH23 ⟨4, by simp⟩ hx (fun v24 hW hy => ?_)
        clear hK K hX hH23 hx kx fx
        refine fixed (M' := []) hW hy rfl (by simp) (by simp) rest_one (fun hH24 => ?_)
        clear hW hy
        refine wpAnyH_done (by kernel_rfl) ?_ _
        have H6 := Lib.hid hH24
        have k0 := hH24.boxs.hd.cell
        have k1 := hH24.boxs.tl.hd.cell
        go_wp2_with fail
        go_ret
        exact ⟨ret_bool (by simp [hc]), H6.out.below⟩
      refine AllReadyH.cons rfl (fun K hK => ?_) AllReadyH.nil
      go_simp
      have hne25 := hH20.fresh
      refine hK.out _ _ (hH20.alloc _) (fun hX => ?_)
      refine laid_own hH20 (n := 4) rfl (fun v25 hH25 => ?_)
      clear hK K hX hH20
      refine wpAnyH_ready (rs := [3]) (by kernel_rfl) (by simp) ?_
      refine AllReadyH.cons rfl (fun K hK => ?_) AllReadyH.nil
      go_simp
      refine (HY.out _).mono ?_
      rintro e v26 ⟨rfl, hb⟩
      go_wp2_with fail
      refine hK.out _ _ (hH25.up hb) (fun hH26 => ?_)
      clear hK K hH25
      refine wpAnyH_ready (rs := [6]) (by kernel_rfl) (by simp) ?_
      refine AllReadyH.cons rfl (fun K hK => ?_) AllReadyH.nil
      obtain ⟨z0, z1, z2, z3, hx⟩ := hH26.o0.four
      have kx := hx.cell
      have fx := hx.frozen
      go_simp
      refine hK.out _ _ (hH26.set4 ⟨4, by simp⟩ _ _ _ _) (fun hX => ?_)
      refine stored4 hH26 ⟨4, by simp⟩ hx (fun v27 hW hy => ?_)
      clear hK K hX hH26 hx kx fx
      refine fixed (M' := [(v1.heap.size, 4)]) hW hy rfl (fun y hy => hne25 y hy) (by simp) rest_fst (fun hH27 => ?_)
      clear hW hy
      refine wpAnyH_ready (rs := [7]) (by kernel_rfl) (by simp) ?_
      refine AllReadyH.cons rfl (fun K hK => ?_) AllReadyH.nil
      obtain ⟨z0, z1, z2, z3, hx⟩ := hH27.o0.four
      have kx := hx.cell
      have fx := hx.frozen
      go_simp
      refine hK.out _ _ (hH27.set4 ⟨4, by simp⟩ _ _ _ _) (fun hX => ?_)
      refine stored4 hH27 ⟨4, by simp⟩ hx (fun v28 hW hy => ?_)
      clear hK K hX hH27 hx kx fx
      refine fixed (M' := []) hW hy rfl (by simp) (by simp) rest_one (fun hH28 => ?_)
      clear hW hy
      refine wpAnyH_done (by kernel_rfl) ?_ _
      have H6 := Lib.hid hH28
      have k0 := hH28.boxs.hd.cell
      have k1 := hH28.boxs.tl.hd.cell
      go_wp2_with fail
      go_ret
      exact ⟨ret_bool (by simp [hc]), H6.out.below⟩
    refine AllReadyH.cons rfl (fun K hK => ?_) ?_
    · go_simp
      have hne29 := hH0.fresh
      refine hK.out _ _ (hH0.alloc _) (fun hX => ?_)
      refine laid_own hH0 (n := 4) rfl (fun v29 hH29 => ?_)
      clear hK K hX hH0
      refine wpAnyH_ready (rs := [1, 5]) (by kernel_rfl) (by simp) ?_
      refine AllReadyH.cons rfl (fun K hK => ?_) ?_
      · go_simp
        refine (HX.out _).mono ?_
        rintro e v30 ⟨rfl, hb⟩
        go_wp2_with fail
        refine hK.out _ _ (hH29.up hb) (fun hH30 => ?_)
        clear hK K hH29
        refine wpAnyH_ready (rs := [3, 5]) (by kernel_rfl) (by simp) ?_
        refine AllReadyH.cons rfl (fun K hK => ?_) ?_
        · go_simp
          refine (HY.out _).mono ?_
          rintro e v31 ⟨rfl, hb⟩
          go_wp2_with fail
          refine hK.out _ _ (hH30.up hb) (fun hH31 => ?_)
          clear hK K hH30
          refine wpAnyH_ready (rs := [5]) (by kernel_rfl) (by simp) ?_
          refine AllReadyH.cons rfl (fun K hK => ?_) AllReadyH.nil
          go_simp
          have hne32 := hH31.fresh
          refine hK.out _ _ (hH31.alloc _) (fun hX => ?_)
          refine laid_own hH31 (n := 4) rfl (fun v32 hH32 => ?_)
          clear hK K hX hH31
          refine wpAnyH_ready (rs := [6]) (by kernel_rfl) (by simp) ?_
          refine AllReadyH.cons rfl (fun K hK => ?_) AllReadyH.nil
          obtain ⟨z0, z1, z2, z3, hx⟩ := hH32.o1.four
          have kx := hx.cell
          have fx := hx.frozen
          go_simp
          refine hK.out _ _ (hH32.set4 ⟨4, by simp⟩ _ _ _ _) (fun hX => ?_)
          refine stored4 hH32 ⟨4, by simp⟩ hx (fun v33 hW hy => ?_)
          clear hK K hX hH32 hx kx fx
          refine fixed (M' := [(v31.heap.size, 4)]) hW hy rfl (fun y hy e => by rw [List.mem_singleton] at hy; subst hy; exact hne32 _ (List.mem_singleton.2 rfl) e.symm) (by simp) rest_snd (fun hH33 => ?_)
          clear hW hy
          refine wpAnyH_ready (rs := [7]) (by kernel_rfl) (by simp) ?_
          refine AllReadyH.cons rfl (fun K hK => ?_) AllReadyH.nil
          obtain ⟨z0, z1, z2, z3, hx⟩ := hH33.o0.four
          have kx := hx.cell
          have fx := hx.frozen
          go_simp
          refine hK.out _ _ (hH33.set4 ⟨4, by simp⟩ _ _ _ _) (fun hX => ?_)
          refine stored4 hH33 ⟨4, by simp⟩ hx (fun v34 hW hy => ?_)
          clear hK K hX hH33 hx kx fx
          refine fixed (M' := []) hW hy rfl (by simp) (by simp) rest_one (fun hH34 => ?_)
          clear hW hy
          refine wpAnyH_done (by kernel_rfl) ?_ _
          have H6 := Lib.hid hH34
          have k0 := hH34.boxs.hd.cell
          have k1 := hH34.boxs.tl.hd.cell
          go_wp2_with fail
          go_ret
          exact ⟨ret_bool (by simp [hc]), H6.out.below⟩
        refine AllReadyH.cons rfl (fun K hK => ?_) AllReadyH.nil
        go_simp
        have hne35 := hH30.fresh
        refine hK.out _ _ (hH30.alloc _) (fun hX => ?_)
        refine laid_own hH30 (n := 4) rfl (fun v35 hH35 => ?_)
        clear hK K hX hH30
        refine wpAnyH_ready (rs := [3]) (by kernel_rfl) (by simp) ?_
        refine AllReadyH.cons rfl (fun K hK => ?_) AllReadyH.nil
        go_simp
        refine (HY.out _).mono ?_
        rintro e v36 ⟨rfl, hb⟩
        go_wp2_with fail
        refine hK.out _ _ (hH35.up hb) (fun hH36 => ?_)
        clear hK K hH35
        refine wpAnyH_ready (rs := [6]) (by kernel_rfl) (by simp) ?_
        refine AllReadyH.cons rfl (fun K hK => ?_) AllReadyH.nil
        obtain ⟨z0, z1, z2, z3, hx⟩ := hH36.o1.four
        have kx := hx.cell
        have fx := hx.frozen
        go_simp
        refine hK.out _ _ (hH36.set4 ⟨4, by simp⟩ _ _ _ _) (fun hX => ?_)
        refine stored4 hH36 ⟨4, by simp⟩ hx (fun v37 hW hy => ?_)
        clear hK K hX hH36 hx kx fx
        refine fixed (M' := [(v30.heap.size, 4)]) hW hy rfl (fun y hy e => by rw [List.mem_singleton] at hy; subst hy; exact hne35 _ (List.mem_singleton.2 rfl) e.symm) (by simp) rest_snd (fun hH37 => ?_)
        clear hW hy
        refine wpAnyH_ready (rs := [7]) (by kernel_rfl) (by simp) ?_
        refine AllReadyH.cons rfl (fun K hK => ?_) AllReadyH.nil
        obtain ⟨z0, z1, z2, z3, hx⟩ := hH37.o0.four
        have kx := hx.cell
        have fx := hx.frozen
        go_simp
        refine hK.out _ _ (hH37.set4 ⟨4, by simp⟩ _ _ _ _) (fun hX => ?_)
        refine stored4 hH37 ⟨4, by simp⟩ hx (fun v38 hW hy => ?_)
        clear hK K hX hH37 hx kx fx
        refine fixed (M' := []) hW hy rfl (by simp) (by simp) rest_one (fun hH38 => ?_)
        clear hW hy
        refine wpAnyH_done (by kernel_rfl) ?_ _
        have H6 := Lib.hid hH38
        have k0 := hH38.boxs.hd.cell
        have k1 := hH38.boxs.tl.hd.cell
        go_wp2_with fail
        go_ret
        exact ⟨ret_bool (by simp [hc]), H6.out.below⟩
      refine AllReadyH.cons rfl (fun K hK => ?_) AllReadyH.nil
      go_simp
      have hne39 := hH29.fresh
      refine hK.out _ _ (hH29.alloc _) (fun hX => ?_)
      refine laid_own hH29 (n := 4) rfl (fun v39 hH39 => ?_)
      clear hK K hX hH29
      refine wpAnyH_ready (rs := [1]) (by kernel_rfl) (by simp) ?_
      refine AllReadyH.cons rfl (fun K hK => ?_) AllReadyH.nil
      go_simp
      refine (HX.out _).mono ?_
      rintro e v40 ⟨rfl, hb⟩
      go_wp2_with fail
      refine hK.out _ _ (hH39.up hb) (fun hH40 => ?_)
      clear hK K hH39
      refine wpAnyH_ready (rs := [3]) (by kernel_rfl) (by simp) ?_
      refine AllReadyH.cons rfl (fun K hK => ?_) AllReadyH.nil
      go_simp
      refine (HY.out _).mono ?_
      rintro e v41 ⟨rfl, hb⟩
      go_wp2_with fail
      refine hK.out _ _ (hH40.up hb) (fun hH41 => ?_)
      clear hK K hH40
      refine wpAnyH_ready (rs := [6]) (by kernel_rfl) (by simp) ?_
      refine AllReadyH.cons rfl (fun K hK => ?_) AllReadyH.nil
      obtain ⟨z0, z1, z2, z3, hx⟩ := hH41.o1.four
      have kx := hx.cell
      have fx := hx.frozen
      go_simp
      refine hK.out _ _ (hH41.set4 ⟨4, by simp⟩ _ _ _ _) (fun hX => ?_)
      refine stored4 hH41 ⟨4, by simp⟩ hx (fun v42 hW hy => ?_)
      clear hK K hX hH41 hx kx fx
      refine fixed (M' := [(v29.heap.size, 4)]) hW hy rfl (fun y hy e => by rw [List.mem_singleton] at hy; subst hy; exact hne39 _ (List.mem_singleton.2 rfl) e.symm) (by simp) rest_snd (fun hH42 => ?_)
      clear hW hy
      refine wpAnyH_ready (rs := [7]) (by kernel_rfl) (by simp) ?_
      refine AllReadyH.cons rfl (fun K hK => ?_) AllReadyH.nil
      obtain ⟨z0, z1, z2, z3, hx⟩ := hH42.o0.four
      have kx := hx.cell
      have fx := hx.frozen
      go_simp
      refine hK.out _ _ (hH42.set4 ⟨4, by simp⟩ _ _ _ _) (fun hX => ?_)
      refine stored4 hH42 ⟨4, by simp⟩ hx (fun v43 hW hy => ?_)
      clear hK K hX hH42 hx kx fx
      refine fixed (M' := []) hW hy rfl (by simp) (by simp) rest_one (fun hH43 => ?_)
      clear hW hy
      refine wpAnyH_done (by kernel_rfl) ?_ _
      have H6 := Lib.hid hH43
      have k0 := hH43.boxs.hd.cell
      have k1 := hH43.boxs.tl.hd.cell
      go_wp2_with fail
      go_ret
      exact ⟨ret_bool (by simp [hc]), H6.out.below⟩
    refine AllReadyH.cons rfl (fun K hK => ?_) AllReadyH.nil
    go_simp
    have hne44 := hH0.fresh
    refine hK.out _ _ (hH0.alloc _) (fun hX => ?_)
    refine laid_own hH0 (n := 4) rfl (fun v44 hH44 => ?_)
    clear hK K hX hH0
    refine wpAnyH_ready (rs := [1, 4]) (by kernel_rfl) (by simp) ?_
    refine AllReadyH.cons rfl (fun K hK => ?_) ?_
    · go_simp
      refine (HX.out _).mono ?_
      rintro e v45 ⟨rfl, hb⟩
      go_wp2_with fail
      refine hK.out _ _ (hH44.up hb) (fun hH45 => ?_)
      clear hK K hH44
      refine wpAnyH_ready (rs := [3, 4]) (by kernel_rfl) (by simp) ?_
      refine AllReadyH.cons rfl (fun K hK => ?_) ?_
      · go_simp
        refine (HY.out _).mono ?_
        rintro e v46 ⟨rfl, hb⟩
        go_wp2_with fail
        refine hK.out _ _ (hH45.up hb) (fun hH46 => ?_)
        clear hK K hH45
        refine wpAnyH_ready (rs := [4]) (by kernel_rfl) (by simp) ?_
        refine AllReadyH.cons rfl (fun K hK => ?_) AllReadyH.nil
        go_simp
        have hne47 := hH46.fresh
        refine hK.out _ _ (hH46.alloc _) (fun hX => ?_)
        refine laid_own hH46 (n := 4) rfl (fun v47 hH47 => ?_)
        clear hK K hX hH46
        refine wpAnyH_ready (rs := [6]) (by kernel_rfl) (by simp) ?_
        refine AllReadyH.cons rfl (fun K hK => ?_) AllReadyH.nil
        obtain ⟨z0, z1, z2, z3, hx⟩ := hH47.o0.four
        have kx := hx.cell
        have fx := hx.frozen
        go_simp
        refine hK.out _ _ (hH47.set4 ⟨4, by simp⟩ _ _ _ _) (fun hX => ?_)
        refine stored4 hH47 ⟨4, by simp⟩ hx (fun v48 hW hy => ?_)
        clear hK K hX hH47 hx kx fx
        refine fixed (M' := [(v0.heap.size, 4)]) hW hy rfl (fun y hy => hne47 y hy) (by simp) rest_fst (fun hH48 => ?_)
        clear hW hy
        refine wpAnyH_ready (rs := [7]) (by kernel_rfl) (by simp) ?_
        refine AllReadyH.cons rfl (fun K hK => ?_) AllReadyH.nil
        obtain ⟨z0, z1, z2, z3, hx⟩ := hH48.o0.four
        have kx := hx.cell
        have fx := hx.frozen
        go_simp
        refine hK.out _ _ (hH48.set4 ⟨4, by simp⟩ _ _ _ _) (fun hX => ?_)
        refine stored4 hH48 ⟨4, by simp⟩ hx (fun v49 hW hy => ?_)
        clear hK K hX hH48 hx kx fx
        refine fixed (M' := []) hW hy rfl (by simp) (by simp) rest_one (fun hH49 => ?_)
        clear hW hy
        refine wpAnyH_done (by kernel_rfl) ?_ _
        have H6 := Lib.hid hH49
        have k0 := hH49.boxs.hd.cell
        have k1 := hH49.boxs.tl.hd.cell
        go_wp2_with fail
        go_ret
        exact ⟨ret_bool (by simp [hc]), H6.out.below⟩
      refine AllReadyH.cons rfl (fun K hK => ?_) AllReadyH.nil
      go_simp
      have hne50 := hH45.fresh
      refine hK.out _ _ (hH45.alloc _) (fun hX => ?_)
      refine laid_own hH45 (n := 4) rfl (fun v50 hH50 => ?_)
      clear hK K hX hH45
      refine wpAnyH_ready (rs := [3]) (by kernel_rfl) (by simp) ?_
      refine AllReadyH.cons rfl (fun K hK => ?_) AllReadyH.nil
      go_simp
      refine (HY.out _).mono ?_
      rintro e v51 ⟨rfl, hb⟩
      go_wp2_with fail
      refine hK.out _ _ (hH50.up hb) (fun hH51 => ?_)
      clear hK K hH50
      refine wpAnyH_ready (rs := [6]) (by kernel_rfl) (by simp) ?_
      refine AllReadyH.cons rfl (fun K hK => ?_) AllReadyH.nil
      obtain ⟨z0, z1, z2, z3, hx⟩ := hH51.o0.four
      have kx := hx.cell
      have fx := hx.frozen
      go_simp
      refine hK.out _ _ (hH51.set4 ⟨4, by simp⟩ _ _ _ _) (fun hX => ?_)
      refine stored4 hH51 ⟨4, by simp⟩ hx (fun v52 hW hy => ?_)
      clear hK K hX hH51 hx kx fx
      refine fixed (M' := [(v0.heap.size, 4)]) hW hy rfl (fun y hy => hne50 y hy) (by simp) rest_fst (fun hH52 => ?_)
      clear hW hy
      refine wpAnyH_ready (rs := [7]) (by kernel_rfl) (by simp) ?_
      refine AllReadyH.cons rfl (fun K hK => ?_) AllReadyH.nil
      obtain ⟨z0, z1, z2, z3, hx⟩ := hH52.o0.four
      have kx := hx.cell
      have fx := hx.frozen
      go_simp
      refine hK.out _ _ (hH52.set4 ⟨4, by simp⟩ _ _ _ _) (fun hX => ?_)
      refine stored4 hH52 ⟨4, by simp⟩ hx (fun v53 hW hy => ?_)
      clear hK K hX hH52 hx kx fx
      refine fixed (M' := []) hW hy rfl (by simp) (by simp) rest_one (fun hH53 => ?_)
      clear hW hy
      refine wpAnyH_done (by kernel_rfl) ?_ _
      have H6 := Lib.hid hH53
      have k0 := hH53.boxs.hd.cell
      have k1 := hH53.boxs.tl.hd.cell
      go_wp2_with fail
      go_ret
      exact ⟨ret_bool (by simp [hc]), H6.out.below⟩
    refine AllReadyH.cons rfl (fun K hK => ?_) AllReadyH.nil
    go_simp
    have hne54 := hH44.fresh
    refine hK.out _ _ (hH44.alloc _) (fun hX => ?_)
    refine laid_own hH44 (n := 4) rfl (fun v54 hH54 => ?_)
    clear hK K hX hH44
    refine wpAnyH_ready (rs := [1]) (by kernel_rfl) (by simp) ?_
    refine AllReadyH.cons rfl (fun K hK => ?_) AllReadyH.nil
    go_simp
    refine (HX.out _).mono ?_
    rintro e v55 ⟨rfl, hb⟩
    go_wp2_with fail
    refine hK.out _ _ (hH54.up hb) (fun hH55 => ?_)
    clear hK K hH54
    refine wpAnyH_ready (rs := [3]) (by kernel_rfl) (by simp) ?_
    refine AllReadyH.cons rfl (fun K hK => ?_) AllReadyH.nil
    go_simp
    refine (HY.out _).mono ?_
    rintro e v56 ⟨rfl, hb⟩
    go_wp2_with fail
    refine hK.out _ _ (hH55.up hb) (fun hH56 => ?_)
    clear hK K hH55
    refine wpAnyH_ready (rs := [6]) (by kernel_rfl) (by simp) ?_
    refine AllReadyH.cons rfl (fun K hK => ?_) AllReadyH.nil
    obtain ⟨z0, z1, z2, z3, hx⟩ := hH56.o0.four
    have kx := hx.cell
    have fx := hx.frozen
    go_simp
    refine hK.out _ _ (hH56.set4 ⟨4, by simp⟩ _ _ _ _) (fun hX => ?_)
    refine stored4 hH56 ⟨4, by simp⟩ hx (fun v57 hW hy => ?_)
    clear hK K hX hH56 hx kx fx
    refine fixed (M' := [(v0.heap.size, 4)]) hW hy rfl (fun y hy => hne54 y hy) (by simp) rest_fst (fun hH57 => ?_)
    clear hW hy
    refine wpAnyH_ready (rs := [7]) (by kernel_rfl) (by simp) ?_
    refine AllReadyH.cons rfl (fun K hK => ?_) AllReadyH.nil
    obtain ⟨z0, z1, z2, z3, hx⟩ := hH57.o0.four
    have kx := hx.cell
    have fx := hx.frozen
    go_simp
    refine hK.out _ _ (hH57.set4 ⟨4, by simp⟩ _ _ _ _) (fun hX => ?_)
    refine stored4 hH57 ⟨4, by simp⟩ hx (fun v58 hW hy => ?_)
    clear hK K hX hH57 hx kx fx
    refine fixed (M' := []) hW hy rfl (by simp) (by simp) rest_one (fun hH58 => ?_)
    clear hW hy
    refine wpAnyH_done (by kernel_rfl) ?_ _
    have H6 := Lib.hid hH58
    have k0 := hH58.boxs.hd.cell
    have k1 := hH58.boxs.tl.hd.cell
    go_wp2_with fail
    go_ret
    exact ⟨ret_bool (by simp [hc]), H6.out.below⟩

end Go.Proofs.Ytjdcpcfjekfdeaa
