/- Links: what the code's Open, Close, Idle and Same answer. Under: lists of up to a hundred thousand texts. -/
import Derived.Test.YtbjbdlgbppanmaaYXA
namespace Go.Proofs.Ytbjbdlgbppanmaa
open Go.RowKit

theorem ret_boolX {x y : Bool} (h : x = y) : Ending.returned (.bool x) = .returned (.bool y) := by rw [h]

set_option maxHeartbeats 1000000 in
theorem kopen_at (u : Bool) (s : Int) (a b : List ByteArray) (A B : Option Addr) (n m : Nat) (w : World) : Calls Try.prog 13 #[.agg #[.bool u, .int .u64 s, .slice A a.length n, .slice B b.length m]] w fun e w' => e = .returned (.agg #[.bool true, .int .u64 (nextS s), .slice none 0 0, .slice none 0 0]) ∧ Below w.heap.size w w' := by
  have H0 := Lib.hid (((Held.refl w).lay [.bool u, .int .u64 s, .slice A a.length n, .slice B b.length m] 26).own [.bool false, .int .u64 0, .slice none 0 0, .slice none 0 0] 26 (n := 4) rfl)
  rw [World.size_alloc] at H0
  have k0 := H0.out.b0.cell
  have hn : IntKind.u64.wrap (s + 1) = nextS s := rfl
  go_enter Try.func13, Try.ntmps13
  go_wp2_with fail
  refine bodyPost_ret (v := .agg #[.bool true, .int .u64 (nextS s), .slice none 0 0, .slice none 0 0]) (by simp [results, Try.results13, go_sem, nextS]) rfl ⟨rfl, ?_⟩
  exact below2
theorem kopen_any (x : Lnk) (A B : Option Addr) (n m : Nat) (w : World) (_hk : Lk w x A n B m) : Calls Try.prog 13 #[lkV x A n B m] w (GivesK x.opened id w) :=
  (kopen_at x.u x.s x.a x.b A B n m w).mono fun _ _ h => ⟨none, 0, none, 0, h.1, lk_empty _ _ _, h.2⟩

set_option maxHeartbeats 1000000 in
theorem kclose_at (u : Bool) (s : Int) (a b : List ByteArray) (A B : Option Addr) (n m : Nat) (w : World) : Calls Try.prog 15 #[.agg #[.bool u, .int .u64 s, .slice A a.length n, .slice B b.length m]] w fun e w' => e = .returned (.agg #[.bool false, .int .u64 s, .slice none 0 0, .slice none 0 0]) ∧ Below w.heap.size w w' := by
  have H0 := Lib.hid (((Held.refl w).lay [.bool u, .int .u64 s, .slice A a.length n, .slice B b.length m] 26).own [.bool false, .int .u64 0, .slice none 0 0, .slice none 0 0] 26 (n := 4) rfl)
  rw [World.size_alloc] at H0
  have k0 := H0.out.b0.cell
  have hn : IntKind.u64.wrap (s + 1) = nextS s := rfl
  go_enter Try.func15, Try.ntmps15
  go_wp2_with fail
  refine bodyPost_ret (v := .agg #[.bool false, .int .u64 s, .slice none 0 0, .slice none 0 0]) (by simp [results, Try.results15, go_sem]) rfl ⟨rfl, ?_⟩
  exact below2
theorem kclose_any (x : Lnk) (A B : Option Addr) (n m : Nat) (w : World) (_hk : Lk w x A n B m) : Calls Try.prog 15 #[lkV x A n B m] w (GivesK x.closed id w) :=
  (kclose_at x.u x.s x.a x.b A B n m w).mono fun _ _ h => ⟨none, 0, none, 0, h.1, lk_empty _ _ _, h.2⟩

theorem zero_len (a : List ByteArray) : decide (a.length = 0) = decide (a = []) := by
  rw [decide_eq_decide]
  exact List.length_eq_zero_iff

set_option maxHeartbeats 1000000 in
theorem kidle_at (u : Bool) (s : Int) (A B : Option Addr) (la lb n m : Nat) (w : World) : Calls Try.prog 17 #[.agg #[.bool u, .int .u64 s, .slice A la n, .slice B lb m]] w fun e w' => e = .returned (.bool (decide (la = 0) && decide (lb = 0))) ∧ Below w.heap.size w w' := by
  have H0 := Lib.hid ((Held.refl w).lay [.bool u, .int .u64 s, .slice A la n, .slice B lb m] 26)
  have k0 := H0.out.b0.cell
  obtain ⟨r, hr⟩ : ∃ r, (decide (la = 0) && decide (lb = 0)) = r := ⟨_, rfl⟩
  rw [hr]
  have HR := Lib.hid hr; clear hr
  have i0 : ∀ w, (Instr.index 24 (.agg #[.slice A la n, .slice B lb m]) (.int .i64 0)).run Try.prog w = .ok (.slice A la n) w := fun _ => by kernel_rfl
  have i1 : ∀ w, (Instr.index 24 (.agg #[.slice A la n, .slice B lb m]) (.int .i64 1)).run Try.prog w = .ok (.slice B lb m) w := fun _ => by kernel_rfl
  go_enter Try.func17, Try.ntmps17
  go_wp2_with fail
  go_loop [4, 7] (fun _ i => ∃ k : Nat, k ≤ 2 ∧ i = .int .i64 k ∧ (1 ≤ k → la = 0) ∧ (2 ≤ k → lb = 0)) (fun _ i => 2 - (intOf i).toNat)
  case atStart => exact ⟨0, by omega, rfl, by omega, by omega⟩
  case round =>
    obtain ⟨k, hk, rfl, ga, gb⟩ := hrel
    match k, hk with
    | 0, _ =>
      clear ga gb
      by_cases h : la = 0
      · have e1 : ¬ 0 < la := by omega
        have HE := Lib.hid h; clear h
        go_wp2_with fail
        go_round
        case rel => exact ⟨1, by omega, rfl, fun _ => HE.out, by omega⟩
        case measure => simp [intOf]
      · have e1 : 0 < la := by omega
        have E2 := Lib.hid (show false = r by rw [← HR.out]; simp [h])
        clear h
        go_wp2_with fail
        go_ret
        exact ⟨ret_boolX E2.out, H0.out.below⟩
    | 1, _ =>
      have HA := Lib.hid (ga (by omega))
      clear ga gb
      by_cases h : lb = 0
      · have e1 : ¬ 0 < lb := by omega
        have HE := Lib.hid h; clear h
        go_wp2_with fail
        go_round
        case rel => exact ⟨2, by omega, rfl, fun _ => HA.out, fun _ => HE.out⟩
        case measure => simp [intOf]
      · have e1 : 0 < lb := by omega
        have E2 := Lib.hid (show false = r by rw [← HR.out]; simp [h])
        clear h
        go_wp2_with fail
        go_ret
        exact ⟨ret_boolX E2.out, H0.out.below⟩
    | 2, _ =>
      have e2 : true = r := by rw [← HR.out, ga (by omega), gb (by omega)]; rfl
      clear ga gb
      have E2 := Lib.hid e2; clear e2
      go_wp2_with fail
      go_ret
      exact ⟨ret_boolX E2.out, H0.out.below⟩
theorem kidle_any (x : Lnk) (A B : Option Addr) (n m : Nat) (w : World) (_hk : Lk w x A n B m) (_hl : x.a.length ≤ 100000) (_hl2 : x.b.length ≤ 100000) : Calls Try.prog 17 #[lkV x A n B m] w fun e w' => e = .returned (.bool x.idle) ∧ Below w.heap.size w w' := by
  unfold Lnk.idle
  rw [← zero_len, ← zero_len]
  exact kidle_at x.u x.s A B x.a.length x.b.length n m w

set_option maxRecDepth 100000 in
set_option maxHeartbeats 4000000 in
theorem ksame_at (u : Bool) (s : Int) (a b : List ByteArray) (A B : Option Addr) (n m : Nat) (u2 : Bool) (s2 : Int) (a2 b2 : List ByteArray) (A2 B2 : Option Addr) (n2 m2 : Nat) (w : World) (h1 : Lk w ⟨u, s, a, b⟩ A n B m) (h2 : Lk w ⟨u2, s2, a2, b2⟩ A2 n2 B2 m2) (hla : a.length ≤ 100000) (hlb : b.length ≤ 100000) : Calls Try.prog 19 #[.agg #[.bool u, .int .u64 s, .slice A a.length n, .slice B b.length m], .agg #[.bool u2, .int .u64 s2, .slice A2 a2.length n2, .slice B2 b2.length m2]] w fun e w' => e = .returned (.bool (Lnk.same ⟨u, s, a, b⟩ ⟨u2, s2, a2, b2⟩)) ∧ Below w.heap.size w w' := by
  have H0 := Lib.hid (((Held.refl w).lay [.bool u, .int .u64 s, .slice A a.length n, .slice B b.length m] 26).lay [.bool u2, .int .u64 s2, .slice A2 a2.length n2, .slice B2 b2.length m2] 26)
  have P1 := Lib.hid h1
  have P2 := Lib.hid h2
  clear h1 h2
  rw [World.size_alloc] at H0
  obtain ⟨r, hr⟩ : ∃ r, Lnk.same ⟨u, s, a, b⟩ ⟨u2, s2, a2, b2⟩ = r := ⟨_, rfl⟩
  rw [hr]
  have HR := Lib.hid hr; clear hr
  go_enter Try.func19, Try.ntmps19
  go_wp2_with fail
  go_loopw [5, 6] (fun _ i wr => ∃ k : Nat, k ≤ 2 ∧ i = .int .i64 k ∧ (1 ≤ k → a = a2) ∧ (2 ≤ k → b = b2) ∧ Hid (Held w [(w.heap.size + 1, [.bool u2, .int .u64 s2, .slice A2 a2.length n2, .slice B2 b2.length m2]), (w.heap.size, [.bool u, .int .u64 s, .slice A a.length n, .slice B b.length m])] [] wr)) (fun _ i _ => 2 - (intOf i).toNat)
  case atStart => exact ⟨0, by omega, rfl, by omega, by omega, H0.out⟩
  case round =>
    obtain ⟨k, hk, rfl, ga, gb, HW⟩ := hrel
    match k, hk with
    | 0, _ =>
      clear ga gb
      by_cases h : a = a2
      · have TT := Lib.hid (fun w h h' => keqStr_any A A2 n n2 a a2 w h h' (by omega))
        rw [decide_eq_true h] at TT
        have HE := Lib.hid h; clear h
        go_upto_region 4 with fail
        refine held_begin (by kernel_rfl) HW.out (fun v0 hH0 => ?_)
        refine wpAnyH_take (i := 0) (v := ?_) rfl (by kernel_rfl) (by kernel_rfl) (by kernel_rfl) (fun _ _ _ h => h) (Or.inl ⟨by rfl, ?_⟩) hH0 ?_
        rotate_left
        · (intro v hSw; go_simp; try with_reducible rfl)
        simp only [Act.put, List.setIfInBounds_toArray, List.set_cons_zero, List.set_cons_succ, List.getElem_toArray, List.getElem_cons_zero]
        refine wpAnyH_take (i := 1) (v := ?_) rfl (by kernel_rfl) (by kernel_rfl) (by kernel_rfl) (fun _ _ _ h => h) (Or.inl ⟨by rfl, ?_⟩) hH0 ?_
        rotate_left
        · (intro v hSw; go_simp; try with_reducible rfl)
        simp only [Act.put, List.setIfInBounds_toArray, List.set_cons_zero, List.set_cons_succ, List.getElem_toArray, List.getElem_cons_zero, List.getElem_cons_succ]
        refine wpAnyH_take (i := 2) (v := ?_) rfl (by kernel_rfl) (by kernel_rfl) (by kernel_rfl) (fun _ _ _ h => h) (Or.inl ⟨by rfl, ?_⟩) hH0 ?_
        rotate_left
        · (intro v hSw; go_simp; try with_reducible rfl)
        simp only [Act.put, List.setIfInBounds_toArray, List.set_cons_zero, List.set_cons_succ, List.getElem_toArray, List.getElem_cons_zero, List.getElem_cons_succ]
        refine wpAnyH_take (i := 3) (v := ?_) rfl (by kernel_rfl) (by kernel_rfl) (by kernel_rfl) (fun _ _ _ h => h) (Or.inl ⟨by rfl, ?_⟩) hH0 ?_
        rotate_left
        · (intro v hSw; have k0 := hSw.b0.cell; have k1 := hSw.b1.cell; go_simp; try with_reducible rfl)
        simp only [Act.put, List.setIfInBounds_toArray, List.set_cons_zero, List.set_cons_succ, List.getElem_toArray, List.getElem_cons_zero, List.getElem_cons_succ]
        refine wpAnyH_take (i := 4) (v := ?_) rfl (by kernel_rfl) (by kernel_rfl) (by kernel_rfl) (fun _ _ _ h => h) (Or.inl ⟨by rfl, ?_⟩) hH0 ?_
        rotate_left
        · (intro v hSw; go_simp; try with_reducible rfl)
        simp only [Act.put, List.setIfInBounds_toArray, List.set_cons_zero, List.set_cons_succ, List.getElem_toArray, List.getElem_cons_zero, List.getElem_cons_succ]
        refine wpAnyH_take (i := 5) (v := ?_) rfl (by kernel_rfl) (by kernel_rfl) (by kernel_rfl) (fun _ _ _ h => h) (Or.inl ⟨by rfl, ?_⟩) hH0 ?_
        rotate_left
        · (intro v hSw; go_simp; try with_reducible rfl)
        simp only [Act.put, List.setIfInBounds_toArray, List.set_cons_zero, List.set_cons_succ, List.getElem_toArray, List.getElem_cons_zero, List.getElem_cons_succ]
        refine wpAnyH_take (i := 6) (v := ?_) rfl (by kernel_rfl) (by kernel_rfl) (by kernel_rfl) (fun _ _ _ h => h) (Or.inl ⟨by rfl, ?_⟩) hH0 ?_
        rotate_left
        · (intro v hSw; go_simp; try with_reducible rfl)
        simp only [Act.put, List.setIfInBounds_toArray, List.set_cons_zero, List.set_cons_succ, List.getElem_toArray, List.getElem_cons_zero, List.getElem_cons_succ]
        refine wpAnyH_take (i := 7) (v := ?_) rfl (by kernel_rfl) (by kernel_rfl) (by kernel_rfl) (fun _ _ _ h => h) (Or.inl ⟨by rfl, ?_⟩) hH0 ?_
        rotate_left
        · (intro v hSw; have k0 := hSw.b0.cell; have k1 := hSw.b1.cell; go_simp; try with_reducible rfl)
        simp only [Act.put, List.setIfInBounds_toArray, List.set_cons_zero, List.set_cons_succ, List.getElem_toArray, List.getElem_cons_zero, List.getElem_cons_succ]
        refine wpAnyH_ready (rs := [8]) (by kernel_rfl) (by simp) ?_
        refine AllReadyH.cons rfl (fun K hK => ?_) AllReadyH.nil
        go_simp
        refine (TT.out _ (P1.out.up hH0.below).ea (P2.out.up hH0.below).ea).mono ?_
        rintro e v1 ⟨rfl, hb⟩
        go_wp2_with fail
        refine hK.out _ _ (hH0.up hb) (fun hH1 => ?_)
        clear hK K hH0
        refine wpAnyH_take (i := 9) (v := ?_) rfl (by kernel_rfl) (by kernel_rfl) (by kernel_rfl) (fun _ _ _ h => h) (Or.inl ⟨by rfl, ?_⟩) hH1 ?_
        rotate_left
        · (intro v hSw; go_simp; try with_reducible rfl)
        simp only [Act.put, List.setIfInBounds_toArray, List.set_cons_zero, List.set_cons_succ, List.getElem_toArray, List.getElem_cons_zero, List.getElem_cons_succ]
        refine wpAnyH_done (by kernel_rfl) ?_ _
        have HZ := Lib.hid hH1
        go_wp2_with fail
        go_roundw
        case rel => exact ⟨1, by omega, rfl, fun _ => HE.out, by omega, HZ.out⟩
        case measure => simp [intOf]
      · have TT := Lib.hid (fun w h h' => keqStr_any A A2 n n2 a a2 w h h' (by omega))
        rw [decide_eq_false h] at TT
        have E2 := Lib.hid (show false = r by rw [← HR.out]; simp [Lnk.same, h])
        clear h
        go_upto_region 4 with fail
        refine held_begin (by kernel_rfl) HW.out (fun v0 hH0 => ?_)
        refine wpAnyH_take (i := 0) (v := ?_) rfl (by kernel_rfl) (by kernel_rfl) (by kernel_rfl) (fun _ _ _ h => h) (Or.inl ⟨by rfl, ?_⟩) hH0 ?_
        rotate_left
        · (intro v hSw; go_simp; try with_reducible rfl)
        simp only [Act.put, List.setIfInBounds_toArray, List.set_cons_zero, List.set_cons_succ, List.getElem_toArray, List.getElem_cons_zero]
        refine wpAnyH_take (i := 1) (v := ?_) rfl (by kernel_rfl) (by kernel_rfl) (by kernel_rfl) (fun _ _ _ h => h) (Or.inl ⟨by rfl, ?_⟩) hH0 ?_
        rotate_left
        · (intro v hSw; go_simp; try with_reducible rfl)
        simp only [Act.put, List.setIfInBounds_toArray, List.set_cons_zero, List.set_cons_succ, List.getElem_toArray, List.getElem_cons_zero, List.getElem_cons_succ]
        refine wpAnyH_take (i := 2) (v := ?_) rfl (by kernel_rfl) (by kernel_rfl) (by kernel_rfl) (fun _ _ _ h => h) (Or.inl ⟨by rfl, ?_⟩) hH0 ?_
        rotate_left
        · (intro v hSw; go_simp; try with_reducible rfl)
        simp only [Act.put, List.setIfInBounds_toArray, List.set_cons_zero, List.set_cons_succ, List.getElem_toArray, List.getElem_cons_zero, List.getElem_cons_succ]
        refine wpAnyH_take (i := 3) (v := ?_) rfl (by kernel_rfl) (by kernel_rfl) (by kernel_rfl) (fun _ _ _ h => h) (Or.inl ⟨by rfl, ?_⟩) hH0 ?_
        rotate_left
        · (intro v hSw; have k0 := hSw.b0.cell; have k1 := hSw.b1.cell; go_simp; try with_reducible rfl)
        simp only [Act.put, List.setIfInBounds_toArray, List.set_cons_zero, List.set_cons_succ, List.getElem_toArray, List.getElem_cons_zero, List.getElem_cons_succ]
        refine wpAnyH_take (i := 4) (v := ?_) rfl (by kernel_rfl) (by kernel_rfl) (by kernel_rfl) (fun _ _ _ h => h) (Or.inl ⟨by rfl, ?_⟩) hH0 ?_
        rotate_left
        · (intro v hSw; go_simp; try with_reducible rfl)
        simp only [Act.put, List.setIfInBounds_toArray, List.set_cons_zero, List.set_cons_succ, List.getElem_toArray, List.getElem_cons_zero, List.getElem_cons_succ]
        refine wpAnyH_take (i := 5) (v := ?_) rfl (by kernel_rfl) (by kernel_rfl) (by kernel_rfl) (fun _ _ _ h => h) (Or.inl ⟨by rfl, ?_⟩) hH0 ?_
        rotate_left
        · (intro v hSw; go_simp; try with_reducible rfl)
        simp only [Act.put, List.setIfInBounds_toArray, List.set_cons_zero, List.set_cons_succ, List.getElem_toArray, List.getElem_cons_zero, List.getElem_cons_succ]
        refine wpAnyH_take (i := 6) (v := ?_) rfl (by kernel_rfl) (by kernel_rfl) (by kernel_rfl) (fun _ _ _ h => h) (Or.inl ⟨by rfl, ?_⟩) hH0 ?_
        rotate_left
        · (intro v hSw; go_simp; try with_reducible rfl)
        simp only [Act.put, List.setIfInBounds_toArray, List.set_cons_zero, List.set_cons_succ, List.getElem_toArray, List.getElem_cons_zero, List.getElem_cons_succ]
        refine wpAnyH_take (i := 7) (v := ?_) rfl (by kernel_rfl) (by kernel_rfl) (by kernel_rfl) (fun _ _ _ h => h) (Or.inl ⟨by rfl, ?_⟩) hH0 ?_
        rotate_left
        · (intro v hSw; have k0 := hSw.b0.cell; have k1 := hSw.b1.cell; go_simp; try with_reducible rfl)
        simp only [Act.put, List.setIfInBounds_toArray, List.set_cons_zero, List.set_cons_succ, List.getElem_toArray, List.getElem_cons_zero, List.getElem_cons_succ]
        refine wpAnyH_ready (rs := [8]) (by kernel_rfl) (by simp) ?_
        refine AllReadyH.cons rfl (fun K hK => ?_) AllReadyH.nil
        go_simp
        refine (TT.out _ (P1.out.up hH0.below).ea (P2.out.up hH0.below).ea).mono ?_
        rintro e v1 ⟨rfl, hb⟩
        go_wp2_with fail
        refine hK.out _ _ (hH0.up hb) (fun hH1 => ?_)
        clear hK K hH0
        refine wpAnyH_take (i := 9) (v := ?_) rfl (by kernel_rfl) (by kernel_rfl) (by kernel_rfl) (fun _ _ _ h => h) (Or.inl ⟨by rfl, ?_⟩) hH1 ?_
        rotate_left
        · (intro v hSw; go_simp; try with_reducible rfl)
        simp only [Act.put, List.setIfInBounds_toArray, List.set_cons_zero, List.set_cons_succ, List.getElem_toArray, List.getElem_cons_zero, List.getElem_cons_succ]
        refine wpAnyH_done (by kernel_rfl) ?_ _
        go_wp2_with fail
        go_ret
        exact ⟨ret_boolX E2.out, hH1.below⟩
    | 1, _ =>
      have HGA := Lib.hid (ga (by omega))
      clear ga gb
      by_cases h : b = b2
      · have TT := Lib.hid (fun w h h' => keqStr_any B B2 m m2 b b2 w h h' (by omega))
        rw [decide_eq_true h] at TT
        have HE := Lib.hid h; clear h
        go_upto_region 4 with fail
        refine held_begin (by kernel_rfl) HW.out (fun v0 hH0 => ?_)
        refine wpAnyH_take (i := 0) (v := ?_) rfl (by kernel_rfl) (by kernel_rfl) (by kernel_rfl) (fun _ _ _ h => h) (Or.inl ⟨by rfl, ?_⟩) hH0 ?_
        rotate_left
        · (intro v hSw; go_simp; try with_reducible rfl)
        simp only [Act.put, List.setIfInBounds_toArray, List.set_cons_zero, List.set_cons_succ, List.getElem_toArray, List.getElem_cons_zero]
        refine wpAnyH_take (i := 1) (v := ?_) rfl (by kernel_rfl) (by kernel_rfl) (by kernel_rfl) (fun _ _ _ h => h) (Or.inl ⟨by rfl, ?_⟩) hH0 ?_
        rotate_left
        · (intro v hSw; go_simp; try with_reducible rfl)
        simp only [Act.put, List.setIfInBounds_toArray, List.set_cons_zero, List.set_cons_succ, List.getElem_toArray, List.getElem_cons_zero, List.getElem_cons_succ]
        refine wpAnyH_take (i := 2) (v := ?_) rfl (by kernel_rfl) (by kernel_rfl) (by kernel_rfl) (fun _ _ _ h => h) (Or.inl ⟨by rfl, ?_⟩) hH0 ?_
        rotate_left
        · (intro v hSw; go_simp; try with_reducible rfl)
        simp only [Act.put, List.setIfInBounds_toArray, List.set_cons_zero, List.set_cons_succ, List.getElem_toArray, List.getElem_cons_zero, List.getElem_cons_succ]
        refine wpAnyH_take (i := 3) (v := ?_) rfl (by kernel_rfl) (by kernel_rfl) (by kernel_rfl) (fun _ _ _ h => h) (Or.inl ⟨by rfl, ?_⟩) hH0 ?_
        rotate_left
        · (intro v hSw; have k0 := hSw.b0.cell; have k1 := hSw.b1.cell; go_simp; try with_reducible rfl)
        simp only [Act.put, List.setIfInBounds_toArray, List.set_cons_zero, List.set_cons_succ, List.getElem_toArray, List.getElem_cons_zero, List.getElem_cons_succ]
        refine wpAnyH_take (i := 4) (v := ?_) rfl (by kernel_rfl) (by kernel_rfl) (by kernel_rfl) (fun _ _ _ h => h) (Or.inl ⟨by rfl, ?_⟩) hH0 ?_
        rotate_left
        · (intro v hSw; go_simp; try with_reducible rfl)
        simp only [Act.put, List.setIfInBounds_toArray, List.set_cons_zero, List.set_cons_succ, List.getElem_toArray, List.getElem_cons_zero, List.getElem_cons_succ]
        refine wpAnyH_take (i := 5) (v := ?_) rfl (by kernel_rfl) (by kernel_rfl) (by kernel_rfl) (fun _ _ _ h => h) (Or.inl ⟨by rfl, ?_⟩) hH0 ?_
        rotate_left
        · (intro v hSw; go_simp; try with_reducible rfl)
        simp only [Act.put, List.setIfInBounds_toArray, List.set_cons_zero, List.set_cons_succ, List.getElem_toArray, List.getElem_cons_zero, List.getElem_cons_succ]
        refine wpAnyH_take (i := 6) (v := ?_) rfl (by kernel_rfl) (by kernel_rfl) (by kernel_rfl) (fun _ _ _ h => h) (Or.inl ⟨by rfl, ?_⟩) hH0 ?_
        rotate_left
        · (intro v hSw; go_simp; try with_reducible rfl)
        simp only [Act.put, List.setIfInBounds_toArray, List.set_cons_zero, List.set_cons_succ, List.getElem_toArray, List.getElem_cons_zero, List.getElem_cons_succ]
        refine wpAnyH_take (i := 7) (v := ?_) rfl (by kernel_rfl) (by kernel_rfl) (by kernel_rfl) (fun _ _ _ h => h) (Or.inl ⟨by rfl, ?_⟩) hH0 ?_
        rotate_left
        · (intro v hSw; have k0 := hSw.b0.cell; have k1 := hSw.b1.cell; go_simp; try with_reducible rfl)
        simp only [Act.put, List.setIfInBounds_toArray, List.set_cons_zero, List.set_cons_succ, List.getElem_toArray, List.getElem_cons_zero, List.getElem_cons_succ]
        refine wpAnyH_ready (rs := [8]) (by kernel_rfl) (by simp) ?_
        refine AllReadyH.cons rfl (fun K hK => ?_) AllReadyH.nil
        go_simp
        refine (TT.out _ (P1.out.up hH0.below).eb (P2.out.up hH0.below).eb).mono ?_
        rintro e v1 ⟨rfl, hb⟩
        go_wp2_with fail
        refine hK.out _ _ (hH0.up hb) (fun hH1 => ?_)
        clear hK K hH0
        refine wpAnyH_take (i := 9) (v := ?_) rfl (by kernel_rfl) (by kernel_rfl) (by kernel_rfl) (fun _ _ _ h => h) (Or.inl ⟨by rfl, ?_⟩) hH1 ?_
        rotate_left
        · (intro v hSw; go_simp; try with_reducible rfl)
        simp only [Act.put, List.setIfInBounds_toArray, List.set_cons_zero, List.set_cons_succ, List.getElem_toArray, List.getElem_cons_zero, List.getElem_cons_succ]
        refine wpAnyH_done (by kernel_rfl) ?_ _
        have HZ := Lib.hid hH1
        go_wp2_with fail
        go_roundw
        case rel => exact ⟨2, by omega, rfl, fun _ => HGA.out, fun _ => HE.out, HZ.out⟩
        case measure => simp [intOf]
      · have TT := Lib.hid (fun w h h' => keqStr_any B B2 m m2 b b2 w h h' (by omega))
        rw [decide_eq_false h] at TT
        have E2 := Lib.hid (show false = r by rw [← HR.out]; simp [Lnk.same, h])
        clear h
        go_upto_region 4 with fail
        refine held_begin (by kernel_rfl) HW.out (fun v0 hH0 => ?_)
        refine wpAnyH_take (i := 0) (v := ?_) rfl (by kernel_rfl) (by kernel_rfl) (by kernel_rfl) (fun _ _ _ h => h) (Or.inl ⟨by rfl, ?_⟩) hH0 ?_
        rotate_left
        · (intro v hSw; go_simp; try with_reducible rfl)
        simp only [Act.put, List.setIfInBounds_toArray, List.set_cons_zero, List.set_cons_succ, List.getElem_toArray, List.getElem_cons_zero]
        refine wpAnyH_take (i := 1) (v := ?_) rfl (by kernel_rfl) (by kernel_rfl) (by kernel_rfl) (fun _ _ _ h => h) (Or.inl ⟨by rfl, ?_⟩) hH0 ?_
        rotate_left
        · (intro v hSw; go_simp; try with_reducible rfl)
        simp only [Act.put, List.setIfInBounds_toArray, List.set_cons_zero, List.set_cons_succ, List.getElem_toArray, List.getElem_cons_zero, List.getElem_cons_succ]
        refine wpAnyH_take (i := 2) (v := ?_) rfl (by kernel_rfl) (by kernel_rfl) (by kernel_rfl) (fun _ _ _ h => h) (Or.inl ⟨by rfl, ?_⟩) hH0 ?_
        rotate_left
        · (intro v hSw; go_simp; try with_reducible rfl)
        simp only [Act.put, List.setIfInBounds_toArray, List.set_cons_zero, List.set_cons_succ, List.getElem_toArray, List.getElem_cons_zero, List.getElem_cons_succ]
        refine wpAnyH_take (i := 3) (v := ?_) rfl (by kernel_rfl) (by kernel_rfl) (by kernel_rfl) (fun _ _ _ h => h) (Or.inl ⟨by rfl, ?_⟩) hH0 ?_
        rotate_left
        · (intro v hSw; have k0 := hSw.b0.cell; have k1 := hSw.b1.cell; go_simp; try with_reducible rfl)
        simp only [Act.put, List.setIfInBounds_toArray, List.set_cons_zero, List.set_cons_succ, List.getElem_toArray, List.getElem_cons_zero, List.getElem_cons_succ]
        refine wpAnyH_take (i := 4) (v := ?_) rfl (by kernel_rfl) (by kernel_rfl) (by kernel_rfl) (fun _ _ _ h => h) (Or.inl ⟨by rfl, ?_⟩) hH0 ?_
        rotate_left
        · (intro v hSw; go_simp; try with_reducible rfl)
        simp only [Act.put, List.setIfInBounds_toArray, List.set_cons_zero, List.set_cons_succ, List.getElem_toArray, List.getElem_cons_zero, List.getElem_cons_succ]
        refine wpAnyH_take (i := 5) (v := ?_) rfl (by kernel_rfl) (by kernel_rfl) (by kernel_rfl) (fun _ _ _ h => h) (Or.inl ⟨by rfl, ?_⟩) hH0 ?_
        rotate_left
        · (intro v hSw; go_simp; try with_reducible rfl)
        simp only [Act.put, List.setIfInBounds_toArray, List.set_cons_zero, List.set_cons_succ, List.getElem_toArray, List.getElem_cons_zero, List.getElem_cons_succ]
        refine wpAnyH_take (i := 6) (v := ?_) rfl (by kernel_rfl) (by kernel_rfl) (by kernel_rfl) (fun _ _ _ h => h) (Or.inl ⟨by rfl, ?_⟩) hH0 ?_
        rotate_left
        · (intro v hSw; go_simp; try with_reducible rfl)
        simp only [Act.put, List.setIfInBounds_toArray, List.set_cons_zero, List.set_cons_succ, List.getElem_toArray, List.getElem_cons_zero, List.getElem_cons_succ]
        refine wpAnyH_take (i := 7) (v := ?_) rfl (by kernel_rfl) (by kernel_rfl) (by kernel_rfl) (fun _ _ _ h => h) (Or.inl ⟨by rfl, ?_⟩) hH0 ?_
        rotate_left
        · (intro v hSw; have k0 := hSw.b0.cell; have k1 := hSw.b1.cell; go_simp; try with_reducible rfl)
        simp only [Act.put, List.setIfInBounds_toArray, List.set_cons_zero, List.set_cons_succ, List.getElem_toArray, List.getElem_cons_zero, List.getElem_cons_succ]
        refine wpAnyH_ready (rs := [8]) (by kernel_rfl) (by simp) ?_
        refine AllReadyH.cons rfl (fun K hK => ?_) AllReadyH.nil
        go_simp
        refine (TT.out _ (P1.out.up hH0.below).eb (P2.out.up hH0.below).eb).mono ?_
        rintro e v1 ⟨rfl, hb⟩
        go_wp2_with fail
        refine hK.out _ _ (hH0.up hb) (fun hH1 => ?_)
        clear hK K hH0
        refine wpAnyH_take (i := 9) (v := ?_) rfl (by kernel_rfl) (by kernel_rfl) (by kernel_rfl) (fun _ _ _ h => h) (Or.inl ⟨by rfl, ?_⟩) hH1 ?_
        rotate_left
        · (intro v hSw; go_simp; try with_reducible rfl)
        simp only [Act.put, List.setIfInBounds_toArray, List.set_cons_zero, List.set_cons_succ, List.getElem_toArray, List.getElem_cons_zero, List.getElem_cons_succ]
        refine wpAnyH_done (by kernel_rfl) ?_ _
        go_wp2_with fail
        go_ret
        exact ⟨ret_boolX E2.out, hH1.below⟩
    | 2, _ =>
      have k0 := HW.out.b0.cell
      have k1 := HW.out.b1.cell
      have e2 : ((u == u2) && (s == s2)) = r := by rw [← HR.out, ga (by omega), gb (by omega)]; simp [Lnk.same]
      clear ga gb
      cases hu : (u == u2)
      · rw [hu] at e2
        have E2 := Lib.hid e2; clear e2
        go_wp2_with fail
        go_ret
        exact ⟨ret_boolX E2.out, HW.out.below⟩
      · rw [hu] at e2
        have E2 := Lib.hid e2; clear e2
        go_wp2_with fail
        go_ret
        exact ⟨ret_boolX E2.out, HW.out.below⟩
theorem ksame_any (x : Lnk) (A B : Option Addr) (n m : Nat) (y : Lnk) (C D : Option Addr) (k l : Nat) (w : World) (hx : Lk w x A n B m) (hy : Lk w y C k D l) (hl : x.a.length ≤ 100000) (hl2 : x.b.length ≤ 100000) (_hl3 : y.a.length ≤ 100000) (_hl4 : y.b.length ≤ 100000) : Calls Try.prog 19 #[lkV x A n B m, lkV y C k D l] w fun e w' => e = .returned (.bool (x.same y)) ∧ Below w.heap.size w w' :=
  ksame_at x.u x.s x.a x.b A B n m y.u y.s y.a y.b C D k l w hx hy hl hl2
end Go.Proofs.Ytbjbdlgbppanmaa
