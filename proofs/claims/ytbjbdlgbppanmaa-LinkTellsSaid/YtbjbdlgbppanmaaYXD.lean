/- Links: what the code's Take answers. Under: lists of up to a hundred thousand texts. -/
import Derived.Test.YtbjbdlgbppanmaaYXC
import Derived.Test.YtbjbdlgbppanmaaYD
namespace Go.Proofs.Ytbjbdlgbppanmaa
open Go.RowKit

set_option maxRecDepth 100000 in
set_option maxHeartbeats 4000000 in
theorem kt_arg (u : Bool) (s : Int) (A B : Option Addr) (n m : Nat) (a b : List ByteArray) (g : Int) (hg : isSide g = false) (w : World) : Calls Try.prog 8 #[.agg #[.bool u, .int .u64 s, .slice A a.length n, .slice B b.length m], .int .i64 g] w fun e w' => e = .returned (.tuple #[.string ⟨#[]⟩, .agg #[.bool u, .int .u64 s, .slice A a.length n, .slice B b.length m], .bool false]) ∧ Below w.heap.size w w' := by
  have HG := Lib.hid hg; clear hg
  have H0 := Lib.hid (((Held.refl w).lay [.bool u, .int .u64 s, .slice A a.length n, .slice B b.length m] 26).own [.bool false, .int .u64 0, .slice none 0 0, .slice none 0 0] 26 (n := 4) rfl)
  rw [World.size_alloc] at H0
  go_enter Try.func8, Try.ntmps8
  go_wp2_with fail
  refine (kside_any g false HG.out _).mono ?_
  rintro e w1 ⟨rfl, hb1⟩
  have H1 := Lib.hid (H0.out.up hb1)
  clear H0 hb1
  have kl := H1.out.b0.cell
  go_wp2_with fail
  clear kl
  refine held_begin (by kernel_rfl) H1.out (fun v0 hH0 => ?_)
  refine wpAnyH_take (i := 0) (v := ?_) rfl (by kernel_rfl) (by kernel_rfl) (by kernel_rfl) (fun _ _ _ h => h) (Or.inl ⟨by rfl, ?_⟩) hH0 ?_
  rotate_left
  · (intro v hSw; have k0 := hSw.b0.cell; go_simp; try with_reducible rfl)
  simp only [Act.put, List.setIfInBounds_toArray, List.set_cons_zero, List.set_cons_succ, List.getElem_toArray, List.getElem_cons_zero]
  refine wpAnyH_take (i := 1) (v := ?_) rfl (by kernel_rfl) (by kernel_rfl) (by kernel_rfl) (fun _ _ _ h => h) (Or.inl ⟨by rfl, ?_⟩) hH0 ?_
  rotate_left
  · (intro v hSw; go_simp; try with_reducible rfl)
  simp only [Act.put, List.setIfInBounds_toArray, List.set_cons_zero, List.set_cons_succ, List.getElem_toArray, List.getElem_cons_zero, List.getElem_cons_succ]
  refine wpAnyH_ready (rs := [2]) (by kernel_rfl) (by simp) ?_
  refine AllReadyH.cons rfl (fun K hK => ?_) AllReadyH.nil
  obtain ⟨z0, z1, z2, z3, hx⟩ := hH0.o0.four
  have kx := hx.cell
  have fx := hx.frozen
  go_simp
  refine hK.out _ _ (hH0.set4 ⟨4, by simp⟩ _ _ _ _) (fun hX => ?_)
  refine stored4 hH0 ⟨4, by simp⟩ hx (fun v1 hH1 hy => ?_)
  clear hK K hX hH0 hx kx fx
  refine wpAnyH_take (i := 3) (v := ?_) rfl (by kernel_rfl) (by kernel_rfl) (by kernel_rfl) (fun _ _ _ h => h) (Or.inl ⟨by rfl, ?_⟩) hH1 ?_
  rotate_left
  · (intro v hSw; go_simp; try with_reducible rfl)
  simp only [Act.put, List.setIfInBounds_toArray, List.set_cons_zero, List.set_cons_succ, List.getElem_toArray, List.getElem_cons_zero, List.getElem_cons_succ]
  refine wpAnyH_done (by kernel_rfl) ?_ _
  have H8 := Lib.hid hH1
  have kr := hy.cell
  go_wp2_with fail
  refine bodyPost_ret (v := .tuple #[.string ⟨#[]⟩, .agg #[.bool u, .int .u64 s, .slice A a.length n, .slice B b.length m], .bool false]) (by simp [results, Try.results8, go_sem, kr]) rfl ⟨rfl, H8.out.below⟩

set_option maxRecDepth 100000 in
set_option maxHeartbeats 4000000 in
theorem kt_none0 (u : Bool) (s : Int) (A B : Option Addr) (n m : Nat) (b : List ByteArray) (w : World) : Calls Try.prog 8 #[.agg #[.bool u, .int .u64 s, .slice A 0 n, .slice B b.length m], .int .i64 0] w fun e w' => e = .returned (.tuple #[.string ⟨#[]⟩, .agg #[.bool u, .int .u64 s, .slice A 0 n, .slice B b.length m], .bool false]) ∧ Below w.heap.size w w' := by
  have H0 := Lib.hid (((Held.refl w).lay [.bool u, .int .u64 s, .slice A 0 n, .slice B b.length m] 26).own [.bool false, .int .u64 0, .slice none 0 0, .slice none 0 0] 26 (n := 4) rfl)
  rw [World.size_alloc] at H0
  go_enter Try.func8, Try.ntmps8
  go_wp2_with fail
  refine (kside_any 0 true rfl _).mono ?_
  rintro e w1 ⟨rfl, hb1⟩
  have H1 := Lib.hid (H0.out.up hb1)
  clear H0 hb1
  have kl := H1.out.b0.cell
  go_wp2_with fail
  clear kl
  refine held_begin (by kernel_rfl) H1.out (fun v0 hH0 => ?_)
  refine wpAnyH_take (i := 0) (v := ?_) rfl (by kernel_rfl) (by kernel_rfl) (by kernel_rfl) (fun _ _ _ h => h) (Or.inl ⟨by rfl, ?_⟩) hH0 ?_
  rotate_left
  · (intro v hSw; have k0 := hSw.b0.cell; go_simp; try with_reducible rfl)
  simp only [Act.put, List.setIfInBounds_toArray, List.set_cons_zero, List.set_cons_succ, List.getElem_toArray, List.getElem_cons_zero]
  refine wpAnyH_take (i := 1) (v := ?_) rfl (by kernel_rfl) (by kernel_rfl) (by kernel_rfl) (fun _ _ _ h => h) (Or.inl ⟨by rfl, ?_⟩) hH0 ?_
  rotate_left
  · (intro v hSw; go_simp; try with_reducible rfl)
  simp only [Act.put, List.setIfInBounds_toArray, List.set_cons_zero, List.set_cons_succ, List.getElem_toArray, List.getElem_cons_zero, List.getElem_cons_succ]
  refine wpAnyH_ready (rs := [2]) (by kernel_rfl) (by simp) ?_
  refine AllReadyH.cons rfl (fun K hK => ?_) AllReadyH.nil
  obtain ⟨z0, z1, z2, z3, hx⟩ := hH0.o0.four
  have kx := hx.cell
  have fx := hx.frozen
  go_simp
  refine hK.out _ _ (hH0.set4 ⟨4, by simp⟩ _ _ _ _) (fun hX => ?_)
  refine stored4 hH0 ⟨4, by simp⟩ hx (fun v1 hH1 hy => ?_)
  clear hK K hX hH0 hx kx fx
  refine wpAnyH_take (i := 3) (v := ?_) rfl (by kernel_rfl) (by kernel_rfl) (by kernel_rfl) (fun _ _ _ h => h) (Or.inl ⟨by rfl, ?_⟩) hH1 ?_
  rotate_left
  · (intro v hSw; go_simp; try with_reducible rfl)
  simp only [Act.put, List.setIfInBounds_toArray, List.set_cons_zero, List.set_cons_succ, List.getElem_toArray, List.getElem_cons_zero, List.getElem_cons_succ]
  refine wpAnyH_done (by kernel_rfl) ?_ _
  have H8 := Lib.hid hH1
  have kr := hy.cell
  go_wp2_with fail
  refine bodyPost_ret (v := .tuple #[.string ⟨#[]⟩, .agg #[.bool u, .int .u64 s, .slice A 0 n, .slice B b.length m], .bool false]) (by simp [results, Try.results8, go_sem, kr]) rfl ⟨rfl, H8.out.below⟩

set_option maxRecDepth 100000 in
set_option maxHeartbeats 4000000 in
theorem kt_none1 (u : Bool) (s : Int) (A B : Option Addr) (n m : Nat) (a : List ByteArray) (w : World) : Calls Try.prog 8 #[.agg #[.bool u, .int .u64 s, .slice A a.length n, .slice B 0 m], .int .i64 1] w fun e w' => e = .returned (.tuple #[.string ⟨#[]⟩, .agg #[.bool u, .int .u64 s, .slice A a.length n, .slice B 0 m], .bool false]) ∧ Below w.heap.size w w' := by
  have H0 := Lib.hid (((Held.refl w).lay [.bool u, .int .u64 s, .slice A a.length n, .slice B 0 m] 26).own [.bool false, .int .u64 0, .slice none 0 0, .slice none 0 0] 26 (n := 4) rfl)
  rw [World.size_alloc] at H0
  go_enter Try.func8, Try.ntmps8
  go_wp2_with fail
  refine (kside_any 1 true rfl _).mono ?_
  rintro e w1 ⟨rfl, hb1⟩
  have H1 := Lib.hid (H0.out.up hb1)
  clear H0 hb1
  have kl := H1.out.b0.cell
  go_wp2_with fail
  clear kl
  refine held_begin (by kernel_rfl) H1.out (fun v0 hH0 => ?_)
  refine wpAnyH_take (i := 0) (v := ?_) rfl (by kernel_rfl) (by kernel_rfl) (by kernel_rfl) (fun _ _ _ h => h) (Or.inl ⟨by rfl, ?_⟩) hH0 ?_
  rotate_left
  · (intro v hSw; have k0 := hSw.b0.cell; go_simp; try with_reducible rfl)
  simp only [Act.put, List.setIfInBounds_toArray, List.set_cons_zero, List.set_cons_succ, List.getElem_toArray, List.getElem_cons_zero]
  refine wpAnyH_take (i := 1) (v := ?_) rfl (by kernel_rfl) (by kernel_rfl) (by kernel_rfl) (fun _ _ _ h => h) (Or.inl ⟨by rfl, ?_⟩) hH0 ?_
  rotate_left
  · (intro v hSw; go_simp; try with_reducible rfl)
  simp only [Act.put, List.setIfInBounds_toArray, List.set_cons_zero, List.set_cons_succ, List.getElem_toArray, List.getElem_cons_zero, List.getElem_cons_succ]
  refine wpAnyH_ready (rs := [2]) (by kernel_rfl) (by simp) ?_
  refine AllReadyH.cons rfl (fun K hK => ?_) AllReadyH.nil
  obtain ⟨z0, z1, z2, z3, hx⟩ := hH0.o0.four
  have kx := hx.cell
  have fx := hx.frozen
  go_simp
  refine hK.out _ _ (hH0.set4 ⟨4, by simp⟩ _ _ _ _) (fun hX => ?_)
  refine stored4 hH0 ⟨4, by simp⟩ hx (fun v1 hH1 hy => ?_)
  clear hK K hX hH0 hx kx fx
  refine wpAnyH_take (i := 3) (v := ?_) rfl (by kernel_rfl) (by kernel_rfl) (by kernel_rfl) (fun _ _ _ h => h) (Or.inl ⟨by rfl, ?_⟩) hH1 ?_
  rotate_left
  · (intro v hSw; go_simp; try with_reducible rfl)
  simp only [Act.put, List.setIfInBounds_toArray, List.set_cons_zero, List.set_cons_succ, List.getElem_toArray, List.getElem_cons_zero, List.getElem_cons_succ]
  refine wpAnyH_done (by kernel_rfl) ?_ _
  have H8 := Lib.hid hH1
  have kr := hy.cell
  go_wp2_with fail
  refine bodyPost_ret (v := .tuple #[.string ⟨#[]⟩, .agg #[.bool u, .int .u64 s, .slice A a.length n, .slice B 0 m], .bool false]) (by simp [results, Try.results8, go_sem, kr]) rfl ⟨rfl, H8.out.below⟩

set_option maxRecDepth 100000 in
set_option maxHeartbeats 4000000 in
theorem kt_0 (u : Bool) (s : Int) (A B : Option Addr) (n m : Nat) (x : ByteArray) (a b : List ByteArray) (w : World) (hk : Lk w ⟨u, s, x :: a, b⟩ A n B m) (hl : a.length ≤ 100000) : Calls Try.prog 8 #[.agg #[.bool u, .int .u64 s, .slice A (x :: a).length n, .slice B b.length m], .int .i64 0] w (GivesK ⟨u, s, a, b⟩ (fun v => .tuple #[.string x, v, .bool true]) w) := by
  obtain ⟨ad, rfl, had0, _⟩ := hk.ea 0 x rfl
  have H0 := Lib.hid (((Held.refl w).own [.bool u, .int .u64 s, .slice (some ad) (x :: a).length n, .slice B b.length m] 26 (n := 4) rfl).own [.bool false, .int .u64 0, .slice none 0 0, .slice none 0 0] 26 (n := 4) rfl)
  have BL0 := Lib.hid ((Box.new w [.bool u, .int .u64 s, .slice (some ad) (x :: a).length n, .slice B b.length m] 26).alloc (.cells ([.bool false, .int .u64 0, .slice none 0 0, .slice none 0 0] : List Value).toArray 26))
  have BR0 := Lib.hid (Box.new2 w (.cells ([.bool u, .int .u64 s, .slice (some ad) (x :: a).length n, .slice B b.length m] : List Value).toArray 26) [.bool false, .int .u64 0, .slice none 0 0, .slice none 0 0] 26)
  rw [World.size_alloc] at H0
  have HK := Lib.hid hk; clear hk
  go_enter Try.func8, Try.ntmps8
  go_wp2_with fail
  refine (kside_any 0 true rfl _).mono ?_
  rintro e w1 ⟨rfl, hb1⟩
  have H1 := Lib.hid (H0.out.up hb1)
  have BL1 := Lib.hid (BL0.out.below hb1)
  have BR1 := Lib.hid (BR0.out.below hb1)
  have P1 := Lib.hid (HK.out.up H1.out.below)
  clear H0 BL0 BR0 hb1
  have hne : (((x :: a).length : Int) == 0) = false := by rw [beq_eq_false_iff_ne]; simp; omega
  have hne2 : ((a.length : Int) + 1 == 0) = false := by rw [beq_eq_false_iff_ne]; omega
  have hc0 : w1.cell? ad = some (.string x) := by
    obtain ⟨ad', e', _, h⟩ := P1.out.ea 0 x rfl
    injection e' with e'
    subst e'
    rw [show ad.add 0 = ad from by unfold Addr.add; rw [if_pos rfl]] at h
    exact h
  have EV := Lib.hid (es_tail HK.out.ea HK.out.la)
  have NV := Lib.hid (tail_none (n := n) (ad := ad) (b := ⟨ad.block, ad.off + 1, none⟩))
  have CV : Hid (a.length ≤ n - 1) := by have h := P1.out.la; simp only [List.length_cons] at h; unfold Hid; omega
  have kl := BL1.out.cell
  have fl := BL1.out.frozen
  go_upto_region 5 with fail
  obtain ⟨A2, hA2⟩ : ∃ A2, (if n = 1 then some ad else some ⟨ad.block, ad.off + 1, none⟩) = A2 := ⟨_, rfl⟩
  obtain ⟨c2, hc2⟩ : ∃ c2, n - 1 = c2 := ⟨_, rfl⟩
  rw [hA2] at EV NV ⊢
  rw [hc2] at NV CV ⊢
  have HF := H1.out.set (b := w.heap.size) ⟨4, by simp⟩ 2 (.slice A2 a.length c2)
  have BL3 := BL1.out.set 2 (.slice A2 a.length c2)
  have HX := Lib.hid (HF.turn.fix (b := w.heap.size) (n := 4) BL3 (by simp))
  generalize w1.setCell ⟨w.heap.size, 2, none⟩ (.slice A2 a.length c2) = w3 at *
  clear HF BL3 BL1 BR1 H1 P1 kl fl hc0 hne hne2 hA2 hc2
  refine held_begin (by kernel_rfl) HX.out (fun v0 hH0 => ?_)
  refine wpAnyH_take (i := 0) (v := ?_) rfl (by kernel_rfl) (by kernel_rfl) (by kernel_rfl) (fun _ _ _ h => h) (Or.inl ⟨by rfl, ?_⟩) hH0 ?_
  rotate_left
  · (intro v hSw; go_simp; try with_reducible rfl)
  simp only [Act.put, List.setIfInBounds_toArray, List.set_cons_zero, List.set_cons_succ, List.getElem_toArray, List.getElem_cons_zero]
  refine wpAnyH_take (i := 1) (v := ?_) rfl (by kernel_rfl) (by kernel_rfl) (by kernel_rfl) (fun _ _ _ h => h) (Or.inl ⟨by rfl, ?_⟩) hH0 ?_
  rotate_left
  · (intro v hSw; have k0 := hSw.b0.cell; go_simp; try with_reducible rfl)
  simp only [Act.put, List.setIfInBounds_toArray, List.set_cons_zero, List.set_cons_succ, List.getElem_toArray, List.getElem_cons_zero, List.getElem_cons_succ]
  refine wpAnyH_take (i := 2) (v := ?_) rfl (by kernel_rfl) (by kernel_rfl) (by kernel_rfl) (fun _ _ _ h => h) (Or.inl ⟨by rfl, ?_⟩) hH0 ?_
  rotate_left
  · (intro v hSw; go_simp; try with_reducible rfl)
  simp only [Act.put, List.setIfInBounds_toArray, List.set_cons_zero, List.set_cons_succ, List.getElem_toArray, List.getElem_cons_zero, List.getElem_cons_succ]
  refine wpAnyH_ready (rs := [3]) (by kernel_rfl) (by simp) ?_
  refine AllReadyH.cons rfl (fun K hK => ?_) AllReadyH.nil
  obtain ⟨z0, z1, z2, z3, hx⟩ := hH0.o0.four
  have kx := hx.cell
  have fx := hx.frozen
  go_simp
  refine hK.out _ _ (hH0.set4 ⟨4, by simp⟩ _ _ _ _) (fun hX => ?_)
  refine stored4 hH0 ⟨4, by simp⟩ hx (fun v1 hH1 hy => ?_)
  clear hK K hX hH0 hx kx fx
  refine wpAnyH_take (i := 4) (v := ?_) rfl (by kernel_rfl) (by kernel_rfl) (by kernel_rfl) (fun _ _ _ h => h) (Or.inl ⟨by rfl, ?_⟩) hH1 ?_
  rotate_left
  · (intro v hSw; go_simp; try with_reducible rfl)
  simp only [Act.put, List.setIfInBounds_toArray, List.set_cons_zero, List.set_cons_succ, List.getElem_toArray, List.getElem_cons_zero, List.getElem_cons_succ]
  refine wpAnyH_done (by kernel_rfl) ?_ _
  have H9 := hH1
  have kr := hy.cell
  go_wp2_with fail
  refine bodyPost_ret (v := .tuple #[.string x, .agg #[.bool u, .int .u64 s, .slice A2 a.length c2, .slice B b.length m], .bool true]) (by simp [results, Try.results8, go_sem, kr]) rfl ?_
  exact ⟨A2, c2, B, m, rfl, ⟨EV.out.up H9.below, HK.out.eb.up H9.below, NV.out, HK.out.nb, CV.out, HK.out.lb⟩, H9.below⟩

set_option maxRecDepth 100000 in
set_option maxHeartbeats 4000000 in
theorem kt_1 (u : Bool) (s : Int) (A B : Option Addr) (n m : Nat) (x : ByteArray) (a b : List ByteArray) (w : World) (hk : Lk w ⟨u, s, a, x :: b⟩ A n B m) (hl : b.length ≤ 100000) : Calls Try.prog 8 #[.agg #[.bool u, .int .u64 s, .slice A a.length n, .slice B (x :: b).length m], .int .i64 1] w (GivesK ⟨u, s, a, b⟩ (fun v => .tuple #[.string x, v, .bool true]) w) := by
  obtain ⟨ad, rfl, had0, _⟩ := hk.eb 0 x rfl
  have H0 := Lib.hid (((Held.refl w).own [.bool u, .int .u64 s, .slice A a.length n, .slice (some ad) (x :: b).length m] 26 (n := 4) rfl).own [.bool false, .int .u64 0, .slice none 0 0, .slice none 0 0] 26 (n := 4) rfl)
  have BL0 := Lib.hid ((Box.new w [.bool u, .int .u64 s, .slice A a.length n, .slice (some ad) (x :: b).length m] 26).alloc (.cells ([.bool false, .int .u64 0, .slice none 0 0, .slice none 0 0] : List Value).toArray 26))
  have BR0 := Lib.hid (Box.new2 w (.cells ([.bool u, .int .u64 s, .slice A a.length n, .slice (some ad) (x :: b).length m] : List Value).toArray 26) [.bool false, .int .u64 0, .slice none 0 0, .slice none 0 0] 26)
  rw [World.size_alloc] at H0
  have HK := Lib.hid hk; clear hk
  go_enter Try.func8, Try.ntmps8
  go_wp2_with fail
  refine (kside_any 1 true rfl _).mono ?_
  rintro e w1 ⟨rfl, hb1⟩
  have H1 := Lib.hid (H0.out.up hb1)
  have BL1 := Lib.hid (BL0.out.below hb1)
  have BR1 := Lib.hid (BR0.out.below hb1)
  have P1 := Lib.hid (HK.out.up H1.out.below)
  clear H0 BL0 BR0 hb1
  have hne : (((x :: b).length : Int) == 0) = false := by rw [beq_eq_false_iff_ne]; simp; omega
  have hne2 : ((b.length : Int) + 1 == 0) = false := by rw [beq_eq_false_iff_ne]; omega
  have hc0 : w1.cell? ad = some (.string x) := by
    obtain ⟨ad', e', _, h⟩ := P1.out.eb 0 x rfl
    injection e' with e'
    subst e'
    rw [show ad.add 0 = ad from by unfold Addr.add; rw [if_pos rfl]] at h
    exact h
  have EV := Lib.hid (es_tail HK.out.eb HK.out.lb)
  have NV := Lib.hid (tail_none (n := m) (ad := ad) (b := ⟨ad.block, ad.off + 1, none⟩))
  have CV : Hid (b.length ≤ m - 1) := by have h := P1.out.lb; simp only [List.length_cons] at h; unfold Hid; omega
  have kl := BL1.out.cell
  have fl := BL1.out.frozen
  go_upto_region 5 with fail
  obtain ⟨A2, hA2⟩ : ∃ A2, (if m = 1 then some ad else some ⟨ad.block, ad.off + 1, none⟩) = A2 := ⟨_, rfl⟩
  obtain ⟨c2, hc2⟩ : ∃ c2, m - 1 = c2 := ⟨_, rfl⟩
  rw [hA2] at EV NV ⊢
  rw [hc2] at NV CV ⊢
  have HF := H1.out.set (b := w.heap.size) ⟨4, by simp⟩ 3 (.slice A2 b.length c2)
  have BL3 := BL1.out.set 3 (.slice A2 b.length c2)
  have HX := Lib.hid (HF.turn.fix (b := w.heap.size) (n := 4) BL3 (by simp))
  generalize w1.setCell ⟨w.heap.size, 3, none⟩ (.slice A2 b.length c2) = w3 at *
  clear HF BL3 BL1 BR1 H1 P1 kl fl hc0 hne hne2 hA2 hc2
  refine held_begin (by kernel_rfl) HX.out (fun v0 hH0 => ?_)
  refine wpAnyH_take (i := 0) (v := ?_) rfl (by kernel_rfl) (by kernel_rfl) (by kernel_rfl) (fun _ _ _ h => h) (Or.inl ⟨by rfl, ?_⟩) hH0 ?_
  rotate_left
  · (intro v hSw; go_simp; try with_reducible rfl)
  simp only [Act.put, List.setIfInBounds_toArray, List.set_cons_zero, List.set_cons_succ, List.getElem_toArray, List.getElem_cons_zero]
  refine wpAnyH_take (i := 1) (v := ?_) rfl (by kernel_rfl) (by kernel_rfl) (by kernel_rfl) (fun _ _ _ h => h) (Or.inl ⟨by rfl, ?_⟩) hH0 ?_
  rotate_left
  · (intro v hSw; have k0 := hSw.b0.cell; go_simp; try with_reducible rfl)
  simp only [Act.put, List.setIfInBounds_toArray, List.set_cons_zero, List.set_cons_succ, List.getElem_toArray, List.getElem_cons_zero, List.getElem_cons_succ]
  refine wpAnyH_take (i := 2) (v := ?_) rfl (by kernel_rfl) (by kernel_rfl) (by kernel_rfl) (fun _ _ _ h => h) (Or.inl ⟨by rfl, ?_⟩) hH0 ?_
  rotate_left
  · (intro v hSw; go_simp; try with_reducible rfl)
  simp only [Act.put, List.setIfInBounds_toArray, List.set_cons_zero, List.set_cons_succ, List.getElem_toArray, List.getElem_cons_zero, List.getElem_cons_succ]
  refine wpAnyH_ready (rs := [3]) (by kernel_rfl) (by simp) ?_
  refine AllReadyH.cons rfl (fun K hK => ?_) AllReadyH.nil
  obtain ⟨z0, z1, z2, z3, hx⟩ := hH0.o0.four
  have kx := hx.cell
  have fx := hx.frozen
  go_simp
  refine hK.out _ _ (hH0.set4 ⟨4, by simp⟩ _ _ _ _) (fun hX => ?_)
  refine stored4 hH0 ⟨4, by simp⟩ hx (fun v1 hH1 hy => ?_)
  clear hK K hX hH0 hx kx fx
  refine wpAnyH_take (i := 4) (v := ?_) rfl (by kernel_rfl) (by kernel_rfl) (by kernel_rfl) (fun _ _ _ h => h) (Or.inl ⟨by rfl, ?_⟩) hH1 ?_
  rotate_left
  · (intro v hSw; go_simp; try with_reducible rfl)
  simp only [Act.put, List.setIfInBounds_toArray, List.set_cons_zero, List.set_cons_succ, List.getElem_toArray, List.getElem_cons_zero, List.getElem_cons_succ]
  refine wpAnyH_done (by kernel_rfl) ?_ _
  have H9 := hH1
  have kr := hy.cell
  go_wp2_with fail
  refine bodyPost_ret (v := .tuple #[.string x, .agg #[.bool u, .int .u64 s, .slice A a.length n, .slice A2 b.length c2], .bool true]) (by simp [results, Try.results8, go_sem, kr]) rfl ?_
  exact ⟨A, n, A2, c2, rfl, ⟨HK.out.ea.up H9.below, EV.out.up H9.below, HK.out.na, NV.out, HK.out.la, CV.out⟩, H9.below⟩

theorem ktake_any (x : Lnk) (A B : Option Addr) (n m : Nat) (g : Int) (w : World) (hk : Lk w x A n B m) (hl : x.a.length ≤ 100000) (hl2 : x.b.length ≤ 100000) :
    Calls Try.prog 8 #[lkV x A n B m, .int .i64 g] w (GivesK (x.taken g) (fun v => .tuple #[.string (x.first g), v, .bool (x.takes g)]) w) := by
  obtain ⟨u, s, a, b⟩ := x
  by_cases h0 : g = 0
  · subst h0
    cases a with
    | nil =>
      have e : Lnk.takes ⟨u, s, [], b⟩ 0 = false := rfl
      unfold Lnk.taken Lnk.first
      rw [e]
      exact (kt_none0 u s A B n m b w).mono fun e w' h => ⟨A, n, B, m, h.1, hk.up h.2, h.2⟩
    | cons y t => exact kt_0 u s A B n m y t b w hk (by simp at hl; omega)
  · by_cases h1 : g = 1
    · subst h1
      cases b with
      | nil =>
        have e : Lnk.takes ⟨u, s, a, []⟩ 1 = false := rfl
        unfold Lnk.taken Lnk.first
        rw [e]
        exact (kt_none1 u s A B n m a w).mono fun e w' h => ⟨A, n, B, m, h.1, hk.up h.2, h.2⟩
      | cons y t => exact kt_1 u s A B n m y a t w hk (by simp at hl2; omega)
    · have e1 : isSide g = false := by unfold isSide; simp [h0, h1]
      have e : Lnk.takes ⟨u, s, a, b⟩ g = false := by unfold Lnk.takes; rw [e1]; rfl
      unfold Lnk.taken Lnk.first
      rw [e]
      exact (kt_arg u s A B n m a b g e1 w).mono fun e w' h => ⟨A, n, B, m, h.1, hk.up h.2, h.2⟩
end Go.Proofs.Ytbjbdlgbppanmaa
