/- Links: what Take of the document answers. Under: lists of up to a hundred thousand texts. -/
import Derived.Test.YtbjbdlgbppanmaaYC
namespace Go.Proofs.Ytbjbdlgbppanmaa
open Go.RowKit

theorem held_startC2 {P : Program} {ops : Array Oper} {Q : Exit → Act → World → Prop} {S : World → Prop} {w : World} {id : Nat} {a : Act} (hm : P.follows .mixedOrders = true) (hS : S w.drew)
    (H : ∀ v, v = w.drew → S v → wpAnyH P .any ops Q S ops.size (Array.replicate ops.size false) a v) : (Code.region id ops true).wp P Q a w :=
  wp_region_held_drew hm hS (fun h => H _ rfl h)

theorem mem_turn {α : Type} {x y z : α} (h : z ∈ [y, x]) : z ∈ [x, y] := by
  simp only [List.mem_cons, List.not_mem_nil, or_false] at h ⊢
  exact h.symm
theorem Held.turn {W0 w : World} {L : List (Nat × List Value)} {x y : Nat × Nat} (h : Held W0 L [x, y] w) : Held W0 L [y, x] w :=
  ⟨h.below, h.boxs, fun z hz => h.owns z (mem_turn hz), fun z hz => h.high z (mem_turn hz), fun b hb z hz => h.apart b hb z (mem_turn hz)⟩

theorem own_drew {w v : World} {base size n : Nat} {e : TypeId} {u : Value} {xs : List Value} (h : w.ownsRow base e size u n xs) (hv : v = w.drew) : v.ownsRow base e size u n xs := by
  subst hv
  exact h

set_option maxRecDepth 100000 in
set_option maxHeartbeats 4000000 in
theorem rkt_arg (u : Bool) (s : Int) (A B : Option Addr) (n m : Nat) (a b : List ByteArray) (g : Int) (h0 : g ≠ 0) (h1 : g ≠ 1) (w : World) : Calls Try.prog 9 #[.agg #[.bool u, .int .u64 s, .slice A a.length n, .slice B b.length m], .int .i64 g] w fun e w' => e = .returned (.tuple #[.string ⟨#[]⟩, .agg #[.bool u, .int .u64 s, .slice A a.length n, .slice B b.length m], .bool false]) ∧ Below w.heap.size w w' := by
  have e0 : (g != 0) = true := bne_iff_ne.2 h0
  have e1 : (g != 1) = true := bne_iff_ne.2 h1
  clear h0 h1
  have H0 := Lib.hid (((Held.refl w).lay [.bool u, .int .u64 s, .slice A a.length n, .slice B b.length m] 26).own [.bool false, .int .u64 0, .slice none 0 0, .slice none 0 0] 26 (n := 4) rfl)
  rw [World.size_alloc] at H0
  have kl := ((Box.new w [.bool u, .int .u64 s, .slice A a.length n, .slice B b.length m] 26).alloc (.cells ([.bool false, .int .u64 0, .slice none 0 0, .slice none 0 0] : List Value).toArray 26)).cell
  go_enter Try.func9, Try.ntmps9
  go_wp2_with fail
  refine held_begin (by kernel_rfl) H0.out (fun v0 hH0 => ?_)
  refine wpAnyH_take (i := 0) (v := ?_) rfl (by kernel_rfl) (by kernel_rfl) (by kernel_rfl) (fun _ _ _ h => h) (Or.inl ⟨by rfl, ?_⟩) hH0 ?_
  rotate_left
  · (intro v hSw; have k0 := hSw.b0.cell; go_simp; try with_reducible rfl)
  simp only [Act.put, List.setIfInBounds_toArray, List.set_cons_zero, List.set_cons_succ, List.getElem_toArray, List.getElem_cons_zero]
  refine wpAnyH_take (i := 1) (v := ?_) rfl (by kernel_rfl) (by kernel_rfl) (by kernel_rfl) (fun _ _ _ h => h) (Or.inl ⟨by rfl, ?_⟩) hH0 ?_
  rotate_left
  · (intro v hSw; go_simp; try with_reducible rfl)
  simp only [Act.put, List.setIfInBounds_toArray, List.set_cons_zero, List.set_cons_succ, List.getElem_toArray, List.getElem_cons_zero, List.getElem_cons_succ]
  refine wpAnyH_ready (rs := [2]) (by kernel_rfl) (by simp) ?_
  refine AllReadyH.cons rfl (fun K hK => ?_) AllReadyH.nil
  obtain ⟨z0, z1, z2, z3, hx⟩ := hH0.o0.four
  have kx := hx.cell
  have fx := hx.frozen
  go_simp
  refine hK.out _ _ (hH0.set4 ⟨4, by simp⟩ _ _ _ _) (fun hX => ?_)
  refine stored4 hH0 ⟨4, by simp⟩ hx (fun v1 hH1 hy => ?_)
  clear hK K hX hH0 hx kx fx
  refine wpAnyH_take (i := 3) (v := ?_) rfl (by kernel_rfl) (by kernel_rfl) (by kernel_rfl) (fun _ _ _ h => h) (Or.inl ⟨by rfl, ?_⟩) hH1 ?_
  rotate_left
  · (intro v hSw; go_simp; try with_reducible rfl)
  simp only [Act.put, List.setIfInBounds_toArray, List.set_cons_zero, List.set_cons_succ, List.getElem_toArray, List.getElem_cons_zero, List.getElem_cons_succ]
  refine wpAnyH_done (by kernel_rfl) ?_ _
  have H8 := Lib.hid hH1
  have kr := hy.cell
  go_wp2_with fail
  refine bodyPost_ret (v := .tuple #[.string ⟨#[]⟩, .agg #[.bool u, .int .u64 s, .slice A a.length n, .slice B b.length m], .bool false]) (by simp [results, Try.results9, go_sem, kr]) rfl ⟨rfl, H8.out.below⟩

set_option maxRecDepth 100000 in
set_option maxHeartbeats 4000000 in
theorem rkt_none0 (u : Bool) (s : Int) (A B : Option Addr) (n m : Nat) (b : List ByteArray) (w : World) : Calls Try.prog 9 #[.agg #[.bool u, .int .u64 s, .slice A 0 n, .slice B b.length m], .int .i64 0] w fun e w' => e = .returned (.tuple #[.string ⟨#[]⟩, .agg #[.bool u, .int .u64 s, .slice A 0 n, .slice B b.length m], .bool false]) ∧ Below w.heap.size w w' := by
  have H0 := Lib.hid (((Held.refl w).lay [.bool u, .int .u64 s, .slice A 0 n, .slice B b.length m] 26).own [.bool false, .int .u64 0, .slice none 0 0, .slice none 0 0] 26 (n := 4) rfl)
  rw [World.size_alloc] at H0
  have kl := ((Box.new w [.bool u, .int .u64 s, .slice A 0 n, .slice B b.length m] 26).alloc (.cells ([.bool false, .int .u64 0, .slice none 0 0, .slice none 0 0] : List Value).toArray 26)).cell
  go_enter Try.func9, Try.ntmps9
  go_wp2_with fail
  refine held_begin (by kernel_rfl) H0.out (fun v0 hH0 => ?_)
  refine wpAnyH_take (i := 0) (v := ?_) rfl (by kernel_rfl) (by kernel_rfl) (by kernel_rfl) (fun _ _ _ h => h) (Or.inl ⟨by rfl, ?_⟩) hH0 ?_
  rotate_left
  · (intro v hSw; have k0 := hSw.b0.cell; go_simp; try with_reducible rfl)
  simp only [Act.put, List.setIfInBounds_toArray, List.set_cons_zero, List.set_cons_succ, List.getElem_toArray, List.getElem_cons_zero]
  refine wpAnyH_take (i := 1) (v := ?_) rfl (by kernel_rfl) (by kernel_rfl) (by kernel_rfl) (fun _ _ _ h => h) (Or.inl ⟨by rfl, ?_⟩) hH0 ?_
  rotate_left
  · (intro v hSw; go_simp; try with_reducible rfl)
  simp only [Act.put, List.setIfInBounds_toArray, List.set_cons_zero, List.set_cons_succ, List.getElem_toArray, List.getElem_cons_zero, List.getElem_cons_succ]
  refine wpAnyH_ready (rs := [2]) (by kernel_rfl) (by simp) ?_
  refine AllReadyH.cons rfl (fun K hK => ?_) AllReadyH.nil
  obtain ⟨z0, z1, z2, z3, hx⟩ := hH0.o0.four
  have kx := hx.cell
  have fx := hx.frozen
  go_simp
  refine hK.out _ _ (hH0.set4 ⟨4, by simp⟩ _ _ _ _) (fun hX => ?_)
  refine stored4 hH0 ⟨4, by simp⟩ hx (fun v1 hH1 hy => ?_)
  clear hK K hX hH0 hx kx fx
  refine wpAnyH_take (i := 3) (v := ?_) rfl (by kernel_rfl) (by kernel_rfl) (by kernel_rfl) (fun _ _ _ h => h) (Or.inl ⟨by rfl, ?_⟩) hH1 ?_
  rotate_left
  · (intro v hSw; go_simp; try with_reducible rfl)
  simp only [Act.put, List.setIfInBounds_toArray, List.set_cons_zero, List.set_cons_succ, List.getElem_toArray, List.getElem_cons_zero, List.getElem_cons_succ]
  refine wpAnyH_done (by kernel_rfl) ?_ _
  have H8 := Lib.hid hH1
  have kr := hy.cell
  go_wp2_with fail
  refine bodyPost_ret (v := .tuple #[.string ⟨#[]⟩, .agg #[.bool u, .int .u64 s, .slice A 0 n, .slice B b.length m], .bool false]) (by simp [results, Try.results9, go_sem, kr]) rfl ⟨rfl, H8.out.below⟩

set_option maxRecDepth 100000 in
set_option maxHeartbeats 4000000 in
theorem rkt_none1 (u : Bool) (s : Int) (A B : Option Addr) (n m : Nat) (a : List ByteArray) (w : World) : Calls Try.prog 9 #[.agg #[.bool u, .int .u64 s, .slice A a.length n, .slice B 0 m], .int .i64 1] w fun e w' => e = .returned (.tuple #[.string ⟨#[]⟩, .agg #[.bool u, .int .u64 s, .slice A a.length n, .slice B 0 m], .bool false]) ∧ Below w.heap.size w w' := by
  have H0 := Lib.hid (((Held.refl w).lay [.bool u, .int .u64 s, .slice A a.length n, .slice B 0 m] 26).own [.bool false, .int .u64 0, .slice none 0 0, .slice none 0 0] 26 (n := 4) rfl)
  rw [World.size_alloc] at H0
  have kl := ((Box.new w [.bool u, .int .u64 s, .slice A a.length n, .slice B 0 m] 26).alloc (.cells ([.bool false, .int .u64 0, .slice none 0 0, .slice none 0 0] : List Value).toArray 26)).cell
  go_enter Try.func9, Try.ntmps9
  go_wp2_with fail
  refine held_begin (by kernel_rfl) H0.out (fun v0 hH0 => ?_)
  refine wpAnyH_take (i := 0) (v := ?_) rfl (by kernel_rfl) (by kernel_rfl) (by kernel_rfl) (fun _ _ _ h => h) (Or.inl ⟨by rfl, ?_⟩) hH0 ?_
  rotate_left
  · (intro v hSw; have k0 := hSw.b0.cell; go_simp; try with_reducible rfl)
  simp only [Act.put, List.setIfInBounds_toArray, List.set_cons_zero, List.set_cons_succ, List.getElem_toArray, List.getElem_cons_zero]
  refine wpAnyH_take (i := 1) (v := ?_) rfl (by kernel_rfl) (by kernel_rfl) (by kernel_rfl) (fun _ _ _ h => h) (Or.inl ⟨by rfl, ?_⟩) hH0 ?_
  rotate_left
  · (intro v hSw; go_simp; try with_reducible rfl)
  simp only [Act.put, List.setIfInBounds_toArray, List.set_cons_zero, List.set_cons_succ, List.getElem_toArray, List.getElem_cons_zero, List.getElem_cons_succ]
  refine wpAnyH_ready (rs := [2]) (by kernel_rfl) (by simp) ?_
  refine AllReadyH.cons rfl (fun K hK => ?_) AllReadyH.nil
  obtain ⟨z0, z1, z2, z3, hx⟩ := hH0.o0.four
  have kx := hx.cell
  have fx := hx.frozen
  go_simp
  refine hK.out _ _ (hH0.set4 ⟨4, by simp⟩ _ _ _ _) (fun hX => ?_)
  refine stored4 hH0 ⟨4, by simp⟩ hx (fun v1 hH1 hy => ?_)
  clear hK K hX hH0 hx kx fx
  refine wpAnyH_take (i := 3) (v := ?_) rfl (by kernel_rfl) (by kernel_rfl) (by kernel_rfl) (fun _ _ _ h => h) (Or.inl ⟨by rfl, ?_⟩) hH1 ?_
  rotate_left
  · (intro v hSw; go_simp; try with_reducible rfl)
  simp only [Act.put, List.setIfInBounds_toArray, List.set_cons_zero, List.set_cons_succ, List.getElem_toArray, List.getElem_cons_zero, List.getElem_cons_succ]
  refine wpAnyH_done (by kernel_rfl) ?_ _
  have H8 := Lib.hid hH1
  have kr := hy.cell
  go_wp2_with fail
  refine bodyPost_ret (v := .tuple #[.string ⟨#[]⟩, .agg #[.bool u, .int .u64 s, .slice A a.length n, .slice B 0 m], .bool false]) (by simp [results, Try.results9, go_sem, kr]) rfl ⟨rfl, H8.out.below⟩

set_option maxRecDepth 100000 in
set_option maxHeartbeats 4000000 in
theorem rkt_0 (u : Bool) (s : Int) (A B : Option Addr) (n m : Nat) (x : ByteArray) (a b : List ByteArray) (w : World) (hk : Lk w ⟨u, s, x :: a, b⟩ A n B m) (hl : a.length ≤ 100000) : Calls Try.prog 9 #[.agg #[.bool u, .int .u64 s, .slice A (x :: a).length n, .slice B b.length m], .int .i64 0] w (GivesK ⟨u, s, a, b⟩ (fun v => .tuple #[.string x, v, .bool true]) w) := by
  have H0 := Lib.hid (((Held.refl w).own [.bool u, .int .u64 s, .slice A (x :: a).length n, .slice B b.length m] 26 (n := 4) rfl).own [.bool false, .int .u64 0, .slice none 0 0, .slice none 0 0] 26 (n := 4) rfl)
  have BL0 := Lib.hid ((Box.new w [.bool u, .int .u64 s, .slice A (x :: a).length n, .slice B b.length m] 26).alloc (.cells ([.bool false, .int .u64 0, .slice none 0 0, .slice none 0 0] : List Value).toArray 26))
  have BR0 := Lib.hid (Box.new2 w (.cells ([.bool u, .int .u64 s, .slice A (x :: a).length n, .slice B b.length m] : List Value).toArray 26) [.bool false, .int .u64 0, .slice none 0 0, .slice none 0 0] 26)
  rw [World.size_alloc] at H0
  have P0 := Lib.hid ((hk.alloc (.cells ([.bool u, .int .u64 s, .slice A (x :: a).length n, .slice B b.length m] : List Value).toArray 26)).alloc (.cells ([.bool false, .int .u64 0, .slice none 0 0, .slice none 0 0] : List Value).toArray 26))
  have HK := Lib.hid hk; clear hk
  have hne : (((x :: a).length : Int) == 0) = false := by rw [beq_eq_false_iff_ne]; simp; omega
  have hne2 : ((a.length : Int) + 1 == 0) = false := by rw [beq_eq_false_iff_ne]; omega
  obtain ⟨ad, rfl, had, hc0⟩ := P0.out.ea 0 x rfl
  rw [show ad.add 0 = ad from by unfold Addr.add; rw [if_pos rfl]] at hc0
  have kl := BL0.out.cell
  go_enter Try.func9, Try.ntmps9
  go_upto_region 3 with fail
  generalize (w.alloc (.cells #[.bool u, .int .u64 s, .slice (some ad) (x :: a).length n, .slice B b.length m] 26)).alloc (.cells #[.bool false, .int .u64 0, .slice none 0 0, .slice none 0 0] 26) = W at *
  have kl := BL0.out.cell
  go_upto_region 4 with fail
  have kl := (BL0.out.alloc (.cells #[] 9)).cell
  have ET := Lib.hid (es_tail P0.out.ea P0.out.la)
  have NT := Lib.hid (tail_none (n := n) (ad := ad) (b := ⟨ad.block, ad.off + 1, none⟩))
  obtain ⟨AT, hAT⟩ : ∃ AT, (if n = 1 then some ad else some ⟨ad.block, ad.off + 1, none⟩) = AT := ⟨_, rfl⟩
  rw [hAT] at ET NT
  go_wp2_with (at_builtin; refine app_txts rfl _ _ rfl _ W.heap.size ?c1 _ [] rfl ?c2 AT (n - 1) a ?c3 rfl ?c4 ?c5 ?_)
  case c1 => simp
  case c2 => exact own_zero W _ (Nat.le_refl _)
  case c3 => exact NT.out
  case c4 => exact ET.out.up below1
  case c5 => simp; omega
  intro v2 w2 hown2 hb2
  have hB2 : Below W.heap.size W w2 := (below1 (o := .cells #[] 9)).trans hb2
  clear hb2 kl hc0 had hne hAT ET NT
  obtain ⟨A2, c2, rfl, hA2, _⟩ := own_es hown2
  have HO := Lib.hid hown2; clear hown2 hl
  have hpl : w.heap.size < W.heap.size := BL0.out.lt
  have hpr : w.heap.size + 1 < W.heap.size := BR0.out.lt
  have H2 := Lib.hid (H0.out.up hB2)
  have BL2 := Lib.hid (BL0.out.below hB2)
  have BR2 := Lib.hid (BR0.out.below hB2)
  clear hB2 H0 BL0 BR0 P0
  have kl := BL2.out.cell
  have fl := BL2.out.frozen
  have kr := BR2.out.cell
  have fr := BR2.out.frozen
  go_upto_region 5 with fail
  have HF := Lib.hid (H2.out.set (b := w.heap.size) ⟨4, by simp⟩ 2 (.slice A2 a.length c2))
  have HQ := Lib.hid (own_past HO.out hpl 2 (.slice A2 a.length c2))
  have BL3 := Lib.hid (BL2.out.set 2 (.slice A2 a.length c2))
  generalize w2.setCell ⟨w.heap.size, 2, none⟩ (.slice A2 a.length c2) = w3 at *
  clear HO H2 BL2 BR2 kl fl kr fr
  have HX := Lib.hid (HF.out.turn.fix (b := w.heap.size) (n := 4) BL3.out (by simp))
  clear HF BL3
  refine held_startC2 (S := Held w [(w.heap.size, [.bool u, .int .u64 s, .slice A2 a.length c2, .slice B b.length m])] [(w.heap.size + 1, 4)]) (by kernel_rfl) HX.out.drew (fun v0 hv0 hH0 => ?_)
  have HV := Lib.hid (own_drew HQ.out hv0)
  clear hv0 HX HQ
  refine wpAnyH_take (i := 0) (v := ?_) rfl (by kernel_rfl) (by kernel_rfl) (by kernel_rfl) (fun _ _ _ h => h) (Or.inl ⟨by rfl, ?_⟩) hH0 ?_
  rotate_left
  · (intro v hSw; go_simp; try with_reducible rfl)
  simp only [Act.put, List.setIfInBounds_toArray, List.set_cons_zero, List.set_cons_succ, List.getElem_toArray, List.getElem_cons_zero]
  refine wpAnyH_take (i := 1) (v := ?_) rfl (by kernel_rfl) (by kernel_rfl) (by kernel_rfl) (fun _ _ _ h => h) (Or.inl ⟨by rfl, ?_⟩) hH0 ?_
  rotate_left
  · (intro v hSw; have k0 := hSw.b0.cell; go_simp; try with_reducible rfl)
  simp only [Act.put, List.setIfInBounds_toArray, List.set_cons_zero, List.set_cons_succ, List.getElem_toArray, List.getElem_cons_zero, List.getElem_cons_succ]
  refine wpAnyH_take (i := 2) (v := ?_) rfl (by kernel_rfl) (by kernel_rfl) (by kernel_rfl) (fun _ _ _ h => h) (Or.inl ⟨by rfl, ?_⟩) hH0 ?_
  rotate_left
  · (intro v hSw; go_simp; try with_reducible rfl)
  simp only [Act.put, List.setIfInBounds_toArray, List.set_cons_zero, List.set_cons_succ, List.getElem_toArray, List.getElem_cons_zero, List.getElem_cons_succ]
  refine wpAnyH_ready (rs := [3]) (by kernel_rfl) (by simp) ?_
  refine AllReadyH.cons rfl (fun K hK => ?_) AllReadyH.nil
  obtain ⟨z0, z1, z2, z3, hx⟩ := hH0.o0.four
  have kx := hx.cell
  have fx := hx.frozen
  go_simp
  refine hK.out _ _ (hH0.set4 (b := w.heap.size + 1) ⟨4, by simp⟩ _ _ _ _) (fun hH1 => ?_)
  have hy := hx.four (.bool u) (.int .u64 s) (.slice A2 a.length c2) (.slice B b.length m)
  have HR := own_past (own_past (own_past (own_past HV.out hpr 0 (.bool u)) hpr 1 (.int .u64 s)) hpr 2 (.slice A2 a.length c2)) hpr 3 (.slice B b.length m)
  clear hK K hH0 hx kx fx
  refine wpAnyH_take (i := 4) (v := ?_) rfl (by kernel_rfl) (by kernel_rfl) (by kernel_rfl) (fun _ _ _ h => h) (Or.inl ⟨by rfl, ?_⟩) hH1 ?_
  rotate_left
  · (intro v hSw; go_simp; try with_reducible rfl)
  simp only [Act.put, List.setIfInBounds_toArray, List.set_cons_zero, List.set_cons_succ, List.getElem_toArray, List.getElem_cons_zero, List.getElem_cons_succ]
  refine wpAnyH_done (by kernel_rfl) ?_ _
  have H9 := hH1
  have kr := hy.cell
  go_wp2_with fail
  refine bodyPost_ret (v := .tuple #[.string x, .agg #[.bool u, .int .u64 s, .slice A2 a.length c2, .slice B b.length m], .bool true]) (by simp [results, Try.results9, go_sem, kr]) rfl ?_
  have hq := es_of_own HR
  exact ⟨A2, c2, B, m, rfl, ⟨hq.1, HK.out.eb.up H9.below, hq.2.1, HK.out.nb, hq.2.2, HK.out.lb⟩, H9.below⟩

set_option maxRecDepth 100000 in
set_option maxHeartbeats 4000000 in
theorem rkt_1 (u : Bool) (s : Int) (A B : Option Addr) (n m : Nat) (x : ByteArray) (a b : List ByteArray) (w : World) (hk : Lk w ⟨u, s, a, x :: b⟩ A n B m) (hl : b.length ≤ 100000) : Calls Try.prog 9 #[.agg #[.bool u, .int .u64 s, .slice A a.length n, .slice B (x :: b).length m], .int .i64 1] w (GivesK ⟨u, s, a, b⟩ (fun v => .tuple #[.string x, v, .bool true]) w) := by
  have H0 := Lib.hid (((Held.refl w).own [.bool u, .int .u64 s, .slice A a.length n, .slice B (x :: b).length m] 26 (n := 4) rfl).own [.bool false, .int .u64 0, .slice none 0 0, .slice none 0 0] 26 (n := 4) rfl)
  have BL0 := Lib.hid ((Box.new w [.bool u, .int .u64 s, .slice A a.length n, .slice B (x :: b).length m] 26).alloc (.cells ([.bool false, .int .u64 0, .slice none 0 0, .slice none 0 0] : List Value).toArray 26))
  have BR0 := Lib.hid (Box.new2 w (.cells ([.bool u, .int .u64 s, .slice A a.length n, .slice B (x :: b).length m] : List Value).toArray 26) [.bool false, .int .u64 0, .slice none 0 0, .slice none 0 0] 26)
  rw [World.size_alloc] at H0
  have P0 := Lib.hid ((hk.alloc (.cells ([.bool u, .int .u64 s, .slice A a.length n, .slice B (x :: b).length m] : List Value).toArray 26)).alloc (.cells ([.bool false, .int .u64 0, .slice none 0 0, .slice none 0 0] : List Value).toArray 26))
  have HK := Lib.hid hk; clear hk
  have hne : (((x :: b).length : Int) == 0) = false := by rw [beq_eq_false_iff_ne]; simp; omega
  have hne2 : ((b.length : Int) + 1 == 0) = false := by rw [beq_eq_false_iff_ne]; omega
  obtain ⟨ad, rfl, had, hc0⟩ := P0.out.eb 0 x rfl
  rw [show ad.add 0 = ad from by unfold Addr.add; rw [if_pos rfl]] at hc0
  have kl := BL0.out.cell
  go_enter Try.func9, Try.ntmps9
  go_upto_region 3 with fail
  generalize (w.alloc (.cells #[.bool u, .int .u64 s, .slice A a.length n, .slice (some ad) (x :: b).length m] 26)).alloc (.cells #[.bool false, .int .u64 0, .slice none 0 0, .slice none 0 0] 26) = W at *
  have kl := BL0.out.cell
  go_upto_region 4 with fail
  have kl := (BL0.out.alloc (.cells #[] 9)).cell
  have ET := Lib.hid (es_tail P0.out.eb P0.out.lb)
  have NT := Lib.hid (tail_none (n := m) (ad := ad) (b := ⟨ad.block, ad.off + 1, none⟩))
  obtain ⟨AT, hAT⟩ : ∃ AT, (if m = 1 then some ad else some ⟨ad.block, ad.off + 1, none⟩) = AT := ⟨_, rfl⟩
  rw [hAT] at ET NT
  go_wp2_with (at_builtin; refine app_txts rfl _ _ rfl _ W.heap.size ?c1 _ [] rfl ?c2 AT (m - 1) b ?c3 rfl ?c4 ?c5 ?_)
  case c1 => simp
  case c2 => exact own_zero W _ (Nat.le_refl _)
  case c3 => exact NT.out
  case c4 => exact ET.out.up below1
  case c5 => simp; omega
  intro v2 w2 hown2 hb2
  have hB2 : Below W.heap.size W w2 := (below1 (o := .cells #[] 9)).trans hb2
  clear hb2 kl hc0 had hne hAT ET NT
  obtain ⟨A2, c2, rfl, hA2, _⟩ := own_es hown2
  have HO := Lib.hid hown2; clear hown2 hl
  have hpl : w.heap.size < W.heap.size := BL0.out.lt
  have hpr : w.heap.size + 1 < W.heap.size := BR0.out.lt
  have H2 := Lib.hid (H0.out.up hB2)
  have BL2 := Lib.hid (BL0.out.below hB2)
  have BR2 := Lib.hid (BR0.out.below hB2)
  clear hB2 H0 BL0 BR0 P0
  have kl := BL2.out.cell
  have fl := BL2.out.frozen
  have kr := BR2.out.cell
  have fr := BR2.out.frozen
  go_upto_region 5 with fail
  have HF := Lib.hid (H2.out.set (b := w.heap.size) ⟨4, by simp⟩ 3 (.slice A2 b.length c2))
  have HQ := Lib.hid (own_past HO.out hpl 3 (.slice A2 b.length c2))
  have BL3 := Lib.hid (BL2.out.set 3 (.slice A2 b.length c2))
  generalize w2.setCell ⟨w.heap.size, 3, none⟩ (.slice A2 b.length c2) = w3 at *
  clear HO H2 BL2 BR2 kl fl kr fr
  have HX := Lib.hid (HF.out.turn.fix (b := w.heap.size) (n := 4) BL3.out (by simp))
  clear HF BL3
  refine held_startC2 (S := Held w [(w.heap.size, [.bool u, .int .u64 s, .slice A a.length n, .slice A2 b.length c2])] [(w.heap.size + 1, 4)]) (by kernel_rfl) HX.out.drew (fun v0 hv0 hH0 => ?_)
  have HV := Lib.hid (own_drew HQ.out hv0)
  clear hv0 HX HQ
  refine wpAnyH_take (i := 0) (v := ?_) rfl (by kernel_rfl) (by kernel_rfl) (by kernel_rfl) (fun _ _ _ h => h) (Or.inl ⟨by rfl, ?_⟩) hH0 ?_
  rotate_left
  · (intro v hSw; go_simp; try with_reducible rfl)
  simp only [Act.put, List.setIfInBounds_toArray, List.set_cons_zero, List.set_cons_succ, List.getElem_toArray, List.getElem_cons_zero]
  refine wpAnyH_take (i := 1) (v := ?_) rfl (by kernel_rfl) (by kernel_rfl) (by kernel_rfl) (fun _ _ _ h => h) (Or.inl ⟨by rfl, ?_⟩) hH0 ?_
  rotate_left
  · (intro v hSw; have k0 := hSw.b0.cell; go_simp; try with_reducible rfl)
  simp only [Act.put, List.setIfInBounds_toArray, List.set_cons_zero, List.set_cons_succ, List.getElem_toArray, List.getElem_cons_zero, List.getElem_cons_succ]
  refine wpAnyH_take (i := 2) (v := ?_) rfl (by kernel_rfl) (by kernel_rfl) (by kernel_rfl) (fun _ _ _ h => h) (Or.inl ⟨by rfl, ?_⟩) hH0 ?_
  rotate_left
  · (intro v hSw; go_simp; try with_reducible rfl)
  simp only [Act.put, List.setIfInBounds_toArray, List.set_cons_zero, List.set_cons_succ, List.getElem_toArray, List.getElem_cons_zero, List.getElem_cons_succ]
  refine wpAnyH_ready (rs := [3]) (by kernel_rfl) (by simp) ?_
  refine AllReadyH.cons rfl (fun K hK => ?_) AllReadyH.nil
  obtain ⟨z0, z1, z2, z3, hx⟩ := hH0.o0.four
  have kx := hx.cell
  have fx := hx.frozen
  go_simp
  refine hK.out _ _ (hH0.set4 (b := w.heap.size + 1) ⟨4, by simp⟩ _ _ _ _) (fun hH1 => ?_)
  have hy := hx.four (.bool u) (.int .u64 s) (.slice A a.length n) (.slice A2 b.length c2)
  have HR := own_past (own_past (own_past (own_past HV.out hpr 0 (.bool u)) hpr 1 (.int .u64 s)) hpr 2 (.slice A a.length n)) hpr 3 (.slice A2 b.length c2)
  clear hK K hH0 hx kx fx
  refine wpAnyH_take (i := 4) (v := ?_) rfl (by kernel_rfl) (by kernel_rfl) (by kernel_rfl) (fun _ _ _ h => h) (Or.inl ⟨by rfl, ?_⟩) hH1 ?_
  rotate_left
  · (intro v hSw; go_simp; try with_reducible rfl)
  simp only [Act.put, List.setIfInBounds_toArray, List.set_cons_zero, List.set_cons_succ, List.getElem_toArray, List.getElem_cons_zero, List.getElem_cons_succ]
  refine wpAnyH_done (by kernel_rfl) ?_ _
  have H9 := hH1
  have kr := hy.cell
  go_wp2_with fail
  refine bodyPost_ret (v := .tuple #[.string x, .agg #[.bool u, .int .u64 s, .slice A a.length n, .slice A2 b.length c2], .bool true]) (by simp [results, Try.results9, go_sem, kr]) rfl ?_
  have hq := es_of_own HR
  exact ⟨A, n, A2, c2, rfl, ⟨HK.out.ea.up H9.below, hq.1, HK.out.na, hq.2.1, HK.out.la, hq.2.2⟩, H9.below⟩

theorem rktake_any (x : Lnk) (A B : Option Addr) (n m : Nat) (g : Int) (w : World) (hk : Lk w x A n B m) (hl : x.a.length ≤ 100000) (hl2 : x.b.length ≤ 100000) :
    Calls Try.prog 9 #[lkV x A n B m, .int .i64 g] w (GivesK (x.taken g) (fun v => .tuple #[.string (x.first g), v, .bool (x.takes g)]) w) := by
  obtain ⟨u, s, a, b⟩ := x
  by_cases h0 : g = 0
  · subst h0
    cases a with
    | nil =>
      have e : Lnk.takes ⟨u, s, [], b⟩ 0 = false := rfl
      unfold Lnk.taken Lnk.first
      rw [e]
      exact (rkt_none0 u s A B n m b w).mono fun e w' h => ⟨A, n, B, m, h.1, hk.up h.2, h.2⟩
    | cons y t => exact rkt_0 u s A B n m y t b w hk (by simp at hl; omega)
  · by_cases h1 : g = 1
    · subst h1
      cases b with
      | nil =>
        have e : Lnk.takes ⟨u, s, a, []⟩ 1 = false := rfl
        unfold Lnk.taken Lnk.first
        rw [e]
        exact (rkt_none1 u s A B n m a w).mono fun e w' h => ⟨A, n, B, m, h.1, hk.up h.2, h.2⟩
      | cons y t => exact rkt_1 u s A B n m y a t w hk (by simp at hl2; omega)
    · have e : Lnk.takes ⟨u, s, a, b⟩ g = false := by unfold Lnk.takes isSide; simp [h0, h1]
      unfold Lnk.taken Lnk.first
      rw [e]
      exact (rkt_arg u s A B n m a b g h0 h1 w).mono fun e w' h => ⟨A, n, B, m, h.1, hk.up h.2, h.2⟩
end Go.Proofs.Ytbjbdlgbppanmaa
