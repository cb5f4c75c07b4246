/- Clusters in memory: eighty-four cells, never unrolled; whole nodes and whole clusters read and stored; all that is known beside them. No condition. -/
import Derived.Test.YtkjikigimmchlaaGreatDoorYC
import Derived.Maps.AppendAt
import Derived.Test.YtkjikigimmchlaaGreatDoorNI
import Derived.Test.YtkjikigimmchlaaGreatDoorNY
namespace Go.Proofs.YtkjikigimmchlaaGreatDoor
open Go.RowKit
theorem held_startC2 {P : Program} {ops : Array Oper} {Q : Exit → Go.Act → World → Prop} {S : World → Prop} {w : World} {id : Nat} {a : Go.Act} (hm : P.follows .mixedOrders = true) (hS : S w.drew)
    (H : ∀ v, v = w.drew → S v → wpAnyH P .any ops Q S ops.size (Array.replicate ops.size false) a v) : (Code.region id ops true).wp P Q a w :=
  wp_region_held_drew hm hS (fun h => H _ rfl h)
theorem mem_turn {α : Type} {x y z : α} (h : z ∈ [y, x]) : z ∈ [x, y] := by
  simp only [List.mem_cons, List.not_mem_nil, or_false] at h ⊢
  exact h.symm
theorem Held.turn {W0 w : World} {L : List (Nat × List Value)} {x y : Nat × Nat} (h : Held W0 L [x, y] w) : Held W0 L [y, x] w :=
  ⟨h.below, h.boxs, fun z hz => h.owns z (mem_turn hz), fun z hz => h.high z (mem_turn hz), fun b hb z hz => h.apart b hb z (mem_turn hz)⟩
theorem own_drew {w v : World} {base size n : Nat} {e : TypeId} {u : Value} {xs : List Value} (h : w.ownsRow base e size u n xs) (hv : v = w.drew) : v.ownsRow base e size u n xs := by
  subst hv
  exact h
set_option maxRecDepth 100000 in
set_option maxHeartbeats 4000000 in
theorem rkt_arg (u : Bool) (s : Int) (A B : Option Addr) (n m : Nat) (a b : List ByteArray) (g : Int) (h0 : g ≠ 0) (h1 : g ≠ 1) (w : World) : Calls Tryz.prog 95 #[.agg #[.bool u, .int .u64 s, .slice A a.length n, .slice B b.length m], .int .i64 g] w fun e w' => e = .returned (.tuple #[.string ⟨#[]⟩, .agg #[.bool u, .int .u64 s, .slice A a.length n, .slice B b.length m], .bool false]) ∧ Below w.heap.size w w' := by
  have e0 : (g != 0) = true := bne_iff_ne.2 h0
  have e1 : (g != 1) = true := bne_iff_ne.2 h1
  clear h0 h1
  have H0 := Lib.hid (((Held.refl w).lay [.bool u, .int .u64 s, .slice A a.length n, .slice B b.length m] 64).own [.bool false, .int .u64 0, .slice none 0 0, .slice none 0 0] 64 (n := 4) rfl)
  rw [World.size_alloc] at H0
  have kl := ((Box.new w [.bool u, .int .u64 s, .slice A a.length n, .slice B b.length m] 64).alloc (.cells ([.bool false, .int .u64 0, .slice none 0 0, .slice none 0 0] : List Value).toArray 64)).cell
  go_enter Tryz.func95, Tryz.ntmps95
  go_wp2_with fail
  refine held_begin (by kernel_rfl) H0.out (fun v0 hH0 => ?_)
  refine wpAnyH_take (i := 0) (v := ?_) rfl (by kernel_rfl) (by kernel_rfl) (by kernel_rfl) (fun _ _ _ h => h) (Or.inl ⟨by rfl, ?_⟩) hH0 ?_
  rotate_left
  · (intro v hSw; have k0 := hSw.b0.cell; go_simp; try with_reducible rfl)
  simp only [Go.Act.put, List.setIfInBounds_toArray, List.set_cons_zero, List.set_cons_succ, List.getElem_toArray, List.getElem_cons_zero]
  refine wpAnyH_take (i := 1) (v := ?_) rfl (by kernel_rfl) (by kernel_rfl) (by kernel_rfl) (fun _ _ _ h => h) (Or.inl ⟨by rfl, ?_⟩) hH0 ?_
  rotate_left
  · (intro v hSw; go_simp; try with_reducible rfl)
  simp only [Go.Act.put, List.setIfInBounds_toArray, List.set_cons_zero, List.set_cons_succ, List.getElem_toArray, List.getElem_cons_zero, List.getElem_cons_succ]
  refine wpAnyH_ready (rs := [2]) (by kernel_rfl) (by simp) ?_
  refine AllReadyH.cons rfl (fun K hK => ?_) AllReadyH.nil
  obtain ⟨z0, z1, z2, z3, hx⟩ := hH0.o0.four
  have kx := hx.cell
  have fx := hx.frozen
  go_simp
  refine hK.out _ _ (hH0.set4 ⟨4, by simp⟩ _ _ _ _) (fun hX => ?_)
  refine stored4 hH0 ⟨4, by simp⟩ hx (fun v1 hH1 hy => ?_)
  clear hK K hX hH0 hx kx fx
  refine wpAnyH_take (i := 3) (v := ?_) rfl (by kernel_rfl) (by kernel_rfl) (by kernel_rfl) (fun _ _ _ h => h) (Or.inl ⟨by rfl, ?_⟩) hH1 ?_
  rotate_left
  · (intro v hSw; go_simp; try with_reducible rfl)
  simp only [Go.Act.put, List.setIfInBounds_toArray, List.set_cons_zero, List.set_cons_succ, List.getElem_toArray, List.getElem_cons_zero, List.getElem_cons_succ]
  refine wpAnyH_done (by kernel_rfl) ?_ _
  have H8 := Lib.hid hH1
  have kr := hy.cell
  go_wp2_with fail
  refine bodyPost_ret (v := .tuple #[.string ⟨#[]⟩, .agg #[.bool u, .int .u64 s, .slice A a.length n, .slice B b.length m], .bool false]) (by simp [results, Tryz.results95, go_sem, kr]) rfl ⟨rfl, H8.out.below⟩
set_option maxRecDepth 100000 in
set_option maxHeartbeats 4000000 in
theorem rkt_none0 (u : Bool) (s : Int) (A B : Option Addr) (n m : Nat) (b : List ByteArray) (w : World) : Calls Tryz.prog 95 #[.agg #[.bool u, .int .u64 s, .slice A 0 n, .slice B b.length m], .int .i64 0] w fun e w' => e = .returned (.tuple #[.string ⟨#[]⟩, .agg #[.bool u, .int .u64 s, .slice A 0 n, .slice B b.length m], .bool false]) ∧ Below w.heap.size w w' := by
  have H0 := Lib.hid (((Held.refl w).lay [.bool u, .int .u64 s, .slice A 0 n, .slice B b.length m] 64).own [.bool false, .int .u64 0, .slice none 0 0, .slice none 0 0] 64 (n := 4) rfl)
  rw [World.size_alloc] at H0
  have kl := ((Box.new w [.bool u, .int .u64 s, .slice A 0 n, .slice B b.length m] 64).alloc (.cells ([.bool false, .int .u64 0, .slice none 0 0, .slice none 0 0] : List Value).toArray 64)).cell
  go_enter Tryz.func95, Tryz.ntmps95
  go_wp2_with fail
  refine held_begin (by kernel_rfl) H0.out (fun v0 hH0 => ?_)
  refine wpAnyH_take (i := 0) (v := ?_) rfl (by kernel_rfl) (by kernel_rfl) (by kernel_rfl) (fun _ _ _ h => h) (Or.inl ⟨by rfl, ?_⟩) hH0 ?_
  rotate_left
  · (intro v hSw; have k0 := hSw.b0.cell; go_simp; try with_reducible rfl)
  simp only [Go.Act.put, List.setIfInBounds_toArray, List.set_cons_zero, List.set_cons_succ, List.getElem_toArray, List.getElem_cons_zero]
  refine wpAnyH_take (i := 1) (v := ?_) rfl (by kernel_rfl) (by kernel_rfl) (by kernel_rfl) (fun _ _ _ h => h) (Or.inl ⟨by rfl, ?_⟩) hH0 ?_
  rotate_left
  · (intro v hSw; go_simp; try with_reducible rfl)
  simp only [Go.Act.put, List.setIfInBounds_toArray, List.set_cons_zero, List.set_cons_succ, List.getElem_toArray, List.getElem_cons_zero, List.getElem_cons_succ]
  refine wpAnyH_ready (rs := [2]) (by kernel_rfl) (by simp) ?_
  refine AllReadyH.cons rfl (fun K hK => ?_) AllReadyH.nil
  obtain ⟨z0, z1, z2, z3, hx⟩ := hH0.o0.four
  have kx := hx.cell
  have fx := hx.frozen
  go_simp
  refine hK.out _ _ (hH0.set4 ⟨4, by simp⟩ _ _ _ _) (fun hX => ?_)
  refine stored4 hH0 ⟨4, by simp⟩ hx (fun v1 hH1 hy => ?_)
  clear hK K hX hH0 hx kx fx
  refine wpAnyH_take (i := 3) (v := ?_) rfl (by kernel_rfl) (by kernel_rfl) (by kernel_rfl) (fun _ _ _ h => h) (Or.inl ⟨by rfl, ?_⟩) hH1 ?_
  rotate_left
  · (intro v hSw; go_simp; try with_reducible rfl)
  simp only [Go.Act.put, List.setIfInBounds_toArray, List.set_cons_zero, List.set_cons_succ, List.getElem_toArray, List.getElem_cons_zero, List.getElem_cons_succ]
  refine wpAnyH_done (by kernel_rfl) ?_ _
  have H8 := Lib.hid hH1
  have kr := hy.cell
  go_wp2_with fail
  refine bodyPost_ret (v := .tuple #[.string ⟨#[]⟩, .agg #[.bool u, .int .u64 s, .slice A 0 n, .slice B b.length m], .bool false]) (by simp [results, Tryz.results95, go_sem, kr]) rfl ⟨rfl, H8.out.below⟩
set_option maxRecDepth 100000 in
set_option maxHeartbeats 4000000 in
theorem rkt_none1 (u : Bool) (s : Int) (A B : Option Addr) (n m : Nat) (a : List ByteArray) (w : World) : Calls Tryz.prog 95 #[.agg #[.bool u, .int .u64 s, .slice A a.length n, .slice B 0 m], .int .i64 1] w fun e w' => e = .returned (.tuple #[.string ⟨#[]⟩, .agg #[.bool u, .int .u64 s, .slice A a.length n, .slice B 0 m], .bool false]) ∧ Below w.heap.size w w' := by
  have H0 := Lib.hid (((Held.refl w).lay [.bool u, .int .u64 s, .slice A a.length n, .slice B 0 m] 64).own [.bool false, .int .u64 0, .slice none 0 0, .slice none 0 0] 64 (n := 4) rfl)
  rw [World.size_alloc] at H0
  have kl := ((Box.new w [.bool u, .int .u64 s, .slice A a.length n, .slice B 0 m] 64).alloc (.cells ([.bool false, .int .u64 0, .slice none 0 0, .slice none 0 0] : List Value).toArray 64)).cell
  go_enter Tryz.func95, Tryz.ntmps95
  go_wp2_with fail
  refine held_begin (by kernel_rfl) H0.out (fun v0 hH0 => ?_)
  refine wpAnyH_take (i := 0) (v := ?_) rfl (by kernel_rfl) (by kernel_rfl) (by kernel_rfl) (fun _ _ _ h => h) (Or.inl ⟨by rfl, ?_⟩) hH0 ?_
  rotate_left
  · (intro v hSw; have k0 := hSw.b0.cell; go_simp; try with_reducible rfl)
  simp only [Go.Act.put, List.setIfInBounds_toArray, List.set_cons_zero, List.set_cons_succ, List.getElem_toArray, List.getElem_cons_zero]
  refine wpAnyH_take (i := 1) (v := ?_) rfl (by kernel_rfl) (by kernel_rfl) (by kernel_rfl) (fun _ _ _ h => h) (Or.inl ⟨by rfl, ?_⟩) hH0 ?_
  rotate_left
  · (intro v hSw; go_simp; try with_reducible rfl)
  simp only [Go.Act.put, List.setIfInBounds_toArray, List.set_cons_zero, List.set_cons_succ, List.getElem_toArray, List.getElem_cons_zero, List.getElem_cons_succ]
  refine wpAnyH_ready (rs := [2]) (by kernel_rfl) (by simp) ?_
  refine AllReadyH.cons rfl (fun K hK => ?_) AllReadyH.nil
  obtain ⟨z0, z1, z2, z3, hx⟩ := hH0.o0.four
  have kx := hx.cell
  have fx := hx.frozen
  go_simp
  refine hK.out _ _ (hH0.set4 ⟨4, by simp⟩ _ _ _ _) (fun hX => ?_)
  refine stored4 hH0 ⟨4, by simp⟩ hx (fun v1 hH1 hy => ?_)
  clear hK K hX hH0 hx kx fx
  refine wpAnyH_take (i := 3) (v := ?_) rfl (by kernel_rfl) (by kernel_rfl) (by kernel_rfl) (fun _ _ _ h => h) (Or.inl ⟨by rfl, ?_⟩) hH1 ?_
  rotate_left
  · (intro v hSw; go_simp; try with_reducible rfl)
  simp only [Go.Act.put, List.setIfInBounds_toArray, List.set_cons_zero, List.set_cons_succ, List.getElem_toArray, List.getElem_cons_zero, List.getElem_cons_succ]
  refine wpAnyH_done (by kernel_rfl) ?_ _
  have H8 := Lib.hid hH1
  have kr := hy.cell
  go_wp2_with fail
  refine bodyPost_ret (v := .tuple #[.string ⟨#[]⟩, .agg #[.bool u, .int .u64 s, .slice A a.length n, .slice B 0 m], .bool false]) (by simp [results, Tryz.results95, go_sem, kr]) rfl ⟨rfl, H8.out.below⟩
set_option maxRecDepth 100000 in
set_option maxHeartbeats 4000000 in
theorem rkt_0 (u : Bool) (s : Int) (A B : Option Addr) (n m : Nat) (x : ByteArray) (a b : List ByteArray) (w : World) (hk : Lk w ⟨u, s, x :: a, b⟩ A n B m) (hl : a.length ≤ 100000) : Calls Tryz.prog 95 #[.agg #[.bool u, .int .u64 s, .slice A (x :: a).length n, .slice B b.length m], .int .i64 0] w (GivesK ⟨u, s, a, b⟩ (fun v => .tuple #[.string x, v, .bool true]) w) := by
  have H0 := Lib.hid (((Held.refl w).own [.bool u, .int .u64 s, .slice A (x :: a).length n, .slice B b.length m] 64 (n := 4) rfl).own [.bool false, .int .u64 0, .slice none 0 0, .slice none 0 0] 64 (n := 4) rfl)
  have BL0 := Lib.hid ((Box.new w [.bool u, .int .u64 s, .slice A (x :: a).length n, .slice B b.length m] 64).alloc (.cells ([.bool false, .int .u64 0, .slice none 0 0, .slice none 0 0] : List Value).toArray 64))
  have BR0 := Lib.hid (Box.new2 w (.cells ([.bool u, .int .u64 s, .slice A (x :: a).length n, .slice B b.length m] : List Value).toArray 64) [.bool false, .int .u64 0, .slice none 0 0, .slice none 0 0] 64)
  rw [World.size_alloc] at H0
  have P0 := Lib.hid ((hk.alloc (.cells ([.bool u, .int .u64 s, .slice A (x :: a).length n, .slice B b.length m] : List Value).toArray 64)).alloc (.cells ([.bool false, .int .u64 0, .slice none 0 0, .slice none 0 0] : List Value).toArray 64))
  have HK := Lib.hid hk; clear hk
  have hne : (((x :: a).length : Int) == 0) = false := by rw [beq_eq_false_iff_ne]; simp; omega
  have hne2 : ((a.length : Int) + 1 == 0) = false := by rw [beq_eq_false_iff_ne]; omega
  obtain ⟨ad, rfl, had, hc0⟩ := P0.out.ea 0 x rfl
  rw [show ad.add 0 = ad from by unfold Addr.add; rw [if_pos rfl]] at hc0
  have kl := BL0.out.cell
  go_enter Tryz.func95, Tryz.ntmps95
  go_upto_region 3 with fail
  generalize (w.alloc (.cells #[.bool u, .int .u64 s, .slice (some ad) (x :: a).length n, .slice B b.length m] 64)).alloc (.cells #[.bool false, .int .u64 0, .slice none 0 0, .slice none 0 0] 64) = W at *
  have kl := BL0.out.cell
  go_upto_region 4 with fail
  have kl := (BL0.out.alloc (.cells #[] 9)).cell
  have ET := Lib.hid (es_tail P0.out.ea P0.out.la)
  have NT := Lib.hid (tail_none (n := n) (ad := ad) (b := ⟨ad.block, ad.off + 1, none⟩))
  obtain ⟨AT, hAT⟩ : ∃ AT, (if n = 1 then some ad else some ⟨ad.block, ad.off + 1, none⟩) = AT := ⟨_, rfl⟩
  rw [hAT] at ET NT
  go_wp2_with (at_builtin; refine app_txts rfl _ _ rfl _ W.heap.size ?c1 _ [] rfl ?c2 AT (n - 1) a ?c3 rfl ?c4 ?c5 ?_)
  case c1 => simp
  case c2 => exact own_zero W _ (Nat.le_refl _)
  case c3 => exact NT.out
  case c4 => exact ET.out.up below1
  case c5 => simp; omega
  intro v2 w2 hown2 hb2
  have hB2 : Below W.heap.size W w2 := (below1 (o := .cells #[] 9)).trans hb2
  clear hb2 kl hc0 had hne hAT ET NT
  obtain ⟨A2, c2, rfl, hA2, _⟩ := own_es hown2
  have HO := Lib.hid hown2; clear hown2 hl
  have hpl : w.heap.size < W.heap.size := BL0.out.lt
  have hpr : w.heap.size + 1 < W.heap.size := BR0.out.lt
  have H2 := Lib.hid (H0.out.up hB2)
  have BL2 := Lib.hid (BL0.out.below hB2)
  have BR2 := Lib.hid (BR0.out.below hB2)
  clear hB2 H0 BL0 BR0 P0
  have kl := BL2.out.cell
  have fl := BL2.out.frozen
  have kr := BR2.out.cell
  have fr := BR2.out.frozen
  go_upto_region 5 with fail
  have HF := Lib.hid (H2.out.set (b := w.heap.size) ⟨4, by simp⟩ 2 (.slice A2 a.length c2))
  have HQ := Lib.hid (own_past HO.out hpl 2 (.slice A2 a.length c2))
  have BL3 := Lib.hid (BL2.out.set 2 (.slice A2 a.length c2))
  generalize w2.setCell ⟨w.heap.size, 2, none⟩ (.slice A2 a.length c2) = w3 at *
  clear HO H2 BL2 BR2 kl fl kr fr
  have HX := Lib.hid (HF.out.turn.fix (b := w.heap.size) (n := 4) BL3.out (by simp))
  clear HF BL3
  refine held_startC2 (S := Held w [(w.heap.size, [.bool u, .int .u64 s, .slice A2 a.length c2, .slice B b.length m])] [(w.heap.size + 1, 4)]) (by kernel_rfl) HX.out.drew (fun v0 hv0 hH0 => ?_)
  have HV := Lib.hid (own_drew HQ.out hv0)
  clear hv0 HX HQ
  refine wpAnyH_take (i := 0) (v := ?_) rfl (by kernel_rfl) (by kernel_rfl) (by kernel_rfl) (fun _ _ _ h => h) (Or.inl ⟨by rfl, ?_⟩) hH0 ?_
  rotate_left
  · (intro v hSw; go_simp; try with_reducible rfl)
  simp only [Go.Act.put, List.setIfInBounds_toArray, List.set_cons_zero, List.set_cons_succ, List.getElem_toArray, List.getElem_cons_zero]
  refine wpAnyH_take (i := 1) (v := ?_) rfl (by kernel_rfl) (by kernel_rfl) (by kernel_rfl) (fun _ _ _ h => h) (Or.inl ⟨by rfl, ?_⟩) hH0 ?_
  rotate_left
  · (intro v hSw; have k0 := hSw.b0.cell; go_simp; try with_reducible rfl)
  simp only [Go.Act.put, List.setIfInBounds_toArray, List.set_cons_zero, List.set_cons_succ, List.getElem_toArray, List.getElem_cons_zero, List.getElem_cons_succ]
  refine wpAnyH_take (i := 2) (v := ?_) rfl (by kernel_rfl) (by kernel_rfl) (by kernel_rfl) (fun _ _ _ h => h) (Or.inl ⟨by rfl, ?_⟩) hH0 ?_
  rotate_left
  · (intro v hSw; go_simp; try with_reducible rfl)
  simp only [Go.Act.put, List.setIfInBounds_toArray, List.set_cons_zero, List.set_cons_succ, List.getElem_toArray, List.getElem_cons_zero, List.getElem_cons_succ]
  refine wpAnyH_ready (rs := [3]) (by kernel_rfl) (by simp) ?_
  refine AllReadyH.cons rfl (fun K hK => ?_) AllReadyH.nil
  obtain ⟨z0, z1, z2, z3, hx⟩ := hH0.o0.four
  have kx := hx.cell
  have fx := hx.frozen
  go_simp
  refine hK.out _ _ (hH0.set4 (b := w.heap.size + 1) ⟨4, by simp⟩ _ _ _ _) (fun hH1 => ?_)
  have hy := hx.four (.bool u) (.int .u64 s) (.slice A2 a.length c2) (.slice B b.length m)
  have HR := own_past (own_past (own_past (own_past HV.out hpr 0 (.bool u)) hpr 1 (.int .u64 s)) hpr 2 (.slice A2 a.length c2)) hpr 3 (.slice B b.length m)
  clear hK K hH0 hx kx fx
  refine wpAnyH_take (i := 4) (v := ?_) rfl (by kernel_rfl) (by kernel_rfl) (by kernel_rfl) (fun _ _ _ h => h) (Or.inl ⟨by rfl, ?_⟩) hH1 ?_
  rotate_left
  · (intro v hSw; go_simp; try with_reducible rfl)
  simp only [Go.Act.put, List.setIfInBounds_toArray, List.set_cons_zero, List.set_cons_succ, List.getElem_toArray, List.getElem_cons_zero, List.getElem_cons_succ]
  refine wpAnyH_done (by kernel_rfl) ?_ _
  have H9 := hH1
  have kr := hy.cell
  go_wp2_with fail
  refine bodyPost_ret (v := .tuple #[.string x, .agg #[.bool u, .int .u64 s, .slice A2 a.length c2, .slice B b.length m], .bool true]) (by simp [results, Tryz.results95, go_sem, kr]) rfl ?_
  have hq := es_of_own HR
  exact ⟨A2, c2, B, m, rfl, ⟨hq.1, HK.out.eb.up H9.below, hq.2.1, HK.out.nb, hq.2.2, HK.out.lb, own_ty HR, HK.out.tb.up H9.below⟩, H9.below⟩
set_option maxRecDepth 100000 in
set_option maxHeartbeats 4000000 in
theorem rkt_1 (u : Bool) (s : Int) (A B : Option Addr) (n m : Nat) (x : ByteArray) (a b : List ByteArray) (w : World) (hk : Lk w ⟨u, s, a, x :: b⟩ A n B m) (hl : b.length ≤ 100000) : Calls Tryz.prog 95 #[.agg #[.bool u, .int .u64 s, .slice A a.length n, .slice B (x :: b).length m], .int .i64 1] w (GivesK ⟨u, s, a, b⟩ (fun v => .tuple #[.string x, v, .bool true]) w) := by
  have H0 := Lib.hid (((Held.refl w).own [.bool u, .int .u64 s, .slice A a.length n, .slice B (x :: b).length m] 64 (n := 4) rfl).own [.bool false, .int .u64 0, .slice none 0 0, .slice none 0 0] 64 (n := 4) rfl)
  have BL0 := Lib.hid ((Box.new w [.bool u, .int .u64 s, .slice A a.length n, .slice B (x :: b).length m] 64).alloc (.cells ([.bool false, .int .u64 0, .slice none 0 0, .slice none 0 0] : List Value).toArray 64))
  have BR0 := Lib.hid (Box.new2 w (.cells ([.bool u, .int .u64 s, .slice A a.length n, .slice B (x :: b).length m] : List Value).toArray 64) [.bool false, .int .u64 0, .slice none 0 0, .slice none 0 0] 64)
  rw [World.size_alloc] at H0
  have P0 := Lib.hid ((hk.alloc (.cells ([.bool u, .int .u64 s, .slice A a.length n, .slice B (x :: b).length m] : List Value).toArray 64)).alloc (.cells ([.bool false, .int .u64 0, .slice none 0 0, .slice none 0 0] : List Value).toArray 64))
  have HK := Lib.hid hk; clear hk
  have hne : (((x :: b).length : Int) == 0) = false := by rw [beq_eq_false_iff_ne]; simp; omega
  have hne2 : ((b.length : Int) + 1 == 0) = false := by rw [beq_eq_false_iff_ne]; omega
  obtain ⟨ad, rfl, had, hc0⟩ := P0.out.eb 0 x rfl
  rw [show ad.add 0 = ad from by unfold Addr.add; rw [if_pos rfl]] at hc0
  have kl := BL0.out.cell
  go_enter Tryz.func95, Tryz.ntmps95
  go_upto_region 3 with fail
  generalize (w.alloc (.cells #[.bool u, .int .u64 s, .slice A a.length n, .slice (some ad) (x :: b).length m] 64)).alloc (.cells #[.bool false, .int .u64 0, .slice none 0 0, .slice none 0 0] 64) = W at *
  have kl := BL0.out.cell
  go_upto_region 4 with fail
  have kl := (BL0.out.alloc (.cells #[] 9)).cell
  have ET := Lib.hid (es_tail P0.out.eb P0.out.lb)
  have NT := Lib.hid (tail_none (n := m) (ad := ad) (b := ⟨ad.block, ad.off + 1, none⟩))
  obtain ⟨AT, hAT⟩ : ∃ AT, (if m = 1 then some ad else some ⟨ad.block, ad.off + 1, none⟩) = AT := ⟨_, rfl⟩
  rw [hAT] at ET NT
  go_wp2_with (at_builtin; refine app_txts rfl _ _ rfl _ W.heap.size ?c1 _ [] rfl ?c2 AT (m - 1) b ?c3 rfl ?c4 ?c5 ?_)
  case c1 => simp
  case c2 => exact own_zero W _ (Nat.le_refl _)
  case c3 => exact NT.out
  case c4 => exact ET.out.up below1
  case c5 => simp; omega
  intro v2 w2 hown2 hb2
  have hB2 : Below W.heap.size W w2 := (below1 (o := .cells #[] 9)).trans hb2
  clear hb2 kl hc0 had hne hAT ET NT
  obtain ⟨A2, c2, rfl, hA2, _⟩ := own_es hown2
  have HO := Lib.hid hown2; clear hown2 hl
  have hpl : w.heap.size < W.heap.size := BL0.out.lt
  have hpr : w.heap.size + 1 < W.heap.size := BR0.out.lt
  have H2 := Lib.hid (H0.out.up hB2)
  have BL2 := Lib.hid (BL0.out.below hB2)
  have BR2 := Lib.hid (BR0.out.below hB2)
  clear hB2 H0 BL0 BR0 P0
  have kl := BL2.out.cell
  have fl := BL2.out.frozen
  have kr := BR2.out.cell
  have fr := BR2.out.frozen
  go_upto_region 5 with fail
  have HF := Lib.hid (H2.out.set (b := w.heap.size) ⟨4, by simp⟩ 3 (.slice A2 b.length c2))
  have HQ := Lib.hid (own_past HO.out hpl 3 (.slice A2 b.length c2))
  have BL3 := Lib.hid (BL2.out.set 3 (.slice A2 b.length c2))
  generalize w2.setCell ⟨w.heap.size, 3, none⟩ (.slice A2 b.length c2) = w3 at *
  clear HO H2 BL2 BR2 kl fl kr fr
  have HX := Lib.hid (HF.out.turn.fix (b := w.heap.size) (n := 4) BL3.out (by simp))
  clear HF BL3
  refine held_startC2 (S := Held w [(w.heap.size, [.bool u, .int .u64 s, .slice A a.length n, .slice A2 b.length c2])] [(w.heap.size + 1, 4)]) (by kernel_rfl) HX.out.drew (fun v0 hv0 hH0 => ?_)
  have HV := Lib.hid (own_drew HQ.out hv0)
  clear hv0 HX HQ
  refine wpAnyH_take (i := 0) (v := ?_) rfl (by kernel_rfl) (by kernel_rfl) (by kernel_rfl) (fun _ _ _ h => h) (Or.inl ⟨by rfl, ?_⟩) hH0 ?_
  rotate_left
  · (intro v hSw; go_simp; try with_reducible rfl)
  simp only [Go.Act.put, List.setIfInBounds_toArray, List.set_cons_zero, List.set_cons_succ, List.getElem_toArray, List.getElem_cons_zero]
  refine wpAnyH_take (i := 1) (v := ?_) rfl (by kernel_rfl) (by kernel_rfl) (by kernel_rfl) (fun _ _ _ h => h) (Or.inl ⟨by rfl, ?_⟩) hH0 ?_
  rotate_left
  · (intro v hSw; have k0 := hSw.b0.cell; go_simp; try with_reducible rfl)
  simp only [Go.Act.put, List.setIfInBounds_toArray, List.set_cons_zero, List.set_cons_succ, List.getElem_toArray, List.getElem_cons_zero, List.getElem_cons_succ]
  refine wpAnyH_take (i := 2) (v := ?_) rfl (by kernel_rfl) (by kernel_rfl) (by kernel_rfl) (fun _ _ _ h => h) (Or.inl ⟨by rfl, ?_⟩) hH0 ?_
  rotate_left
  · (intro v hSw; go_simp; try with_reducible rfl)
  simp only [Go.Act.put, List.setIfInBounds_toArray, List.set_cons_zero, List.set_cons_succ, List.getElem_toArray, List.getElem_cons_zero, List.getElem_cons_succ]
  refine wpAnyH_ready (rs := [3]) (by kernel_rfl) (by simp) ?_
  refine AllReadyH.cons rfl (fun K hK => ?_) AllReadyH.nil
  obtain ⟨z0, z1, z2, z3, hx⟩ := hH0.o0.four
  have kx := hx.cell
  have fx := hx.frozen
  go_simp
  refine hK.out _ _ (hH0.set4 (b := w.heap.size + 1) ⟨4, by simp⟩ _ _ _ _) (fun hH1 => ?_)
  have hy := hx.four (.bool u) (.int .u64 s) (.slice A a.length n) (.slice A2 b.length c2)
  have HR := own_past (own_past (own_past (own_past HV.out hpr 0 (.bool u)) hpr 1 (.int .u64 s)) hpr 2 (.slice A a.length n)) hpr 3 (.slice A2 b.length c2)
  clear hK K hH0 hx kx fx
  refine wpAnyH_take (i := 4) (v := ?_) rfl (by kernel_rfl) (by kernel_rfl) (by kernel_rfl) (fun _ _ _ h => h) (Or.inl ⟨by rfl, ?_⟩) hH1 ?_
  rotate_left
  · (intro v hSw; go_simp; try with_reducible rfl)
  simp only [Go.Act.put, List.setIfInBounds_toArray, List.set_cons_zero, List.set_cons_succ, List.getElem_toArray, List.getElem_cons_zero, List.getElem_cons_succ]
  refine wpAnyH_done (by kernel_rfl) ?_ _
  have H9 := hH1
  have kr := hy.cell
  go_wp2_with fail
  refine bodyPost_ret (v := .tuple #[.string x, .agg #[.bool u, .int .u64 s, .slice A a.length n, .slice A2 b.length c2], .bool true]) (by simp [results, Tryz.results95, go_sem, kr]) rfl ?_
  have hq := es_of_own HR
  exact ⟨A, n, A2, c2, rfl, ⟨HK.out.ea.up H9.below, hq.1, HK.out.na, hq.2.1, HK.out.la, hq.2.2, HK.out.ta.up H9.below, own_ty HR⟩, H9.below⟩
theorem rktake_any (x : Lnk) (A B : Option Addr) (n m : Nat) (g : Int) (w : World) (hk : Lk w x A n B m) (hl : x.a.length ≤ 100000) (hl2 : x.b.length ≤ 100000) :
    Calls Tryz.prog 95 #[lkV x A n B m, .int .i64 g] w (GivesK (x.taken g) (fun v => .tuple #[.string (x.first g), v, .bool (x.takes g)]) w) := by
  obtain ⟨u, s, a, b⟩ := x
  by_cases h0 : g = 0
  · subst h0
    cases a with
    | nil =>
      have e : Lnk.takes ⟨u, s, [], b⟩ 0 = false := rfl
      unfold Lnk.taken Lnk.first
      rw [e]
      exact (rkt_none0 u s A B n m b w).mono fun e w' h => ⟨A, n, B, m, h.1, hk.up h.2, h.2⟩
    | cons y t => exact rkt_0 u s A B n m y t b w hk (by simp at hl; omega)
  · by_cases h1 : g = 1
    · subst h1
      cases b with
      | nil =>
        have e : Lnk.takes ⟨u, s, a, []⟩ 1 = false := rfl
        unfold Lnk.taken Lnk.first
        rw [e]
        exact (rkt_none1 u s A B n m a w).mono fun e w' h => ⟨A, n, B, m, h.1, hk.up h.2, h.2⟩
      | cons y t => exact rkt_1 u s A B n m y a t w hk (by simp at hl2; omega)
    · have e : Lnk.takes ⟨u, s, a, b⟩ g = false := by unfold Lnk.takes isSide; simp [h0, h1]
      unfold Lnk.taken Lnk.first
      rw [e]
      exact (rkt_arg u s A B n m a b g h0 h1 w).mono fun e w' h => ⟨A, n, B, m, h.1, hk.up h.2, h.2⟩
end Go.Proofs.YtkjikigimmchlaaGreatDoor
namespace Go.Proofs.YtkjikigimmchlaaGreatDoor
open Go.RowKit
end Go.Proofs.YtkjikigimmchlaaGreatDoor
namespace Go.Proofs.YtkjikigimmchlaaGreatDoor
open Go.RowKit
structure CAd where
  a : Adr
  b : Adr
  A : Option Addr
  n : Nat
  B : Option Addr
  m : Nat
def CAd.zero : CAd := ⟨Adr.zero, Adr.zero, none, 0, none, 0⟩
def Clu.zero : Clu := ⟨Nod.zero, Nod.zero, ⟨false, 0, [], []⟩, false, false⟩
def cluC (c : Clu) (x : CAd) : List Value := nodC c.a x.a ++ (nodC c.b x.b ++ [.bool c.l.u, .int .u64 c.l.s, .slice x.A c.l.a.length x.n, .slice x.B c.l.b.length x.m, .bool c.wa, .bool c.wb])
@[reducible] def cluV (c : Clu) (x : CAd) : Value := .agg (cluC c x).toArray
structure CM (w : World) (c : Clu) (x : CAd) : Prop where
  a : NM w c.a x.a
  b : NM w c.b x.b
  l : Lk w c.l x.A x.n x.B x.m
theorem CM.up {w w' : World} {c : Clu} {x : CAd} (h : CM w c x) (hb : Below w.heap.size w w') : CM w' c x := ⟨h.a.up hb, h.b.up hb, h.l.up hb⟩
def Clu.withA (c : Clu) (n : Nod) : Clu := { c with a := n }
def Clu.withB (c : Clu) (n : Nod) : Clu := { c with b := n }
def CAd.withA (x : CAd) (a : Adr) : CAd := { x with a := a }
def CAd.withB (x : CAd) (a : Adr) : CAd := { x with b := a }
section
variable (c : Clu) (x : CAd)
@[go_sem] theorem cluC_0 : (cluC c x)[0]? = some (.int .i64 c.a.id) := rfl
@[go_sem] theorem cluC_1 : (cluC c x)[1]? = some (.bool c.a.up) := rfl
@[go_sem] theorem cluC_40 : (cluC c x)[40]? = some (.bool c.b.up) := rfl
@[go_sem] theorem cluC_78 : (cluC c x)[78]? = some (.bool c.l.u) := rfl
@[go_sem] theorem cluC_79 : (cluC c x)[79]? = some (.int .u64 c.l.s) := rfl
@[go_sem] theorem cluC_80 : (cluC c x)[80]? = some (.slice x.A c.l.a.length x.n) := rfl
@[go_sem] theorem cluC_81 : (cluC c x)[81]? = some (.slice x.B c.l.b.length x.m) := rfl
@[go_sem] theorem cluC_82 : (cluC c x)[82]? = some (.bool c.wa) := rfl
@[go_sem] theorem cluC_83 : (cluC c x)[83]? = some (.bool c.wb) := rfl
@[simp] theorem cluC_size : (cluC c x).length = 84 := rfl
@[simp] theorem cluC_ne : (cluC c x = []) = False := by simp [cluC, nodC]
end
theorem infoCz : (Tryz.prog.info? 67).map (·.zero) = some (some (.agg (cluC Clu.zero CAd.zero).toArray)) := by kernel_rfl
@[simp high] theorem czero (w : World) : (zeroValue 67).run Tryz.prog w = .ok (.agg (cluC Clu.zero CAd.zero).toArray) w := by
  have h := infoCz
  cases hq : Tryz.prog.info? 67 with
  | none => rw [hq] at h; cases h
  | some i =>
    rw [hq] at h
    have h2 : i.zero = some (.agg (cluC Clu.zero CAd.zero).toArray) := by simpa using h
    simp [zeroValue, typeInfo, hq, h2]
theorem Lk.st {w w' : World} {l : Lnk} {A B : Option Addr} {n m b : Nat} {T : TypeId} {vs : List Value} (h : Lk w l A n B m) (hx : BoxT w b T vs) (hT : Apart T) (hs : St w w' b) : Lk w' l A n B m := by
  obtain ⟨o, cs, rfl⟩ := hs
  exact ⟨h.ea.setCells (fun _ ha => h.ta.ne ha hx hT.s) o cs, h.eb.setCells (fun _ ha => h.tb.ne ha hx hT.s) o cs, h.na, h.nb, h.la, h.lb, Ty.setCells _ _ _ h.ta, Ty.setCells _ _ _ h.tb⟩
theorem CM.st {w w' : World} {c : Clu} {x : CAd} {b : Nat} {T : TypeId} {vs : List Value} (h : CM w c x) (hx : BoxT w b T vs) (hT : Apart T) (hs : St w w' b) : CM w' c x := ⟨h.a.st hx hT hs, h.b.st hx hT hs, h.l.st hx hT hs⟩
structure AC (w0 : World) (Bs : List Bk) (Ns : List (Nod × Adr)) (Cs : List (Clu × CAd)) (Os : List Ol) (w : World) : Prop where
  all : All w0 Bs Ns [] Os w
  cm : ∀ x ∈ Cs, CM w x.1 x.2
section
variable {w0 w w' : World} {Bs : List Bk} {Ns : List (Nod × Adr)} {Cs : List (Clu × CAd)} {Os : List Ol} {x y z u : Bk}
theorem AC.up (h : AC w0 Bs Ns Cs Os w) (hb : Below w.heap.size w w') : AC w0 Bs Ns Cs Os w' := ⟨h.all.up hb, fun q hq => (h.cm q hq).up hb⟩
theorem AC.alloc (h : AC w0 Bs Ns Cs Os w) (o : Obj) : AC w0 Bs Ns Cs Os (w.alloc o) := h.up below1
theorem AC.drew (h : AC w0 Bs Ns Cs Os w) : AC w0 Bs Ns Cs Os w.drew := h.up (Below.refl _ _).drew
theorem AC.lay (h : AC w0 Bs Ns Cs Os w) (vs : List Value) {T : TypeId} (hT : Apart T) : AC w0 ((w.heap.size, T, vs) :: Bs) Ns Cs Os (w.alloc (.cells vs.toArray T)) := ⟨h.all.lay vs hT, fun q hq => (h.cm q hq).up below1⟩
theorem AC.below (h : AC w0 Bs Ns Cs Os w) : Below w0.heap.size w0 w := h.all.below
theorem AC.own (h : AC w0 Bs Ns Cs Os w) : ∀ x ∈ Bs, w0.heap.size ≤ x.1 := h.all.own
theorem AC.box (h : AC w0 Bs Ns Cs Os w) : ∀ x ∈ Bs, BoxT w x.1 x.2.1 x.2.2 := h.all.box
theorem AC.b0 (h : AC w0 (x :: Bs) Ns Cs Os w) : BoxT w x.1 x.2.1 x.2.2 := h.box x (by simp)
theorem AC.b1 (h : AC w0 (x :: y :: Bs) Ns Cs Os w) : BoxT w y.1 y.2.1 y.2.2 := h.box y (by simp)
theorem AC.b2 (h : AC w0 (x :: y :: z :: Bs) Ns Cs Os w) : BoxT w z.1 z.2.1 z.2.2 := h.box z (by simp)
theorem AC.b3 (h : AC w0 (x :: y :: z :: u :: Bs) Ns Cs Os w) : BoxT w u.1 u.2.1 u.2.2 := h.box u (by simp)
theorem AC.n0 {p : Nod × Adr} (h : AC w0 Bs (p :: Ns) Cs Os w) : NM w p.1 p.2 := h.all.n0
theorem AC.n1 {p q : Nod × Adr} (h : AC w0 Bs (p :: q :: Ns) Cs Os w) : NM w q.1 q.2 := h.all.n1
theorem AC.c0 {p : Clu × CAd} (h : AC w0 Bs Ns (p :: Cs) Os w) : CM w p.1 p.2 := h.cm p (by simp)
theorem AC.c1 {p q : Clu × CAd} (h : AC w0 Bs Ns (p :: q :: Cs) Os w) : CM w q.1 q.2 := h.cm q (by simp)
theorem AC.o0 {p : Ol} (h : AC w0 Bs Ns Cs (p :: Os) w) : OM w p.A p.k p.l := h.all.o0
theorem AC.o1 {p q : Ol} (h : AC w0 Bs Ns Cs (p :: q :: Os) w) : OM w q.A q.k q.l := h.all.o1
theorem AC.st' (h : AC w0 Bs Ns Cs Os w) {b : Nat} {T : TypeId} {vs : List Value} (hb : BoxT w b T vs) (hT : Apart T) (hs : St w w' b) : ∀ x ∈ Cs, CM w' x.1 x.2 := fun q hq => (h.cm q hq).st hb hT hs
theorem AC.stAt (h : AC w0 Bs Ns Cs Os w) {i : Nat} (hi : Bs[i]? = some x) {vs : List Value} (hs : St w w' x.1) (hn : BoxT w' x.1 x.2.1 vs) : AC w0 (Bs.set i (x.1, x.2.1, vs)) Ns Cs Os w' :=
  ⟨h.all.stAt hi hs hn, h.st' (h.box x (List.mem_of_getElem? hi)) (h.all.ap x (List.mem_of_getElem? hi)) hs⟩
theorem AC.other {c : Nat} {T : TypeId} {vs : List Value} (h : AC w0 Bs Ns Cs Os w) (hx : BoxT w c T vs) (hT : Apart T) (hc : ∀ x ∈ Bs, x.1 ≠ c) (hD : w0.heap.size ≤ c) (hs : St w w' c) : AC w0 Bs Ns Cs Os w' := ⟨h.all.other hx hT hc hD hs, h.st' hx hT hs⟩
end
end Go.Proofs.YtkjikigimmchlaaGreatDoor
