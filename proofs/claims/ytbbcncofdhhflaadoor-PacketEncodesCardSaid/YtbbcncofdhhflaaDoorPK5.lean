/- Packets: Decode, by the document, where it is no hello. No other condition. -/
import Derived.Test.YtbbcncofdhhflaaDoorPK4
import Derived.Deep.CutRange
namespace Go.Proofs.YtbbcncofdhhflaaDoor
open Go.RowKit

theorem held_startP {P : Program} {ops : Array Oper} {Q : Exit → Act → World → Prop} {S : World → Prop} {w : World} {id : Nat} {a : Act} (hm : P.follows .mixedOrders = true) (hS : S w.drew)
    (H : ∀ v, Below w.heap.size w v → S v → wpAnyH P .any ops Q S ops.size (Array.replicate ops.size false) a v) : (Code.region id ops true).wp P Q a w :=
  wp_region_held_drew hm hS (fun h => H _ (Below.refl _ _).drew h)

set_option maxRecDepth 100000 in
set_option maxHeartbeats 16000000 in
theorem rpd_blk_bad (s t : ByteArray) (k l : Int) (w : World) (ho : ∀ w, Calls Tryd.prog 30 #[.string s] w fun e w' => e = .returned (.tuple #[.string t, .int .i64 0]) ∧ Below w.heap.size w w') (h9 : 9 ≤ t.size) (hg : ∀ w, Calls Tryd.prog 31 #[.string (t.extract 1 9)] w fun e w' => e = .returned (.tuple #[.int .u64 l, .bool true]) ∧ Below w.heap.size w w') (hk : ((t[0]'(by omega)).toNat : Int) = k) (hk1 : k ≠ 1) (hkr : 0 ≤ k ∧ k < 256) (tl : ByteArray) (he : t.extract 9 t.size = tl) (hz : (t.size : Int) ≤ 3000) (z : Int) (y : ByteArray) (hb : blockK k = true) (hp : 0 < tl.size) (hzr : 0 ≤ z ∧ z < 256) (hb0 : ((tl[0]'hp).toNat : Int) = z) (hx : tl.extract 1 tl.size = y) (hr : ∀ w, Calls Tryd.prog 11 #[.agg #[.int .i64 k, .int .u64 l, .int .i64 0, .int .u64 0, .int .u64 0, .int .u64 0, .int .u64 0, .bool false, .bool false, .bool false, .bool false, .int .u32 0, .int .i64 z, .string y]] w fun e w' => e = .returned (.bool false) ∧ Below w.heap.size w w') :
    Calls Tryd.prog 14 #[.string s] w fun e w' => e = .returned (.tuple #[.agg #[.int .i64 0, .int .u64 0, .int .i64 0, .int .u64 0, .int .u64 0, .int .u64 0, .int .u64 0, .bool false, .bool false, .bool false, .bool false, .int .u32 0, .int .i64 0, .string ⟨#[]⟩], .int .i64 2]) ∧ Below w.heap.size w w' := by
  have HR := Lib.hid hr; clear hr
  have hbl := fun w => rblock_any k w
  rw [hb] at hbl
  have HB := Lib.hid hbl; clear hbl
  have e1 : (k == 1) = false := beq_eq_false_iff_ne.2 hk1
  have hwk : wrap64 k = k := by unfold wrap64; omega
  clear hk1 hb hkr
  have hpi : (0 : Int) < (tl.size : Int) := by omega
  have hwz : IntKind.i64.wrap z = z := IntWalk.i64_in z (by omega)
  have hp1 : (1 : Int) ≤ (tl.size : Int) := by omega
  clear hzr
  have HO := Lib.hid ho; clear ho
  have HG := Lib.hid hg; clear hg
  have H0 := Lib.hid ((Held.refl w).own [.int .i64 0, .int .u64 0, .int .i64 0, .int .u64 0, .int .u64 0, .int .u64 0, .int .u64 0, .bool false, .bool false, .bool false, .bool false, .int .u32 0, .int .i64 0, .string ⟨#[]⟩] 30 (n := 14) rfl)
  have BR0 := Lib.hid (Box.new w [.int .i64 0, .int .u64 0, .int .i64 0, .int .u64 0, .int .u64 0, .int .u64 0, .int .u64 0, .bool false, .bool false, .bool false, .bool false, .int .u32 0, .int .i64 0, .string ⟨#[]⟩] 30)
  go_enter Tryd.func14, Tryd.ntmps14
  go_wp2_with fail
  refine (HO.out _).mono ?_
  rintro e w1 ⟨rfl, hb⟩
  have H1 := Lib.hid (H0.out.up hb)
  have BR1 := Lib.hid (BR0.out.below hb)
  clear hb
  go_wp2_with fail
  refine (HG.out _).mono ?_
  rintro e w2 ⟨rfl, hb⟩
  have H2 := Lib.hid (H1.out.up hb)
  have BR2 := Lib.hid (BR1.out.below hb)
  clear hb
  have BP3 := Lib.hid (Box.new w2 [.int .i64 k, .int .u64 l, .int .i64 0, .int .u64 0, .int .u64 0, .int .u64 0, .int .u64 0, .bool false, .bool false, .bool false, .bool false, .int .u32 0, .int .i64 0, .string ⟨#[]⟩] 30)
  have HN := Lib.hid (Nat.ne_of_lt BR2.out.lt)
  have H3 := Lib.hid (H2.out.own [.int .i64 k, .int .u64 l, .int .i64 0, .int .u64 0, .int .u64 0, .int .u64 0, .int .u64 0, .bool false, .bool false, .bool false, .bool false, .int .u32 0, .int .i64 0, .string ⟨#[]⟩] 30 (n := 14) rfl)
  have BR3 := Lib.hid (BR2.out.alloc (.cells ([.int .i64 k, .int .u64 l, .int .i64 0, .int .u64 0, .int .u64 0, .int .u64 0, .int .u64 0, .bool false, .bool false, .bool false, .bool false, .int .u32 0, .int .i64 0, .string ⟨#[]⟩] : List Value).toArray 30))
  go_wp2_with fail
  refine (HB.out _).mono ?_
  rintro e w6 ⟨rfl, rfl⟩
  go_upto_region 15 with fail
  refine held_startP (S := Held w [] [(w2.heap.size, 14), (w.heap.size, 14)]) (by kernel_rfl) H3.out.drew (fun v0 hv0 hH0 => ?_)
  have BP6 := Lib.hid (BP3.out.below hv0)
  have BR6 := Lib.hid (BR3.out.below hv0)
  clear hv0
  refine wpAnyH_take (i := 0) (v := ?_) rfl (by kernel_rfl) (by kernel_rfl) (by kernel_rfl) (fun _ _ _ h => h) (Or.inl ⟨by rfl, ?_⟩) hH0 ?_
  rotate_left
  · (intro v hSw; go_simp; try with_reducible rfl)
  simp only [Act.put, List.setIfInBounds_toArray, List.set_cons_zero, List.set_cons_succ, List.getElem_toArray, List.getElem_cons_zero]
  refine wpAnyH_take (i := 1) (v := ?_) rfl (by kernel_rfl) (by kernel_rfl) (by kernel_rfl) (fun _ _ _ h => h) (Or.inl ⟨by rfl, ?_⟩) hH0 ?_
  rotate_left
  · (intro v hSw; go_simp; try with_reducible rfl)
  simp only [Act.put, List.setIfInBounds_toArray, List.set_cons_zero, List.set_cons_succ, List.getElem_toArray, List.getElem_cons_zero, List.getElem_cons_succ]
  refine wpAnyH_take (i := 2) (v := ?_) rfl (by kernel_rfl) (by kernel_rfl) (by kernel_rfl) (fun _ _ _ h => h) (Or.inl ⟨by rfl, ?_⟩) hH0 ?_
  rotate_left
  · (intro v hSw; go_simp; try with_reducible rfl)
  simp only [Act.put, List.setIfInBounds_toArray, List.set_cons_zero, List.set_cons_succ, List.getElem_toArray, List.getElem_cons_zero, List.getElem_cons_succ]
  refine wpAnyH_take (i := 3) (v := ?_) rfl (by kernel_rfl) (by kernel_rfl) (by kernel_rfl) (fun _ _ _ h => h) (Or.inl ⟨by rfl, ?_⟩) hH0 ?_
  rotate_left
  · (intro v hSw; go_simp; try with_reducible rfl)
  simp only [Act.put, List.setIfInBounds_toArray, List.set_cons_zero, List.set_cons_succ, List.getElem_toArray, List.getElem_cons_zero, List.getElem_cons_succ]
  refine wpAnyH_take (i := 4) (v := ?_) rfl (by kernel_rfl) (by kernel_rfl) (by kernel_rfl) (fun _ _ _ h => h) (Or.inl ⟨by rfl, ?_⟩) hH0 ?_
  rotate_left
  · (intro v hSw; go_simp; try with_reducible rfl)
  simp only [Act.put, List.setIfInBounds_toArray, List.set_cons_zero, List.set_cons_succ, List.getElem_toArray, List.getElem_cons_zero, List.getElem_cons_succ]
  refine wpAnyH_take (i := 5) (v := ?_) rfl (by kernel_rfl) (by kernel_rfl) (by kernel_rfl) (fun _ _ _ h => h) (Or.inl ⟨by rfl, ?_⟩) hH0 ?_
  rotate_left
  · (intro v hSw; go_simp; try with_reducible rfl)
  simp only [Act.put, List.setIfInBounds_toArray, List.set_cons_zero, List.set_cons_succ, List.getElem_toArray, List.getElem_cons_zero, List.getElem_cons_succ]
  refine wpAnyH_ready (rs := [6]) (by kernel_rfl) (by simp) ?_
  refine AllReadyH.cons rfl (fun K hK => ?_) AllReadyH.nil
  have kx := BP6.out.cell
  have fx := BP6.out.frozen
  go_simp
  refine hK.out _ _ (hH0.set (b := w2.heap.size) ⟨14, by simp⟩ 12 (.int .i64 z)) (fun hH1 => ?_)
  have BP7 := Lib.hid (BP6.out.set 12 (.int .i64 z))
  have BR7 := Lib.hid (BR6.out.other (p := ⟨w2.heap.size, 12, none⟩) HN.out (.int .i64 z))
  clear hK K kx fx BP6 BR6
  refine wpAnyH_take (i := 7) (v := ?_) rfl (by kernel_rfl) (by kernel_rfl) (by kernel_rfl) (fun _ _ _ h => h) (Or.inl ⟨by rfl, ?_⟩) hH1 ?_
  rotate_left
  · (intro v hSw; go_simp; try with_reducible rfl)
  simp only [Act.put, List.setIfInBounds_toArray, List.set_cons_zero, List.set_cons_succ, List.getElem_toArray, List.getElem_cons_zero, List.getElem_cons_succ]
  refine wpAnyH_done (by kernel_rfl) ?_ _
  have H7 := Lib.hid hH1
  have kp := BP7.out.cell
  have fp := BP7.out.frozen
  go_wp2_with fail
  have H8 := Lib.hid (H7.out.set (b := w2.heap.size) ⟨14, by simp⟩ 13 (.string y))
  have BP8 := Lib.hid (BP7.out.set 13 (.string y))
  have BR8 := Lib.hid (BR7.out.other (p := ⟨w2.heap.size, 13, none⟩) HN.out (.string y))
  clear kp fp
  refine (HR.out _).mono ?_
  rintro e w9 ⟨rfl, hb⟩
  have H9 := Lib.hid (H8.out.up hb)
  have BR9 := Lib.hid (BR8.out.below hb)
  have BP9 := Lib.hid (BP8.out.below hb)
  clear hb H8 BR8 BP8
  clear BP9
  have kr := BR9.out.cell
  have fr := BR9.out.frozen
  go_wp2_with fail
  refine bodyPost_ret (v := .tuple #[.agg #[.int .i64 0, .int .u64 0, .int .i64 0, .int .u64 0, .int .u64 0, .int .u64 0, .int .u64 0, .bool false, .bool false, .bool false, .bool false, .int .u32 0, .int .i64 0, .string ⟨#[]⟩], .int .i64 2]) (by simp [results, Tryd.results14, go_sem, kr]) rfl ⟨rfl, ?_⟩
  exact (H9.out.set14 (b := w.heap.size) ⟨14, by simp⟩ _ _ _ _ _ _ _ _ _ _ _ _ _ _).below

set_option maxRecDepth 100000 in
set_option maxHeartbeats 16000000 in
theorem rpd_blk_diff (s t u : ByteArray) (k l : Int) (w : World) (ho : ∀ w, Calls Tryd.prog 30 #[.string s] w fun e w' => e = .returned (.tuple #[.string t, .int .i64 0]) ∧ Below w.heap.size w w') (h9 : 9 ≤ t.size) (hg : ∀ w, Calls Tryd.prog 31 #[.string (t.extract 1 9)] w fun e w' => e = .returned (.tuple #[.int .u64 l, .bool true]) ∧ Below w.heap.size w w') (hk : ((t[0]'(by omega)).toNat : Int) = k) (hk1 : k ≠ 1) (hkr : 0 ≤ k ∧ k < 256) (tl : ByteArray) (he : t.extract 9 t.size = tl) (hz : (t.size : Int) ≤ 3000) (z : Int) (y : ByteArray) (hb : blockK k = true) (hp : 0 < tl.size) (hzr : 0 ≤ z ∧ z < 256) (hb0 : ((tl[0]'hp).toNat : Int) = z) (hx : tl.extract 1 tl.size = y) (hr : ∀ w, Calls Tryd.prog 11 #[.agg #[.int .i64 k, .int .u64 l, .int .i64 0, .int .u64 0, .int .u64 0, .int .u64 0, .int .u64 0, .bool false, .bool false, .bool false, .bool false, .int .u32 0, .int .i64 z, .string y]] w fun e w' => e = .returned (.bool true) ∧ Below w.heap.size w w') (hy : ∀ w, Calls Tryd.prog 20 #[.agg #[.int .i64 k, .int .u64 l, .int .i64 0, .int .u64 0, .int .u64 0, .int .u64 0, .int .u64 0, .bool false, .bool false, .bool false, .bool false, .int .u32 0, .int .i64 z, .string y]] w fun e w' => e = .returned (.string u) ∧ Below w.heap.size w w') (hu : (u.toList == t.toList) = false) :
    Calls Tryd.prog 14 #[.string s] w fun e w' => e = .returned (.tuple #[.agg #[.int .i64 0, .int .u64 0, .int .i64 0, .int .u64 0, .int .u64 0, .int .u64 0, .int .u64 0, .bool false, .bool false, .bool false, .bool false, .int .u32 0, .int .i64 0, .string ⟨#[]⟩], .int .i64 2]) ∧ Below w.heap.size w w' := by
  have HR := Lib.hid hr; clear hr
  have HY := Lib.hid hy; clear hy
  have hbl := fun w => rblock_any k w
  rw [hb] at hbl
  have HB := Lib.hid hbl; clear hbl
  have e1 : (k == 1) = false := beq_eq_false_iff_ne.2 hk1
  have hwk : wrap64 k = k := by unfold wrap64; omega
  clear hk1 hb hkr
  have hpi : (0 : Int) < (tl.size : Int) := by omega
  have hwz : IntKind.i64.wrap z = z := IntWalk.i64_in z (by omega)
  have hp1 : (1 : Int) ≤ (tl.size : Int) := by omega
  clear hzr
  have HO := Lib.hid ho; clear ho
  have HG := Lib.hid hg; clear hg
  have H0 := Lib.hid ((Held.refl w).own [.int .i64 0, .int .u64 0, .int .i64 0, .int .u64 0, .int .u64 0, .int .u64 0, .int .u64 0, .bool false, .bool false, .bool false, .bool false, .int .u32 0, .int .i64 0, .string ⟨#[]⟩] 30 (n := 14) rfl)
  have BR0 := Lib.hid (Box.new w [.int .i64 0, .int .u64 0, .int .i64 0, .int .u64 0, .int .u64 0, .int .u64 0, .int .u64 0, .bool false, .bool false, .bool false, .bool false, .int .u32 0, .int .i64 0, .string ⟨#[]⟩] 30)
  go_enter Tryd.func14, Tryd.ntmps14
  go_wp2_with fail
  refine (HO.out _).mono ?_
  rintro e w1 ⟨rfl, hb⟩
  have H1 := Lib.hid (H0.out.up hb)
  have BR1 := Lib.hid (BR0.out.below hb)
  clear hb
  go_wp2_with fail
  refine (HG.out _).mono ?_
  rintro e w2 ⟨rfl, hb⟩
  have H2 := Lib.hid (H1.out.up hb)
  have BR2 := Lib.hid (BR1.out.below hb)
  clear hb
  have BP3 := Lib.hid (Box.new w2 [.int .i64 k, .int .u64 l, .int .i64 0, .int .u64 0, .int .u64 0, .int .u64 0, .int .u64 0, .bool false, .bool false, .bool false, .bool false, .int .u32 0, .int .i64 0, .string ⟨#[]⟩] 30)
  have HN := Lib.hid (Nat.ne_of_lt BR2.out.lt)
  have H3 := Lib.hid (H2.out.own [.int .i64 k, .int .u64 l, .int .i64 0, .int .u64 0, .int .u64 0, .int .u64 0, .int .u64 0, .bool false, .bool false, .bool false, .bool false, .int .u32 0, .int .i64 0, .string ⟨#[]⟩] 30 (n := 14) rfl)
  have BR3 := Lib.hid (BR2.out.alloc (.cells ([.int .i64 k, .int .u64 l, .int .i64 0, .int .u64 0, .int .u64 0, .int .u64 0, .int .u64 0, .bool false, .bool false, .bool false, .bool false, .int .u32 0, .int .i64 0, .string ⟨#[]⟩] : List Value).toArray 30))
  go_wp2_with fail
  refine (HB.out _).mono ?_
  rintro e w6 ⟨rfl, rfl⟩
  go_upto_region 15 with fail
  refine held_startP (S := Held w [] [(w2.heap.size, 14), (w.heap.size, 14)]) (by kernel_rfl) H3.out.drew (fun v0 hv0 hH0 => ?_)
  have BP6 := Lib.hid (BP3.out.below hv0)
  have BR6 := Lib.hid (BR3.out.below hv0)
  clear hv0
  refine wpAnyH_take (i := 0) (v := ?_) rfl (by kernel_rfl) (by kernel_rfl) (by kernel_rfl) (fun _ _ _ h => h) (Or.inl ⟨by rfl, ?_⟩) hH0 ?_
  rotate_left
  · (intro v hSw; go_simp; try with_reducible rfl)
  simp only [Act.put, List.setIfInBounds_toArray, List.set_cons_zero, List.set_cons_succ, List.getElem_toArray, List.getElem_cons_zero]
  refine wpAnyH_take (i := 1) (v := ?_) rfl (by kernel_rfl) (by kernel_rfl) (by kernel_rfl) (fun _ _ _ h => h) (Or.inl ⟨by rfl, ?_⟩) hH0 ?_
  rotate_left
  · (intro v hSw; go_simp; try with_reducible rfl)
  simp only [Act.put, List.setIfInBounds_toArray, List.set_cons_zero, List.set_cons_succ, List.getElem_toArray, List.getElem_cons_zero, List.getElem_cons_succ]
  refine wpAnyH_take (i := 2) (v := ?_) rfl (by kernel_rfl) (by kernel_rfl) (by kernel_rfl) (fun _ _ _ h => h) (Or.inl ⟨by rfl, ?_⟩) hH0 ?_
  rotate_left
  · (intro v hSw; go_simp; try with_reducible rfl)
  simp only [Act.put, List.setIfInBounds_toArray, List.set_cons_zero, List.set_cons_succ, List.getElem_toArray, List.getElem_cons_zero, List.getElem_cons_succ]
  refine wpAnyH_take (i := 3) (v := ?_) rfl (by kernel_rfl) (by kernel_rfl) (by kernel_rfl) (fun _ _ _ h => h) (Or.inl ⟨by rfl, ?_⟩) hH0 ?_
  rotate_left
  · (intro v hSw; go_simp; try with_reducible rfl)
  simp only [Act.put, List.setIfInBounds_toArray, List.set_cons_zero, List.set_cons_succ, List.getElem_toArray, List.getElem_cons_zero, List.getElem_cons_succ]
  refine wpAnyH_take (i := 4) (v := ?_) rfl (by kernel_rfl) (by kernel_rfl) (by kernel_rfl) (fun _ _ _ h => h) (Or.inl ⟨by rfl, ?_⟩) hH0 ?_
  rotate_left
  · (intro v hSw; go_simp; try with_reducible rfl)
  simp only [Act.put, List.setIfInBounds_toArray, List.set_cons_zero, List.set_cons_succ, List.getElem_toArray, List.getElem_cons_zero, List.getElem_cons_succ]
  refine wpAnyH_take (i := 5) (v := ?_) rfl (by kernel_rfl) (by kernel_rfl) (by kernel_rfl) (fun _ _ _ h => h) (Or.inl ⟨by rfl, ?_⟩) hH0 ?_
  rotate_left
  · (intro v hSw; go_simp; try with_reducible rfl)
  simp only [Act.put, List.setIfInBounds_toArray, List.set_cons_zero, List.set_cons_succ, List.getElem_toArray, List.getElem_cons_zero, List.getElem_cons_succ]
  refine wpAnyH_ready (rs := [6]) (by kernel_rfl) (by simp) ?_
  refine AllReadyH.cons rfl (fun K hK => ?_) AllReadyH.nil
  have kx := BP6.out.cell
  have fx := BP6.out.frozen
  go_simp
  refine hK.out _ _ (hH0.set (b := w2.heap.size) ⟨14, by simp⟩ 12 (.int .i64 z)) (fun hH1 => ?_)
  have BP7 := Lib.hid (BP6.out.set 12 (.int .i64 z))
  have BR7 := Lib.hid (BR6.out.other (p := ⟨w2.heap.size, 12, none⟩) HN.out (.int .i64 z))
  clear hK K kx fx BP6 BR6
  refine wpAnyH_take (i := 7) (v := ?_) rfl (by kernel_rfl) (by kernel_rfl) (by kernel_rfl) (fun _ _ _ h => h) (Or.inl ⟨by rfl, ?_⟩) hH1 ?_
  rotate_left
  · (intro v hSw; go_simp; try with_reducible rfl)
  simp only [Act.put, List.setIfInBounds_toArray, List.set_cons_zero, List.set_cons_succ, List.getElem_toArray, List.getElem_cons_zero, List.getElem_cons_succ]
  refine wpAnyH_done (by kernel_rfl) ?_ _
  have H7 := Lib.hid hH1
  have kp := BP7.out.cell
  have fp := BP7.out.frozen
  go_wp2_with fail
  have H8 := Lib.hid (H7.out.set (b := w2.heap.size) ⟨14, by simp⟩ 13 (.string y))
  have BP8 := Lib.hid (BP7.out.set 13 (.string y))
  have BR8 := Lib.hid (BR7.out.other (p := ⟨w2.heap.size, 13, none⟩) HN.out (.string y))
  clear kp fp
  refine (HR.out _).mono ?_
  rintro e w9 ⟨rfl, hb⟩
  have H9 := Lib.hid (H8.out.up hb)
  have BR9 := Lib.hid (BR8.out.below hb)
  have BP9 := Lib.hid (BP8.out.below hb)
  clear hb H8 BR8 BP8
  have kp := BP9.out.cell
  go_wp2_with fail
  refine (HY.out _).mono ?_
  rintro e w10 ⟨rfl, hb⟩
  have H10 := Lib.hid (H9.out.up hb)
  have BR10 := Lib.hid (BR9.out.below hb)
  have BP10 := Lib.hid (BP9.out.below hb)
  clear hb kp H9 BR9 BP9
  have kr := BR10.out.cell
  have fr := BR10.out.frozen
  go_wp2_with fail
  refine bodyPost_ret (v := .tuple #[.agg #[.int .i64 0, .int .u64 0, .int .i64 0, .int .u64 0, .int .u64 0, .int .u64 0, .int .u64 0, .bool false, .bool false, .bool false, .bool false, .int .u32 0, .int .i64 0, .string ⟨#[]⟩], .int .i64 2]) (by simp [results, Tryd.results14, go_sem, kr]) rfl ⟨rfl, ?_⟩
  exact (H10.out.set14 (b := w.heap.size) ⟨14, by simp⟩ _ _ _ _ _ _ _ _ _ _ _ _ _ _).below

set_option maxRecDepth 100000 in
set_option maxHeartbeats 16000000 in
theorem rpd_blk_ok (s t : ByteArray) (k l : Int) (w : World) (ho : ∀ w, Calls Tryd.prog 30 #[.string s] w fun e w' => e = .returned (.tuple #[.string t, .int .i64 0]) ∧ Below w.heap.size w w') (h9 : 9 ≤ t.size) (hg : ∀ w, Calls Tryd.prog 31 #[.string (t.extract 1 9)] w fun e w' => e = .returned (.tuple #[.int .u64 l, .bool true]) ∧ Below w.heap.size w w') (hk : ((t[0]'(by omega)).toNat : Int) = k) (hk1 : k ≠ 1) (hkr : 0 ≤ k ∧ k < 256) (tl : ByteArray) (he : t.extract 9 t.size = tl) (hz : (t.size : Int) ≤ 3000) (z : Int) (y : ByteArray) (hb : blockK k = true) (hp : 0 < tl.size) (hzr : 0 ≤ z ∧ z < 256) (hb0 : ((tl[0]'hp).toNat : Int) = z) (hx : tl.extract 1 tl.size = y) (hr : ∀ w, Calls Tryd.prog 11 #[.agg #[.int .i64 k, .int .u64 l, .int .i64 0, .int .u64 0, .int .u64 0, .int .u64 0, .int .u64 0, .bool false, .bool false, .bool false, .bool false, .int .u32 0, .int .i64 z, .string y]] w fun e w' => e = .returned (.bool true) ∧ Below w.heap.size w w') (hy : ∀ w, Calls Tryd.prog 20 #[.agg #[.int .i64 k, .int .u64 l, .int .i64 0, .int .u64 0, .int .u64 0, .int .u64 0, .int .u64 0, .bool false, .bool false, .bool false, .bool false, .int .u32 0, .int .i64 z, .string y]] w fun e w' => e = .returned (.string t) ∧ Below w.heap.size w w') :
    Calls Tryd.prog 14 #[.string s] w fun e w' => e = .returned (.tuple #[.agg #[.int .i64 k, .int .u64 l, .int .i64 0, .int .u64 0, .int .u64 0, .int .u64 0, .int .u64 0, .bool false, .bool false, .bool false, .bool false, .int .u32 0, .int .i64 z, .string y], .int .i64 0]) ∧ Below w.heap.size w w' := by
  have HR := Lib.hid hr; clear hr
  have HY := Lib.hid hy; clear hy
  have hbl := fun w => rblock_any k w
  rw [hb] at hbl
  have HB := Lib.hid hbl; clear hbl
  have e1 : (k == 1) = false := beq_eq_false_iff_ne.2 hk1
  have hwk : wrap64 k = k := by unfold wrap64; omega
  clear hk1 hb hkr
  have hpi : (0 : Int) < (tl.size : Int) := by omega
  have hwz : IntKind.i64.wrap z = z := IntWalk.i64_in z (by omega)
  have hp1 : (1 : Int) ≤ (tl.size : Int) := by omega
  clear hzr
  have HO := Lib.hid ho; clear ho
  have HG := Lib.hid hg; clear hg
  have H0 := Lib.hid ((Held.refl w).own [.int .i64 0, .int .u64 0, .int .i64 0, .int .u64 0, .int .u64 0, .int .u64 0, .int .u64 0, .bool false, .bool false, .bool false, .bool false, .int .u32 0, .int .i64 0, .string ⟨#[]⟩] 30 (n := 14) rfl)
  have BR0 := Lib.hid (Box.new w [.int .i64 0, .int .u64 0, .int .i64 0, .int .u64 0, .int .u64 0, .int .u64 0, .int .u64 0, .bool false, .bool false, .bool false, .bool false, .int .u32 0, .int .i64 0, .string ⟨#[]⟩] 30)
  go_enter Tryd.func14, Tryd.ntmps14
  go_wp2_with fail
  refine (HO.out _).mono ?_
  rintro e w1 ⟨rfl, hb⟩
  have H1 := Lib.hid (H0.out.up hb)
  have BR1 := Lib.hid (BR0.out.below hb)
  clear hb
  go_wp2_with fail
  refine (HG.out _).mono ?_
  rintro e w2 ⟨rfl, hb⟩
  have H2 := Lib.hid (H1.out.up hb)
  have BR2 := Lib.hid (BR1.out.below hb)
  clear hb
  have BP3 := Lib.hid (Box.new w2 [.int .i64 k, .int .u64 l, .int .i64 0, .int .u64 0, .int .u64 0, .int .u64 0, .int .u64 0, .bool false, .bool false, .bool false, .bool false, .int .u32 0, .int .i64 0, .string ⟨#[]⟩] 30)
  have HN := Lib.hid (Nat.ne_of_lt BR2.out.lt)
  have H3 := Lib.hid (H2.out.own [.int .i64 k, .int .u64 l, .int .i64 0, .int .u64 0, .int .u64 0, .int .u64 0, .int .u64 0, .bool false, .bool false, .bool false, .bool false, .int .u32 0, .int .i64 0, .string ⟨#[]⟩] 30 (n := 14) rfl)
  have BR3 := Lib.hid (BR2.out.alloc (.cells ([.int .i64 k, .int .u64 l, .int .i64 0, .int .u64 0, .int .u64 0, .int .u64 0, .int .u64 0, .bool false, .bool false, .bool false, .bool false, .int .u32 0, .int .i64 0, .string ⟨#[]⟩] : List Value).toArray 30))
  go_wp2_with fail
  refine (HB.out _).mono ?_
  rintro e w6 ⟨rfl, rfl⟩
  go_upto_region 15 with fail
  refine held_startP (S := Held w [] [(w2.heap.size, 14), (w.heap.size, 14)]) (by kernel_rfl) H3.out.drew (fun v0 hv0 hH0 => ?_)
  have BP6 := Lib.hid (BP3.out.below hv0)
  have BR6 := Lib.hid (BR3.out.below hv0)
  clear hv0
  refine wpAnyH_take (i := 0) (v := ?_) rfl (by kernel_rfl) (by kernel_rfl) (by kernel_rfl) (fun _ _ _ h => h) (Or.inl ⟨by rfl, ?_⟩) hH0 ?_
  rotate_left
  · (intro v hSw; go_simp; try with_reducible rfl)
  simp only [Act.put, List.setIfInBounds_toArray, List.set_cons_zero, List.set_cons_succ, List.getElem_toArray, List.getElem_cons_zero]
  refine wpAnyH_take (i := 1) (v := ?_) rfl (by kernel_rfl) (by kernel_rfl) (by kernel_rfl) (fun _ _ _ h => h) (Or.inl ⟨by rfl, ?_⟩) hH0 ?_
  rotate_left
  · (intro v hSw; go_simp; try with_reducible rfl)
  simp only [Act.put, List.setIfInBounds_toArray, List.set_cons_zero, List.set_cons_succ, List.getElem_toArray, List.getElem_cons_zero, List.getElem_cons_succ]
  refine wpAnyH_take (i := 2) (v := ?_) rfl (by kernel_rfl) (by kernel_rfl) (by kernel_rfl) (fun _ _ _ h => h) (Or.inl ⟨by rfl, ?_⟩) hH0 ?_
  rotate_left
  · (intro v hSw; go_simp; try with_reducible rfl)
  simp only [Act.put, List.setIfInBounds_toArray, List.set_cons_zero, List.set_cons_succ, List.getElem_toArray, List.getElem_cons_zero, List.getElem_cons_succ]
  refine wpAnyH_take (i := 3) (v := ?_) rfl (by kernel_rfl) (by kernel_rfl) (by kernel_rfl) (fun _ _ _ h => h) (Or.inl ⟨by rfl, ?_⟩) hH0 ?_
  rotate_left
  · (intro v hSw; go_simp; try with_reducible rfl)
  simp only [Act.put, List.setIfInBounds_toArray, List.set_cons_zero, List.set_cons_succ, List.getElem_toArray, List.getElem_cons_zero, List.getElem_cons_succ]
  refine wpAnyH_take (i := 4) (v := ?_) rfl (by kernel_rfl) (by kernel_rfl) (by kernel_rfl) (fun _ _ _ h => h) (Or.inl ⟨by rfl, ?_⟩) hH0 ?_
  rotate_left
  · (intro v hSw; go_simp; try with_reducible rfl)
  simp only [Act.put, List.setIfInBounds_toArray, List.set_cons_zero, List.set_cons_succ, List.getElem_toArray, List.getElem_cons_zero, List.getElem_cons_succ]
  refine wpAnyH_take (i := 5) (v := ?_) rfl (by kernel_rfl) (by kernel_rfl) (by kernel_rfl) (fun _ _ _ h => h) (Or.inl ⟨by rfl, ?_⟩) hH0 ?_
  rotate_left
  · (intro v hSw; go_simp; try with_reducible rfl)
  simp only [Act.put, List.setIfInBounds_toArray, List.set_cons_zero, List.set_cons_succ, List.getElem_toArray, List.getElem_cons_zero, List.getElem_cons_succ]
  refine wpAnyH_ready (rs := [6]) (by kernel_rfl) (by simp) ?_
  refine AllReadyH.cons rfl (fun K hK => ?_) AllReadyH.nil
  have kx := BP6.out.cell
  have fx := BP6.out.frozen
  go_simp
  refine hK.out _ _ (hH0.set (b := w2.heap.size) ⟨14, by simp⟩ 12 (.int .i64 z)) (fun hH1 => ?_)
  have BP7 := Lib.hid (BP6.out.set 12 (.int .i64 z))
  have BR7 := Lib.hid (BR6.out.other (p := ⟨w2.heap.size, 12, none⟩) HN.out (.int .i64 z))
  clear hK K kx fx BP6 BR6
  refine wpAnyH_take (i := 7) (v := ?_) rfl (by kernel_rfl) (by kernel_rfl) (by kernel_rfl) (fun _ _ _ h => h) (Or.inl ⟨by rfl, ?_⟩) hH1 ?_
  rotate_left
  · (intro v hSw; go_simp; try with_reducible rfl)
  simp only [Act.put, List.setIfInBounds_toArray, List.set_cons_zero, List.set_cons_succ, List.getElem_toArray, List.getElem_cons_zero, List.getElem_cons_succ]
  refine wpAnyH_done (by kernel_rfl) ?_ _
  have H7 := Lib.hid hH1
  have kp := BP7.out.cell
  have fp := BP7.out.frozen
  go_wp2_with fail
  have H8 := Lib.hid (H7.out.set (b := w2.heap.size) ⟨14, by simp⟩ 13 (.string y))
  have BP8 := Lib.hid (BP7.out.set 13 (.string y))
  have BR8 := Lib.hid (BR7.out.other (p := ⟨w2.heap.size, 13, none⟩) HN.out (.string y))
  clear kp fp
  refine (HR.out _).mono ?_
  rintro e w9 ⟨rfl, hb⟩
  have H9 := Lib.hid (H8.out.up hb)
  have BR9 := Lib.hid (BR8.out.below hb)
  have BP9 := Lib.hid (BP8.out.below hb)
  clear hb H8 BR8 BP8
  have kp := BP9.out.cell
  go_wp2_with fail
  refine (HY.out _).mono ?_
  rintro e w10 ⟨rfl, hb⟩
  have H10 := Lib.hid (H9.out.up hb)
  have BR10 := Lib.hid (BR9.out.below hb)
  have BP10 := Lib.hid (BP9.out.below hb)
  clear hb kp H9 BR9 BP9
  have kp := BP10.out.cell
  have kr := BR10.out.cell
  have fr := BR10.out.frozen
  go_wp2_with fail
  refine bodyPost_ret (v := .tuple #[.agg #[.int .i64 k, .int .u64 l, .int .i64 0, .int .u64 0, .int .u64 0, .int .u64 0, .int .u64 0, .bool false, .bool false, .bool false, .bool false, .int .u32 0, .int .i64 z, .string y], .int .i64 0]) (by simp [results, Tryd.results14, go_sem, kr]) rfl ⟨rfl, ?_⟩
  exact (H10.out.set14 (b := w.heap.size) ⟨14, by simp⟩ _ _ _ _ _ _ _ _ _ _ _ _ _ _).below

end Go.Proofs.YtbbcncofdhhflaaDoor
