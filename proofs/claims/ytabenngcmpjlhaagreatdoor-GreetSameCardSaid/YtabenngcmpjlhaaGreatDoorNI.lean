/- Nodes: what calls of the document's layers 16 to 21 answer of one, over what they call. No other condition but what each names. -/
import Derived.Test.YtabenngcmpjlhaaGreatDoorPKR
import Derived.Test.YtabenngcmpjlhaaGreatDoorNF
namespace Go.Proofs.YtabenngcmpjlhaaGreatDoor
open Go.RowKit
theorem conv1 {w : World} {g : Nat} {a : Int} {u : ByteArray} (h : Box w g [.int .u8 a]) (hu : strOfNums [a] = u) : (convert 192 9 (.slice (some ⟨g, 0, none⟩) 1 1)).run Tryz.prog w = .ok (.string u) w := by
  subst hu
  refine run_convert_bytes_arg (P := Tryz.prog) _ 192 5 Tryz.underlying192 Tryz.underlying5 g 0 1 1 [a] rfl (fun i hi => ?_) 9 Tryz.underlying9
  match i, hi with
  | 0, _ => exact h.cell 0
theorem head1 (n : Int) (h0 : 0 ≤ n) (h1 : n < 256) : strOfNums [IntKind.u8.wrap n] = txt [UInt8.ofNat n.toNat] := by
  rw [IntWalk.u8_in n (by omega)]
  simp only [strOfNums, List.map_cons, List.map_nil, txt]
theorem txt_end (l : List UInt8) (t : ByteArray) : txt l ++ t = txt (l ++ t.data.toList) := by
  have := txt_app l t.data.toList
  rw [← this]
set_option maxRecDepth 100000 in
set_option maxHeartbeats 8000000 in
theorem rby_hello (s n c b o p : Int) (i r d q : Bool) (m : Nat) (z : Int) (t : ByteArray) (w : World) (hs : 0 ≤ s ∧ s < 18446744073709551616) (u y x1 x3 : ByteArray) (hu : strOfNums [IntKind.u8.wrap 1] = u) (hy : (⟨(be 8 s.toNat).toArray⟩ : ByteArray) = y) (h1 : u ++ y = x1) (zu : u.size = 1) (zy : y.size = 8) (z1 : x1.size = 9) (zt : t.size ≤ 8) (hw : (⟨n, c, b, o, p, i, r, d, q, m⟩ : Hel).wide) (hr : (⟨n, c, b, o, p, i, r, d, q, m⟩ : Hel).right = true) (g x2 : ByteArray) (hg : (⟨n, c, b, o, p, i, r, d, q, m⟩ : Hel).bytes = g) (zg : g.size = 38) (h2 : x1 ++ g = x2) (z2 : x2.size = 47) (h3 : x2 ++ t = x3) :
    Calls Tryz.prog 94 #[.agg #[.int .i64 1, .int .u64 s, .int .i64 n, .int .u64 c, .int .u64 b, .int .u64 o, .int .u64 p, .bool i, .bool r, .bool d, .bool q, .int .u32 (m : Int), .int .i64 z, .string t]] w fun e w' => e = .returned (.string x3) ∧ Below w.heap.size w w' := by
  have hp := fun w => rput64_any s w hs.1 hs.2
  rw [hy] at hp
  have HP := Lib.hid hp; clear hp hy hs
  have HU := Lib.hid hu; clear hu
  have hbl := fun w => rblock_any 1 w
  rw [block_of_one] at hbl
  have he := fun w => rhencode_yes ⟨n, c, b, o, p, i, r, d, q, m⟩ w hw hr
  rw [hg] at he
  clear hw hr hg
  have HE := Lib.hid he; clear he
  have HB := Lib.hid hbl; clear hbl
  have H0 := Lib.hid ((Held.refl w).lay [.int .i64 1, .int .u64 s, .int .i64 n, .int .u64 c, .int .u64 b, .int .u64 o, .int .u64 p, .bool i, .bool r, .bool d, .bool q, .int .u32 (m : Int), .int .i64 z, .string t] 93)
  go_enter Tryz.func94, Tryz.ntmps94
  go_wp2_with fail
  refine held_begin (by kernel_rfl) H0.out (fun v0 hH0 => ?_)
  refine wpAnyH_take (i := 0) (v := ?_) rfl (by kernel_rfl) (by kernel_rfl) (by kernel_rfl) (fun _ _ _ h => h) (Or.inl ⟨by rfl, ?_⟩) hH0 ?_
  rotate_left
  · (intro v hSw; go_simp; try with_reducible rfl)
  simp only [Act.put, List.setIfInBounds_toArray, List.set_cons_zero, List.set_cons_succ, List.getElem_toArray, List.getElem_cons_zero]
  refine wpAnyH_take (i := 1) (v := ?_) rfl (by kernel_rfl) (by kernel_rfl) (by kernel_rfl) (fun _ _ _ h => h) (Or.inl ⟨by rfl, ?_⟩) hH0 ?_
  rotate_left
  · (intro v hSw; have k0 := hSw.b0.cell; go_simp; try with_reducible rfl)
  simp only [Act.put, List.setIfInBounds_toArray, List.set_cons_zero, List.set_cons_succ, List.getElem_toArray, List.getElem_cons_zero, List.getElem_cons_succ]
  refine wpAnyH_take (i := 2) (v := ?_) rfl (by kernel_rfl) (by kernel_rfl) (by kernel_rfl) (fun _ _ _ h => h) (Or.inl ⟨by rfl, ?_⟩) hH0 ?_
  rotate_left
  · (intro v hSw; go_simp; try with_reducible rfl)
  simp only [Act.put, List.setIfInBounds_toArray, List.set_cons_zero, List.set_cons_succ, List.getElem_toArray, List.getElem_cons_zero, List.getElem_cons_succ]
  refine wpAnyH_take (i := 5) (v := ?_) rfl (by kernel_rfl) (by kernel_rfl) (by kernel_rfl) (fun _ _ _ h => h) (Or.inl ⟨by rfl, ?_⟩) hH0 ?_
  rotate_left
  · (intro v hSw; go_simp; try with_reducible rfl)
  simp only [Act.put, List.setIfInBounds_toArray, List.set_cons_zero, List.set_cons_succ, List.getElem_toArray, List.getElem_cons_zero, List.getElem_cons_succ]
  refine wpAnyH_take (i := 6) (v := ?_) rfl (by kernel_rfl) (by kernel_rfl) (by kernel_rfl) (fun _ _ _ h => h) (Or.inl ⟨by rfl, ?_⟩) hH0 ?_
  rotate_left
  · (intro v hSw; have k0 := hSw.b0.cell; go_simp; try with_reducible rfl)
  simp only [Act.put, List.setIfInBounds_toArray, List.set_cons_zero, List.set_cons_succ, List.getElem_toArray, List.getElem_cons_zero, List.getElem_cons_succ]
  refine wpAnyH_ready (rs := [3, 7]) (by kernel_rfl) (by simp) ?_
  refine AllReadyH.cons rfl (fun K hK => ?_) ?_
  · go_simp
    refine hK.out _ _ (hH0.alloc _) (fun hX => ?_)
    refine laid_box hH0 (fun v1 hH1 => ?_)
    clear hK K hX hH0
    refine wpAnyH_take (i := 4) (v := ?_) rfl (by kernel_rfl) (by kernel_rfl) (by kernel_rfl) (fun _ _ _ h => h) (Or.inl ⟨by rfl, ?_⟩) hH1 ?_
    rotate_left
    · (intro v hSw; have c1 := conv1 hSw.b0 HU.out; go_simp; try with_reducible rfl)
    simp only [Act.put, List.setIfInBounds_toArray, List.set_cons_zero, List.set_cons_succ, List.getElem_toArray, List.getElem_cons_zero, List.getElem_cons_succ]
    refine wpAnyH_ready (rs := [7]) (by kernel_rfl) (by simp) ?_
    refine AllReadyH.cons rfl (fun K hK => ?_) AllReadyH.nil
    go_simp
    refine (HP.out _).mono ?_
    rintro e v2 ⟨rfl, hb⟩
    go_wp2_with fail
    refine hK.out _ _ (hH1.up hb) (fun hH2 => ?_)
    clear hK K hH1
    refine wpAnyH_take (i := 8) (v := ?_) rfl (by kernel_rfl) (by kernel_rfl) (by kernel_rfl) (fun _ _ _ h => h) (Or.inl ⟨by rfl, ?_⟩) hH2 ?_
    rotate_left
    · (intro v hSw; go_simp; try with_reducible rfl)
    simp only [Act.put, List.setIfInBounds_toArray, List.set_cons_zero, List.set_cons_succ, List.getElem_toArray, List.getElem_cons_zero, List.getElem_cons_succ]
    refine wpAnyH_take (i := 9) (v := ?_) rfl (by kernel_rfl) (by kernel_rfl) (by kernel_rfl) (fun _ _ _ h => h) (Or.inl ⟨by rfl, ?_⟩) hH2 ?_
    rotate_left
    · (intro v hSw; go_simp; try with_reducible rfl)
    simp only [Act.put, List.setIfInBounds_toArray, List.set_cons_zero, List.set_cons_succ, List.getElem_toArray, List.getElem_cons_zero, List.getElem_cons_succ]
    refine wpAnyH_done (by kernel_rfl) ?_ _
    have k1 := hH2.b1.cell
    have HZ := Lib.hid hH2
    go_wp2_with fail
    refine (HE.out _).mono ?_
    rintro e w5 ⟨rfl, hb⟩
    replace HZ := Lib.hid (HZ.out.up hb)
    clear hb k1
    have k1 := HZ.out.b1.cell
    go_wp2_with fail
    refine (HB.out _).mono ?_
    rintro e w6 ⟨rfl, rfl⟩
    go_wp2_with fail
    go_ret
    exact ⟨rfl, HZ.out.below⟩
  refine AllReadyH.cons rfl (fun K hK => ?_) AllReadyH.nil
  go_simp
  refine (HP.out _).mono ?_
  rintro e v3 ⟨rfl, hb⟩
  go_wp2_with fail
  refine hK.out _ _ (hH0.up hb) (fun hH3 => ?_)
  clear hK K hH0
  refine wpAnyH_ready (rs := [3]) (by kernel_rfl) (by simp) ?_
  refine AllReadyH.cons rfl (fun K hK => ?_) AllReadyH.nil
  go_simp
  refine hK.out _ _ (hH3.alloc _) (fun hX => ?_)
  refine laid_box hH3 (fun v4 hH4 => ?_)
  clear hK K hX hH3
  refine wpAnyH_take (i := 4) (v := ?_) rfl (by kernel_rfl) (by kernel_rfl) (by kernel_rfl) (fun _ _ _ h => h) (Or.inl ⟨by rfl, ?_⟩) hH4 ?_
  rotate_left
  · (intro v hSw; have c1 := conv1 hSw.b0 HU.out; go_simp; try with_reducible rfl)
  simp only [Act.put, List.setIfInBounds_toArray, List.set_cons_zero, List.set_cons_succ, List.getElem_toArray, List.getElem_cons_zero, List.getElem_cons_succ]
  refine wpAnyH_take (i := 8) (v := ?_) rfl (by kernel_rfl) (by kernel_rfl) (by kernel_rfl) (fun _ _ _ h => h) (Or.inl ⟨by rfl, ?_⟩) hH4 ?_
  rotate_left
  · (intro v hSw; go_simp; try with_reducible rfl)
  simp only [Act.put, List.setIfInBounds_toArray, List.set_cons_zero, List.set_cons_succ, List.getElem_toArray, List.getElem_cons_zero, List.getElem_cons_succ]
  refine wpAnyH_take (i := 9) (v := ?_) rfl (by kernel_rfl) (by kernel_rfl) (by kernel_rfl) (fun _ _ _ h => h) (Or.inl ⟨by rfl, ?_⟩) hH4 ?_
  rotate_left
  · (intro v hSw; go_simp; try with_reducible rfl)
  simp only [Act.put, List.setIfInBounds_toArray, List.set_cons_zero, List.set_cons_succ, List.getElem_toArray, List.getElem_cons_zero, List.getElem_cons_succ]
  refine wpAnyH_done (by kernel_rfl) ?_ _
  have k1 := hH4.b1.cell
  have HZ := Lib.hid hH4
  go_wp2_with fail
  refine (HE.out _).mono ?_
  rintro e w5 ⟨rfl, hb⟩
  replace HZ := Lib.hid (HZ.out.up hb)
  clear hb k1
  have k1 := HZ.out.b1.cell
  go_wp2_with fail
  refine (HB.out _).mono ?_
  rintro e w6 ⟨rfl, rfl⟩
  go_wp2_with fail
  go_ret
  exact ⟨rfl, HZ.out.below⟩
set_option maxRecDepth 100000 in
set_option maxHeartbeats 8000000 in
theorem rby_block (k s n c b o p : Int) (i r d q : Bool) (m : Nat) (z : Int) (t : ByteArray) (w : World) (hs : 0 ≤ s ∧ s < 18446744073709551616) (u y x1 x3 : ByteArray) (hu : strOfNums [IntKind.u8.wrap k] = u) (hy : (⟨(be 8 s.toNat).toArray⟩ : ByteArray) = y) (h1 : u ++ y = x1) (zu : u.size = 1) (zy : y.size = 8) (z1 : x1.size = 9) (zt : t.size ≤ 8) (hk : k ≠ 1) (hb : blockK k = true) (v x2 : ByteArray) (hv : strOfNums [z % 256] = v) (zv : v.size = 1) (h2 : x1 ++ v = x2) (z2 : x2.size = 10) (h3 : x2 ++ t = x3) :
    Calls Tryz.prog 94 #[.agg #[.int .i64 k, .int .u64 s, .int .i64 n, .int .u64 c, .int .u64 b, .int .u64 o, .int .u64 p, .bool i, .bool r, .bool d, .bool q, .int .u32 (m : Int), .int .i64 z, .string t]] w fun e w' => e = .returned (.string x3) ∧ Below w.heap.size w w' := by
  have hp := fun w => rput64_any s w hs.1 hs.2
  rw [hy] at hp
  have HP := Lib.hid hp; clear hp hy hs
  have HU := Lib.hid hu; clear hu
  have hbl := fun w => rblock_any k w
  rw [hb] at hbl
  have e1 : (k == 1) = false := beq_eq_false_iff_ne.2 hk
  clear hk hb
  have HB := Lib.hid hbl; clear hbl
  have c2 := fun w => conv1 (Box.new w [.int .u8 (z % 256)] 5) hv
  clear hv
  have H0 := Lib.hid ((Held.refl w).lay [.int .i64 k, .int .u64 s, .int .i64 n, .int .u64 c, .int .u64 b, .int .u64 o, .int .u64 p, .bool i, .bool r, .bool d, .bool q, .int .u32 (m : Int), .int .i64 z, .string t] 93)
  go_enter Tryz.func94, Tryz.ntmps94
  go_wp2_with fail
  refine held_begin (by kernel_rfl) H0.out (fun v0 hH0 => ?_)
  refine wpAnyH_take (i := 0) (v := ?_) rfl (by kernel_rfl) (by kernel_rfl) (by kernel_rfl) (fun _ _ _ h => h) (Or.inl ⟨by rfl, ?_⟩) hH0 ?_
  rotate_left
  · (intro v hSw; go_simp; try with_reducible rfl)
  simp only [Act.put, List.setIfInBounds_toArray, List.set_cons_zero, List.set_cons_succ, List.getElem_toArray, List.getElem_cons_zero]
  refine wpAnyH_take (i := 1) (v := ?_) rfl (by kernel_rfl) (by kernel_rfl) (by kernel_rfl) (fun _ _ _ h => h) (Or.inl ⟨by rfl, ?_⟩) hH0 ?_
  rotate_left
  · (intro v hSw; have k0 := hSw.b0.cell; go_simp; try with_reducible rfl)
  simp only [Act.put, List.setIfInBounds_toArray, List.set_cons_zero, List.set_cons_succ, List.getElem_toArray, List.getElem_cons_zero, List.getElem_cons_succ]
  refine wpAnyH_take (i := 2) (v := ?_) rfl (by kernel_rfl) (by kernel_rfl) (by kernel_rfl) (fun _ _ _ h => h) (Or.inl ⟨by rfl, ?_⟩) hH0 ?_
  rotate_left
  · (intro v hSw; go_simp; try with_reducible rfl)
  simp only [Act.put, List.setIfInBounds_toArray, List.set_cons_zero, List.set_cons_succ, List.getElem_toArray, List.getElem_cons_zero, List.getElem_cons_succ]
  refine wpAnyH_take (i := 5) (v := ?_) rfl (by kernel_rfl) (by kernel_rfl) (by kernel_rfl) (fun _ _ _ h => h) (Or.inl ⟨by rfl, ?_⟩) hH0 ?_
  rotate_left
  · (intro v hSw; go_simp; try with_reducible rfl)
  simp only [Act.put, List.setIfInBounds_toArray, List.set_cons_zero, List.set_cons_succ, List.getElem_toArray, List.getElem_cons_zero, List.getElem_cons_succ]
  refine wpAnyH_take (i := 6) (v := ?_) rfl (by kernel_rfl) (by kernel_rfl) (by kernel_rfl) (fun _ _ _ h => h) (Or.inl ⟨by rfl, ?_⟩) hH0 ?_
  rotate_left
  · (intro v hSw; have k0 := hSw.b0.cell; go_simp; try with_reducible rfl)
  simp only [Act.put, List.setIfInBounds_toArray, List.set_cons_zero, List.set_cons_succ, List.getElem_toArray, List.getElem_cons_zero, List.getElem_cons_succ]
  refine wpAnyH_ready (rs := [3, 7]) (by kernel_rfl) (by simp) ?_
  refine AllReadyH.cons rfl (fun K hK => ?_) ?_
  · go_simp
    refine hK.out _ _ (hH0.alloc _) (fun hX => ?_)
    refine laid_box hH0 (fun v1 hH1 => ?_)
    clear hK K hX hH0
    refine wpAnyH_take (i := 4) (v := ?_) rfl (by kernel_rfl) (by kernel_rfl) (by kernel_rfl) (fun _ _ _ h => h) (Or.inl ⟨by rfl, ?_⟩) hH1 ?_
    rotate_left
    · (intro v hSw; have c1 := conv1 hSw.b0 HU.out; go_simp; try with_reducible rfl)
    simp only [Act.put, List.setIfInBounds_toArray, List.set_cons_zero, List.set_cons_succ, List.getElem_toArray, List.getElem_cons_zero, List.getElem_cons_succ]
    refine wpAnyH_ready (rs := [7]) (by kernel_rfl) (by simp) ?_
    refine AllReadyH.cons rfl (fun K hK => ?_) AllReadyH.nil
    go_simp
    refine (HP.out _).mono ?_
    rintro e v2 ⟨rfl, hb⟩
    go_wp2_with fail
    refine hK.out _ _ (hH1.up hb) (fun hH2 => ?_)
    clear hK K hH1
    refine wpAnyH_take (i := 8) (v := ?_) rfl (by kernel_rfl) (by kernel_rfl) (by kernel_rfl) (fun _ _ _ h => h) (Or.inl ⟨by rfl, ?_⟩) hH2 ?_
    rotate_left
    · (intro v hSw; go_simp; try with_reducible rfl)
    simp only [Act.put, List.setIfInBounds_toArray, List.set_cons_zero, List.set_cons_succ, List.getElem_toArray, List.getElem_cons_zero, List.getElem_cons_succ]
    refine wpAnyH_take (i := 9) (v := ?_) rfl (by kernel_rfl) (by kernel_rfl) (by kernel_rfl) (fun _ _ _ h => h) (Or.inl ⟨by rfl, ?_⟩) hH2 ?_
    rotate_left
    · (intro v hSw; go_simp; try with_reducible rfl)
    simp only [Act.put, List.setIfInBounds_toArray, List.set_cons_zero, List.set_cons_succ, List.getElem_toArray, List.getElem_cons_zero, List.getElem_cons_succ]
    refine wpAnyH_done (by kernel_rfl) ?_ _
    have k1 := hH2.b1.cell
    have HZ := Lib.hid hH2
    go_wp2_with fail
    refine (HB.out _).mono ?_
    rintro e w6 ⟨rfl, rfl⟩
    have k2 := ((HZ.out.alloc (.cells #[.int .u8 (z % 256)] 5))).b1.cell
    go_wp2_with fail
    go_ret
    exact ⟨rfl, (HZ.out.alloc (.cells #[.int .u8 (z % 256)] 5)).below⟩
  refine AllReadyH.cons rfl (fun K hK => ?_) AllReadyH.nil
  go_simp
  refine (HP.out _).mono ?_
  rintro e v3 ⟨rfl, hb⟩
  go_wp2_with fail
  refine hK.out _ _ (hH0.up hb) (fun hH3 => ?_)
  clear hK K hH0
  refine wpAnyH_ready (rs := [3]) (by kernel_rfl) (by simp) ?_
  refine AllReadyH.cons rfl (fun K hK => ?_) AllReadyH.nil
  go_simp
  refine hK.out _ _ (hH3.alloc _) (fun hX => ?_)
  refine laid_box hH3 (fun v4 hH4 => ?_)
  clear hK K hX hH3
  refine wpAnyH_take (i := 4) (v := ?_) rfl (by kernel_rfl) (by kernel_rfl) (by kernel_rfl) (fun _ _ _ h => h) (Or.inl ⟨by rfl, ?_⟩) hH4 ?_
  rotate_left
  · (intro v hSw; have c1 := conv1 hSw.b0 HU.out; go_simp; try with_reducible rfl)
  simp only [Act.put, List.setIfInBounds_toArray, List.set_cons_zero, List.set_cons_succ, List.getElem_toArray, List.getElem_cons_zero, List.getElem_cons_succ]
  refine wpAnyH_take (i := 8) (v := ?_) rfl (by kernel_rfl) (by kernel_rfl) (by kernel_rfl) (fun _ _ _ h => h) (Or.inl ⟨by rfl, ?_⟩) hH4 ?_
  rotate_left
  · (intro v hSw; go_simp; try with_reducible rfl)
  simp only [Act.put, List.setIfInBounds_toArray, List.set_cons_zero, List.set_cons_succ, List.getElem_toArray, List.getElem_cons_zero, List.getElem_cons_succ]
  refine wpAnyH_take (i := 9) (v := ?_) rfl (by kernel_rfl) (by kernel_rfl) (by kernel_rfl) (fun _ _ _ h => h) (Or.inl ⟨by rfl, ?_⟩) hH4 ?_
  rotate_left
  · (intro v hSw; go_simp; try with_reducible rfl)
  simp only [Act.put, List.setIfInBounds_toArray, List.set_cons_zero, List.set_cons_succ, List.getElem_toArray, List.getElem_cons_zero, List.getElem_cons_succ]
  refine wpAnyH_done (by kernel_rfl) ?_ _
  have k1 := hH4.b1.cell
  have HZ := Lib.hid hH4
  go_wp2_with fail
  refine (HB.out _).mono ?_
  rintro e w6 ⟨rfl, rfl⟩
  have k2 := ((HZ.out.alloc (.cells #[.int .u8 (z % 256)] 5))).b1.cell
  go_wp2_with fail
  go_ret
  exact ⟨rfl, (HZ.out.alloc (.cells #[.int .u8 (z % 256)] 5)).below⟩
set_option maxRecDepth 100000 in
set_option maxHeartbeats 8000000 in
theorem rby_plain (k s n c b o p : Int) (i r d q : Bool) (m : Nat) (z : Int) (t : ByteArray) (w : World) (hs : 0 ≤ s ∧ s < 18446744073709551616) (u y x1 x3 : ByteArray) (hu : strOfNums [IntKind.u8.wrap k] = u) (hy : (⟨(be 8 s.toNat).toArray⟩ : ByteArray) = y) (h1 : u ++ y = x1) (zu : u.size = 1) (zy : y.size = 8) (z1 : x1.size = 9) (zt : t.size ≤ 8) (hk : k ≠ 1) (hb : blockK k = false) (h3 : x1 ++ t = x3) :
    Calls Tryz.prog 94 #[.agg #[.int .i64 k, .int .u64 s, .int .i64 n, .int .u64 c, .int .u64 b, .int .u64 o, .int .u64 p, .bool i, .bool r, .bool d, .bool q, .int .u32 (m : Int), .int .i64 z, .string t]] w fun e w' => e = .returned (.string x3) ∧ Below w.heap.size w w' := by
  have hp := fun w => rput64_any s w hs.1 hs.2
  rw [hy] at hp
  have HP := Lib.hid hp; clear hp hy hs
  have HU := Lib.hid hu; clear hu
  have hbl := fun w => rblock_any k w
  rw [hb] at hbl
  have e1 : (k == 1) = false := beq_eq_false_iff_ne.2 hk
  clear hk hb
  have HB := Lib.hid hbl; clear hbl
  have H0 := Lib.hid ((Held.refl w).lay [.int .i64 k, .int .u64 s, .int .i64 n, .int .u64 c, .int .u64 b, .int .u64 o, .int .u64 p, .bool i, .bool r, .bool d, .bool q, .int .u32 (m : Int), .int .i64 z, .string t] 93)
  go_enter Tryz.func94, Tryz.ntmps94
  go_wp2_with fail
  refine held_begin (by kernel_rfl) H0.out (fun v0 hH0 => ?_)
  refine wpAnyH_take (i := 0) (v := ?_) rfl (by kernel_rfl) (by kernel_rfl) (by kernel_rfl) (fun _ _ _ h => h) (Or.inl ⟨by rfl, ?_⟩) hH0 ?_
  rotate_left
  · (intro v hSw; go_simp; try with_reducible rfl)
  simp only [Act.put, List.setIfInBounds_toArray, List.set_cons_zero, List.set_cons_succ, List.getElem_toArray, List.getElem_cons_zero]
  refine wpAnyH_take (i := 1) (v := ?_) rfl (by kernel_rfl) (by kernel_rfl) (by kernel_rfl) (fun _ _ _ h => h) (Or.inl ⟨by rfl, ?_⟩) hH0 ?_
  rotate_left
  · (intro v hSw; have k0 := hSw.b0.cell; go_simp; try with_reducible rfl)
  simp only [Act.put, List.setIfInBounds_toArray, List.set_cons_zero, List.set_cons_succ, List.getElem_toArray, List.getElem_cons_zero, List.getElem_cons_succ]
  refine wpAnyH_take (i := 2) (v := ?_) rfl (by kernel_rfl) (by kernel_rfl) (by kernel_rfl) (fun _ _ _ h => h) (Or.inl ⟨by rfl, ?_⟩) hH0 ?_
  rotate_left
  · (intro v hSw; go_simp; try with_reducible rfl)
  simp only [Act.put, List.setIfInBounds_toArray, List.set_cons_zero, List.set_cons_succ, List.getElem_toArray, List.getElem_cons_zero, List.getElem_cons_succ]
  refine wpAnyH_take (i := 5) (v := ?_) rfl (by kernel_rfl) (by kernel_rfl) (by kernel_rfl) (fun _ _ _ h => h) (Or.inl ⟨by rfl, ?_⟩) hH0 ?_
  rotate_left
  · (intro v hSw; go_simp; try with_reducible rfl)
  simp only [Act.put, List.setIfInBounds_toArray, List.set_cons_zero, List.set_cons_succ, List.getElem_toArray, List.getElem_cons_zero, List.getElem_cons_succ]
  refine wpAnyH_take (i := 6) (v := ?_) rfl (by kernel_rfl) (by kernel_rfl) (by kernel_rfl) (fun _ _ _ h => h) (Or.inl ⟨by rfl, ?_⟩) hH0 ?_
  rotate_left
  · (intro v hSw; have k0 := hSw.b0.cell; go_simp; try with_reducible rfl)
  simp only [Act.put, List.setIfInBounds_toArray, List.set_cons_zero, List.set_cons_succ, List.getElem_toArray, List.getElem_cons_zero, List.getElem_cons_succ]
  refine wpAnyH_ready (rs := [3, 7]) (by kernel_rfl) (by simp) ?_
  refine AllReadyH.cons rfl (fun K hK => ?_) ?_
  · go_simp
    refine hK.out _ _ (hH0.alloc _) (fun hX => ?_)
    refine laid_box hH0 (fun v1 hH1 => ?_)
    clear hK K hX hH0
    refine wpAnyH_take (i := 4) (v := ?_) rfl (by kernel_rfl) (by kernel_rfl) (by kernel_rfl) (fun _ _ _ h => h) (Or.inl ⟨by rfl, ?_⟩) hH1 ?_
    rotate_left
    · (intro v hSw; have c1 := conv1 hSw.b0 HU.out; go_simp; try with_reducible rfl)
    simp only [Act.put, List.setIfInBounds_toArray, List.set_cons_zero, List.set_cons_succ, List.getElem_toArray, List.getElem_cons_zero, List.getElem_cons_succ]
    refine wpAnyH_ready (rs := [7]) (by kernel_rfl) (by simp) ?_
    refine AllReadyH.cons rfl (fun K hK => ?_) AllReadyH.nil
    go_simp
    refine (HP.out _).mono ?_
    rintro e v2 ⟨rfl, hb⟩
    go_wp2_with fail
    refine hK.out _ _ (hH1.up hb) (fun hH2 => ?_)
    clear hK K hH1
    refine wpAnyH_take (i := 8) (v := ?_) rfl (by kernel_rfl) (by kernel_rfl) (by kernel_rfl) (fun _ _ _ h => h) (Or.inl ⟨by rfl, ?_⟩) hH2 ?_
    rotate_left
    · (intro v hSw; go_simp; try with_reducible rfl)
    simp only [Act.put, List.setIfInBounds_toArray, List.set_cons_zero, List.set_cons_succ, List.getElem_toArray, List.getElem_cons_zero, List.getElem_cons_succ]
    refine wpAnyH_take (i := 9) (v := ?_) rfl (by kernel_rfl) (by kernel_rfl) (by kernel_rfl) (fun _ _ _ h => h) (Or.inl ⟨by rfl, ?_⟩) hH2 ?_
    rotate_left
    · (intro v hSw; go_simp; try with_reducible rfl)
    simp only [Act.put, List.setIfInBounds_toArray, List.set_cons_zero, List.set_cons_succ, List.getElem_toArray, List.getElem_cons_zero, List.getElem_cons_succ]
    refine wpAnyH_done (by kernel_rfl) ?_ _
    have k1 := hH2.b1.cell
    have HZ := Lib.hid hH2
    go_wp2_with fail
    refine (HB.out _).mono ?_
    rintro e w6 ⟨rfl, rfl⟩
    go_wp2_with fail
    go_ret
    exact ⟨rfl, HZ.out.below⟩
  refine AllReadyH.cons rfl (fun K hK => ?_) AllReadyH.nil
  go_simp
  refine (HP.out _).mono ?_
  rintro e v3 ⟨rfl, hb⟩
  go_wp2_with fail
  refine hK.out _ _ (hH0.up hb) (fun hH3 => ?_)
  clear hK K hH0
  refine wpAnyH_ready (rs := [3]) (by kernel_rfl) (by simp) ?_
  refine AllReadyH.cons rfl (fun K hK => ?_) AllReadyH.nil
  go_simp
  refine hK.out _ _ (hH3.alloc _) (fun hX => ?_)
  refine laid_box hH3 (fun v4 hH4 => ?_)
  clear hK K hX hH3
  refine wpAnyH_take (i := 4) (v := ?_) rfl (by kernel_rfl) (by kernel_rfl) (by kernel_rfl) (fun _ _ _ h => h) (Or.inl ⟨by rfl, ?_⟩) hH4 ?_
  rotate_left
  · (intro v hSw; have c1 := conv1 hSw.b0 HU.out; go_simp; try with_reducible rfl)
  simp only [Act.put, List.setIfInBounds_toArray, List.set_cons_zero, List.set_cons_succ, List.getElem_toArray, List.getElem_cons_zero, List.getElem_cons_succ]
  refine wpAnyH_take (i := 8) (v := ?_) rfl (by kernel_rfl) (by kernel_rfl) (by kernel_rfl) (fun _ _ _ h => h) (Or.inl ⟨by rfl, ?_⟩) hH4 ?_
  rotate_left
  · (intro v hSw; go_simp; try with_reducible rfl)
  simp only [Act.put, List.setIfInBounds_toArray, List.set_cons_zero, List.set_cons_succ, List.getElem_toArray, List.getElem_cons_zero, List.getElem_cons_succ]
  refine wpAnyH_take (i := 9) (v := ?_) rfl (by kernel_rfl) (by kernel_rfl) (by kernel_rfl) (fun _ _ _ h => h) (Or.inl ⟨by rfl, ?_⟩) hH4 ?_
  rotate_left
  · (intro v hSw; go_simp; try with_reducible rfl)
  simp only [Act.put, List.setIfInBounds_toArray, List.set_cons_zero, List.set_cons_succ, List.getElem_toArray, List.getElem_cons_zero, List.getElem_cons_succ]
  refine wpAnyH_done (by kernel_rfl) ?_ _
  have k1 := hH4.b1.cell
  have HZ := Lib.hid hH4
  go_wp2_with fail
  refine (HB.out _).mono ?_
  rintro e w6 ⟨rfl, rfl⟩
  go_wp2_with fail
  go_ret
  exact ⟨rfl, HZ.out.below⟩
theorem one_size (x : UInt8) : (txt [x]).size = 1 := rfl
theorem be8_txt (n : Nat) : (⟨(be 8 n).toArray⟩ : ByteArray) = txt (be 8 n) := rfl
theorem txt_two (l r : List UInt8) : txt l ++ txt r = txt (l ++ r) := txt_app l r
theorem rpbytes_any (x : Pkt) (w : World) (hw : x.wide) (hr : x.right = true) : Calls Tryz.prog 94 #[pktV x] w fun e w' => e = .returned (.string (txt x.body)) ∧ Below w.heap.size w w' := by
  obtain ⟨⟨k0, k1⟩, r1, r2, ⟨b0, b1⟩, r3, r4, r5⟩ := Pkt.right_parts hr
  obtain ⟨k, s, h, z, t⟩ := x
  obtain ⟨n, c, b, o, p, i, r, d, q, m⟩ := h
  dsimp only at *
  have hu := head1 k (by omega) (by omega)
  have zt : t.size ≤ 8 := by
    cases e : dataK k
    · have := r5 e; omega
    · have := r4 e; omega
  have zu := one_size (UInt8.ofNat k.toNat)
  have zy := be8_size s.toNat
  have z1 : (txt [UInt8.ofNat k.toNat] ++ (⟨(be 8 s.toNat).toArray⟩ : ByteArray)).size = 9 := by rw [ByteArray.size_append, zu, zy]
  by_cases h1 : k = 1
  · subst h1
    have zg := hbytes_size ⟨n, c, b, o, p, i, r, d, q, m⟩
    have hx : txt (Pkt.body ⟨1, s, ⟨n, c, b, o, p, i, r, d, q, m⟩, z, t⟩) = txt [UInt8.ofNat (1 : Int).toNat] ++ (⟨(be 8 s.toNat).toArray⟩ : ByteArray) ++ (⟨n, c, b, o, p, i, r, d, q, m⟩ : Hel).bytes ++ t := by
      unfold Hel.bytes Pkt.body
      dsimp only
      rw [be8_txt, txt_two, txt_two, txt_end, if_pos rfl, block_of_one, if_neg (by simp), List.append_nil]
    exact rby_hello s n c b o p i r d q m z t w hw.1 _ _ _ _ hu rfl rfl zu zy z1 zt hw.2 (r1 rfl) _ _ rfl zg rfl (by rw [ByteArray.size_append, z1, zg]) hx.symm
  · cases hb : blockK k
    · have hx : txt (Pkt.body ⟨k, s, ⟨n, c, b, o, p, i, r, d, q, m⟩, z, t⟩) = txt [UInt8.ofNat k.toNat] ++ (⟨(be 8 s.toNat).toArray⟩ : ByteArray) ++ t := by
        unfold Pkt.body
        dsimp only
        rw [be8_txt, txt_two, txt_end, if_neg h1, hb, if_neg (by simp), List.append_nil, List.append_nil]
      exact rby_plain k s n c b o p i r d q m z t w hw.1 _ _ _ _ hu rfl rfl zu zy z1 zt h1 hb hx.symm
    · have hz : strOfNums [z % 256] = txt [UInt8.ofNat z.toNat] := by
        have := head1 z (by omega) (by omega)
        rw [IntWalk.u8_in z (by omega)] at this
        rw [Int.emod_eq_of_lt (by omega) (by omega)]
        exact this
      have hx : txt (Pkt.body ⟨k, s, ⟨n, c, b, o, p, i, r, d, q, m⟩, z, t⟩) = txt [UInt8.ofNat k.toNat] ++ (⟨(be 8 s.toNat).toArray⟩ : ByteArray) ++ txt [UInt8.ofNat z.toNat] ++ t := by
        unfold Pkt.body
        dsimp only
        rw [be8_txt, txt_two, txt_two, txt_end, if_neg h1, hb, if_pos rfl, List.append_nil]
      exact rby_block k s n c b o p i r d q m z t w hw.1 _ _ _ _ hu rfl rfl zu zy z1 zt h1 hb _ _ hz (one_size _) rfl (by rw [ByteArray.size_append, z1, one_size]) hx.symm
theorem body_few (x : Pkt) (hr : x.right = true) : x.body.length ≤ 60 := by
  obtain ⟨_, _, _, _, _, r4, r5⟩ := Pkt.right_parts hr
  rw [pbody_length]
  have : x.d.size ≤ 8 := by
    cases e : dataK x.k
    · have := r5 e; omega
    · have := r4 e; omega
  split <;> split <;> omega
set_option maxRecDepth 100000 in
set_option maxHeartbeats 2000000 in
theorem rpencode_any (x : Pkt) (w : World) (hw : x.wide) : Calls Tryz.prog 139 #[pktV x] w fun e w' => e = .returned (.tuple #[.string x.encT, .int .i64 x.encE]) ∧ Below w.heap.size w w' := by
  have h1 := fun w => rpright_any x w hw.2.2.2.2.2
  unfold Pkt.encT Pkt.encE
  cases hr : x.right
  · rw [if_neg (by simp), if_neg (by simp)]
    rw [hr] at h1
    obtain ⟨k, s, ⟨n, c, b, o, p, i, r, d, q, m⟩, z, t⟩ := x
    clear hw hr
    dsimp only [pktV] at *
    have HR := Lib.hid h1; clear h1
    have H0 := Lib.hid ((Held.refl w).lay [.int .i64 k, .int .u64 s, .int .i64 n, .int .u64 c, .int .u64 b, .int .u64 o, .int .u64 p, .bool i, .bool r, .bool d, .bool q, .int .u32 (m : Int), .int .i64 z, .string t] 93)
    have k0 := H0.out.b0.cell
    go_enter Tryz.func139, Tryz.ntmps139
    go_wp2_with fail
    refine (HR.out _).mono ?_
    rintro e w1 ⟨rfl, hb⟩
    have H1 := Lib.hid (H0.out.up hb)
    clear hb k0
    go_wp2_with fail
    refine bodyPost_ret (v := .tuple #[.string ⟨#[]⟩, .int .i64 1]) (by simp [results, Tryz.results139, go_sem]) rfl ⟨rfl, H1.out.below⟩
  · rw [if_pos rfl, if_pos rfl]
    rw [hr] at h1
    have h2 := fun w => rpbytes_any x w hw hr
    have hz := body_few x hr
    have h3 := fun w => rseal_any (txt x.body) w (by rw [txt_size]; omega)
    rw [txt_data] at h3
    generalize x.body = l at *
    obtain ⟨k, s, ⟨n, c, b, o, p, i, r, d, q, m⟩, z, t⟩ := x
    clear hw hr hz
    dsimp only [pktV] at *
    have HR := Lib.hid h1; clear h1
    have HB := Lib.hid h2; clear h2
    have HS := Lib.hid h3; clear h3
    have H0 := Lib.hid ((Held.refl w).lay [.int .i64 k, .int .u64 s, .int .i64 n, .int .u64 c, .int .u64 b, .int .u64 o, .int .u64 p, .bool i, .bool r, .bool d, .bool q, .int .u32 (m : Int), .int .i64 z, .string t] 93)
    have k0 := H0.out.b0.cell
    go_enter Tryz.func139, Tryz.ntmps139
    go_wp2_with fail
    refine (HR.out _).mono ?_
    rintro e w1 ⟨rfl, hb⟩
    have H1 := Lib.hid (H0.out.up hb)
    clear hb k0
    have k0 := H1.out.b0.cell
    go_wp2_with fail
    refine (HB.out _).mono ?_
    rintro e w2 ⟨rfl, hb⟩
    have H2 := Lib.hid (H1.out.up hb)
    clear hb k0
    go_wp2_with fail
    refine (HS.out _).mono ?_
    rintro e w3 ⟨rfl, hb⟩
    have H3 := Lib.hid (H2.out.up hb)
    clear hb
    go_wp2_with fail
    refine bodyPost_ret (v := .tuple #[.string (txt (sealed l)), .int .i64 0]) (by simp [results, Tryz.results139, go_sem]) rfl ⟨rfl, H3.out.below⟩
end Go.Proofs.YtabenngcmpjlhaaGreatDoor
namespace Go.Proofs.YtabenngcmpjlhaaGreatDoor
open Go.RowKit
section
variable {w0 w w' : World} {Bs : List Bk} {Ns : List (Nod × Adr)} {Ds : List Dk} {Os : List Ol} {x y z : Bk}
theorem All.sub {Bs2 : List Bk} (h : All w0 Bs Ns Ds Os w) (hs : Bs2.Sublist Bs) : All w0 Bs2 Ns Ds Os w :=
  ⟨h.below, fun q hq => h.box q (hs.subset hq), fun q hq => h.own q (hs.subset hq), fun q hq => h.ap q (hs.subset hq), (hs.map fun x => x.1).nodup h.ne, h.nm, h.dm, h.om⟩
theorem NM.as {n n2 : Nod} {a : Adr} (h : NM w n a) (e1 : n2.t = n.t) (e2 : n2.dr = n.dr) (e3 : n2.mi = n.mi) : NM w n2 a := by
  obtain ⟨h1, h2, h3, h4, h5, h6, h7⟩ := h
  exact ⟨by rw [e1]; exact h1, by rw [e2]; exact h2, by rw [e2]; exact h3, h4, by rw [e3]; exact h5, h6, h7⟩
end
end Go.Proofs.YtabenngcmpjlhaaGreatDoor
namespace Go.Proofs.YtabenngcmpjlhaaGreatDoor
open Go.RowKit
def Nod.asks (n : Nod) (id : Int) : Nod := { n with ask := true, askId := id }
end Go.Proofs.YtabenngcmpjlhaaGreatDoor
namespace Go.Proofs.YtabenngcmpjlhaaGreatDoor
open Go.RowKit
end Go.Proofs.YtabenngcmpjlhaaGreatDoor
