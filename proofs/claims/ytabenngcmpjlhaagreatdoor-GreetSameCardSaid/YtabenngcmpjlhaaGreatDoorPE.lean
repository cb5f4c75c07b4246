/- Calls carried out plainly that lay a row of events of their own: the steps; and how outputs are read. No condition. -/
import Derived.Test.YtabenngcmpjlhaaGreatDoorPC2
import Derived.Test.YtabenngcmpjlhaaGreatDoorWK
import Derived.Test.YtabenngcmpjlhaaGreatDoorRY
import Derived.Test.YtabenngcmpjlhaaGreatDoorX1
import Derived.Test.YtabenngcmpjlhaaGreatDoorXJ
import Derived.Test.YtabenngcmpjlhaaGreatDoorXQ
namespace Go.Proofs.YtabenngcmpjlhaaGreatDoor
open Go.RowKit
set_option maxRecDepth 100000 in
set_option maxHeartbeats 8000000 in
theorem pe_yes (k : Int) (s n c b o p : Int) (i r d q : Bool) (m : Nat) (z : Int) (t : ByteArray) (w : World) (u y1 x1 f x2 y : ByteArray) (hu : strOfNums [IntKind.u8.wrap k] = u) (hp : ∀ w, Calls Tryz.prog 151 #[.int .u64 s] w fun e w' => e = .returned (.string y1) ∧ Below w.heap.size w w') (zu : u.size = 1) (zy : y1.size = 8) (h1 : u ++ y1 = x1) (z1 : x1.size = 9) (hf : ∀ w, Calls Tryz.prog 152 #[.agg #[.int .i64 k, .int .u64 s, .int .i64 n, .int .u64 c, .int .u64 b, .int .u64 o, .int .u64 p, .bool i, .bool r, .bool d, .bool q, .int .u32 (m : Int), .int .i64 z, .string t]] w fun e w' => e = .returned (.string f) ∧ Below w.heap.size w w') (zf : f.size ≤ 60) (h2 : x1 ++ f = x2) (hs : ∀ w, Calls Tryz.prog 150 #[.string x2] w fun e w' => e = .returned (.string y) ∧ Below w.heap.size w w') (hr : ∀ w, Calls Tryz.prog 149 #[.agg #[.int .i64 k, .int .u64 s, .int .i64 n, .int .u64 c, .int .u64 b, .int .u64 o, .int .u64 p, .bool i, .bool r, .bool d, .bool q, .int .u32 (m : Int), .int .i64 z, .string t]] w fun e w' => e = .returned (.bool true) ∧ Below w.heap.size w w') :
    Calls Tryz.prog 104 #[.agg #[.int .i64 k, .int .u64 s, .int .i64 n, .int .u64 c, .int .u64 b, .int .u64 o, .int .u64 p, .bool i, .bool r, .bool d, .bool q, .int .u32 (m : Int), .int .i64 z, .string t]] w fun e w' => e = .returned (.tuple #[.string y, .int .i64 0]) ∧ Below w.heap.size w w' := by
  have zq : ¬ 9223372036854775807 < 9 + f.size := by omega
  have HU := Lib.hid hu; clear hu
  have HP := Lib.hid hp; clear hp
  have HF := Lib.hid hf; clear hf
  have HS := Lib.hid hs; clear hs
  have HR := Lib.hid hr; clear hr
  have H0 := Lib.hid ((Held.refl w).lay [.int .i64 k, .int .u64 s, .int .i64 n, .int .u64 c, .int .u64 b, .int .u64 o, .int .u64 p, .bool i, .bool r, .bool d, .bool q, .int .u32 (m : Int), .int .i64 z, .string t] 93)
  have k0 := H0.out.b0.cell
  go_enter Tryz.func104, Tryz.ntmps104
  go_wp2_with fail
  refine (HR.out _).mono ?_
  rintro e w1 ⟨rfl, hb⟩
  have H1 := Lib.hid (H0.out.up hb)
  clear hb k0 H0
  go_wp2_with fail
  refine held_begin (by kernel_rfl) H1.out (fun v0 hH0 => ?_)
  refine wpAnyH_take (i := 0) (v := ?_) rfl (by kernel_rfl) (by kernel_rfl) (by kernel_rfl) (fun _ _ _ h => h) (Or.inl ⟨by rfl, ?_⟩) hH0 ?_
  rotate_left
  · (intro v hSw; go_simp; try with_reducible rfl)
  simp only [Act.put, List.setIfInBounds_toArray, List.set_cons_zero, List.set_cons_succ, List.getElem_toArray, List.getElem_cons_zero]
  refine wpAnyH_take (i := 1) (v := ?_) rfl (by kernel_rfl) (by kernel_rfl) (by kernel_rfl) (fun _ _ _ h => h) (Or.inl ⟨by rfl, ?_⟩) hH0 ?_
  rotate_left
  · (intro v hSw; have k0 := hSw.b0.cell; go_simp; try with_reducible rfl)
  simp only [Act.put, List.setIfInBounds_toArray, List.set_cons_zero, List.set_cons_succ, List.getElem_toArray, List.getElem_cons_zero, List.getElem_cons_succ]
  refine wpAnyH_take (i := 2) (v := ?_) rfl (by kernel_rfl) (by kernel_rfl) (by kernel_rfl) (fun _ _ _ h => h) (Or.inl ⟨by rfl, ?_⟩) hH0 ?_
  rotate_left
  · (intro v hSw; go_simp; try with_reducible rfl)
  simp only [Act.put, List.setIfInBounds_toArray, List.set_cons_zero, List.set_cons_succ, List.getElem_toArray, List.getElem_cons_zero, List.getElem_cons_succ]
  refine wpAnyH_take (i := 5) (v := ?_) rfl (by kernel_rfl) (by kernel_rfl) (by kernel_rfl) (fun _ _ _ h => h) (Or.inl ⟨by rfl, ?_⟩) hH0 ?_
  rotate_left
  · (intro v hSw; go_simp; try with_reducible rfl)
  simp only [Act.put, List.setIfInBounds_toArray, List.set_cons_zero, List.set_cons_succ, List.getElem_toArray, List.getElem_cons_zero, List.getElem_cons_succ]
  refine wpAnyH_take (i := 6) (v := ?_) rfl (by kernel_rfl) (by kernel_rfl) (by kernel_rfl) (fun _ _ _ h => h) (Or.inl ⟨by rfl, ?_⟩) hH0 ?_
  rotate_left
  · (intro v hSw; have k0 := hSw.b0.cell; go_simp; try with_reducible rfl)
  simp only [Act.put, List.setIfInBounds_toArray, List.set_cons_zero, List.set_cons_succ, List.getElem_toArray, List.getElem_cons_zero, List.getElem_cons_succ]
  refine wpAnyH_take (i := 9) (v := ?_) rfl (by kernel_rfl) (by kernel_rfl) (by kernel_rfl) (fun _ _ _ h => h) (Or.inl ⟨by rfl, ?_⟩) hH0 ?_
  rotate_left
  · (intro v hSw; have k0 := hSw.b0.cell; go_simp; try with_reducible rfl)
  simp only [Act.put, List.setIfInBounds_toArray, List.set_cons_zero, List.set_cons_succ, List.getElem_toArray, List.getElem_cons_zero, List.getElem_cons_succ]
  refine wpAnyH_ready (rs := [3, 7]) (by kernel_rfl) (by simp) ?_
  refine AllReadyH.cons rfl (fun K hK => ?_) ?_
  · go_simp
    refine hK.out _ _ (hH0.alloc _) (fun hX => ?_)
    refine laid_box hH0 (fun v1 hH1 => ?_)
    clear hK K hX hH0
    refine wpAnyH_take (i := 4) (v := ?_) rfl (by kernel_rfl) (by kernel_rfl) (by kernel_rfl) (fun _ _ _ h => h) (Or.inl ⟨by rfl, ?_⟩) hH1 ?_
    rotate_left
    · (intro v hSw; have c1 := conv1 hSw.boxs.hd HU.out; go_simp; try with_reducible rfl)
    simp only [Act.put, List.setIfInBounds_toArray, List.set_cons_zero, List.set_cons_succ, List.getElem_toArray, List.getElem_cons_zero, List.getElem_cons_succ]
    refine wpAnyH_ready (rs := [7]) (by kernel_rfl) (by simp) ?_
    refine AllReadyH.cons rfl (fun K hK => ?_) AllReadyH.nil
    go_simp
    refine (HP.out _).mono ?_
    rintro e v2 ⟨rfl, hb⟩
    go_wp2_with fail
    refine hK.out _ _ (hH1.up hb) (fun hH2 => ?_)
    clear hK K hH1
    refine wpAnyH_take (i := 8) (v := ?_) rfl (by kernel_rfl) (by kernel_rfl) (by kernel_rfl) (fun _ _ _ h => h) (Or.inl ⟨by rfl, ?_⟩) hH2 ?_
    rotate_left
    · (intro v hSw; go_simp; try with_reducible rfl)
    simp only [Act.put, List.setIfInBounds_toArray, List.set_cons_zero, List.set_cons_succ, List.getElem_toArray, List.getElem_cons_zero, List.getElem_cons_succ]
    refine wpAnyH_ready (rs := [10]) (by kernel_rfl) (by simp) ?_
    refine AllReadyH.cons rfl (fun K hK => ?_) AllReadyH.nil
    go_simp
    have k0 := hH2.b1.cell
    refine (HF.out _).mono ?_
    rintro e v3 ⟨rfl, hb⟩
    go_wp2_with fail
    refine hK.out _ _ (hH2.up hb) (fun hH3 => ?_)
    clear hK K hH2
    refine wpAnyH_take (i := 11) (v := ?_) rfl (by kernel_rfl) (by kernel_rfl) (by kernel_rfl) (fun _ _ _ h => h) (Or.inl ⟨by rfl, ?_⟩) hH3 ?_
    rotate_left
    · (intro v hSw; go_simp; try with_reducible rfl)
    simp only [Act.put, List.setIfInBounds_toArray, List.set_cons_zero, List.set_cons_succ, List.getElem_toArray, List.getElem_cons_zero, List.getElem_cons_succ]
    refine wpAnyH_ready (rs := [12]) (by kernel_rfl) (by simp) ?_
    refine AllReadyH.cons rfl (fun K hK => ?_) AllReadyH.nil
    go_simp
    refine (HS.out _).mono ?_
    rintro e v4 ⟨rfl, hb⟩
    go_wp2_with fail
    refine hK.out _ _ (hH3.up hb) (fun hH4 => ?_)
    clear hK K hH3
    refine wpAnyH_take (i := 13) (v := ?_) rfl (by kernel_rfl) (by kernel_rfl) (by kernel_rfl) (fun _ _ _ h => h) (Or.inl ⟨by rfl, ?_⟩) hH4 ?_
    rotate_left
    · (intro v hSw; go_simp; try with_reducible rfl)
    simp only [Act.put, List.setIfInBounds_toArray, List.set_cons_zero, List.set_cons_succ, List.getElem_toArray, List.getElem_cons_zero, List.getElem_cons_succ]
    refine wpAnyH_take (i := 14) (v := ?_) rfl (by kernel_rfl) (by kernel_rfl) (by kernel_rfl) (fun _ _ _ h => h) (Or.inl ⟨by rfl, ?_⟩) hH4 ?_
    rotate_left
    · (intro v hSw; go_simp; try with_reducible rfl)
    simp only [Act.put, List.setIfInBounds_toArray, List.set_cons_zero, List.set_cons_succ, List.getElem_toArray, List.getElem_cons_zero, List.getElem_cons_succ]
    refine wpAnyH_done (by kernel_rfl) ?_ _
    have HZ := Lib.hid hH4
    go_wp2_with fail
    refine bodyPost_ret (v := .tuple #[.string y, .int .i64 0]) (by simp [results, Tryz.results104, go_sem]) rfl ⟨rfl, HZ.out.below⟩
  refine AllReadyH.cons rfl (fun K hK => ?_) AllReadyH.nil
  go_simp
  refine (HP.out _).mono ?_
  rintro e v5 ⟨rfl, hb⟩
  go_wp2_with fail
  refine hK.out _ _ (hH0.up hb) (fun hH5 => ?_)
  clear hK K hH0
  refine wpAnyH_ready (rs := [3, 10]) (by kernel_rfl) (by simp) ?_
  refine AllReadyH.cons rfl (fun K hK => ?_) ?_
  · go_simp
    refine hK.out _ _ (hH5.alloc _) (fun hX => ?_)
    refine laid_box hH5 (fun v6 hH6 => ?_)
    clear hK K hX hH5
    refine wpAnyH_take (i := 4) (v := ?_) rfl (by kernel_rfl) (by kernel_rfl) (by kernel_rfl) (fun _ _ _ h => h) (Or.inl ⟨by rfl, ?_⟩) hH6 ?_
    rotate_left
    · (intro v hSw; have c1 := conv1 hSw.boxs.hd HU.out; go_simp; try with_reducible rfl)
    simp only [Act.put, List.setIfInBounds_toArray, List.set_cons_zero, List.set_cons_succ, List.getElem_toArray, List.getElem_cons_zero, List.getElem_cons_succ]
    refine wpAnyH_take (i := 8) (v := ?_) rfl (by kernel_rfl) (by kernel_rfl) (by kernel_rfl) (fun _ _ _ h => h) (Or.inl ⟨by rfl, ?_⟩) hH6 ?_
    rotate_left
    · (intro v hSw; go_simp; try with_reducible rfl)
    simp only [Act.put, List.setIfInBounds_toArray, List.set_cons_zero, List.set_cons_succ, List.getElem_toArray, List.getElem_cons_zero, List.getElem_cons_succ]
    refine wpAnyH_ready (rs := [10]) (by kernel_rfl) (by simp) ?_
    refine AllReadyH.cons rfl (fun K hK => ?_) AllReadyH.nil
    go_simp
    have k0 := hH6.b1.cell
    refine (HF.out _).mono ?_
    rintro e v7 ⟨rfl, hb⟩
    go_wp2_with fail
    refine hK.out _ _ (hH6.up hb) (fun hH7 => ?_)
    clear hK K hH6
    refine wpAnyH_take (i := 11) (v := ?_) rfl (by kernel_rfl) (by kernel_rfl) (by kernel_rfl) (fun _ _ _ h => h) (Or.inl ⟨by rfl, ?_⟩) hH7 ?_
    rotate_left
    · (intro v hSw; go_simp; try with_reducible rfl)
    simp only [Act.put, List.setIfInBounds_toArray, List.set_cons_zero, List.set_cons_succ, List.getElem_toArray, List.getElem_cons_zero, List.getElem_cons_succ]
    refine wpAnyH_ready (rs := [12]) (by kernel_rfl) (by simp) ?_
    refine AllReadyH.cons rfl (fun K hK => ?_) AllReadyH.nil
    go_simp
    refine (HS.out _).mono ?_
    rintro e v8 ⟨rfl, hb⟩
    go_wp2_with fail
    refine hK.out _ _ (hH7.up hb) (fun hH8 => ?_)
    clear hK K hH7
    refine wpAnyH_take (i := 13) (v := ?_) rfl (by kernel_rfl) (by kernel_rfl) (by kernel_rfl) (fun _ _ _ h => h) (Or.inl ⟨by rfl, ?_⟩) hH8 ?_
    rotate_left
    · (intro v hSw; go_simp; try with_reducible rfl)
    simp only [Act.put, List.setIfInBounds_toArray, List.set_cons_zero, List.set_cons_succ, List.getElem_toArray, List.getElem_cons_zero, List.getElem_cons_succ]
    refine wpAnyH_take (i := 14) (v := ?_) rfl (by kernel_rfl) (by kernel_rfl) (by kernel_rfl) (fun _ _ _ h => h) (Or.inl ⟨by rfl, ?_⟩) hH8 ?_
    rotate_left
    · (intro v hSw; go_simp; try with_reducible rfl)
    simp only [Act.put, List.setIfInBounds_toArray, List.set_cons_zero, List.set_cons_succ, List.getElem_toArray, List.getElem_cons_zero, List.getElem_cons_succ]
    refine wpAnyH_done (by kernel_rfl) ?_ _
    have HZ := Lib.hid hH8
    go_wp2_with fail
    refine bodyPost_ret (v := .tuple #[.string y, .int .i64 0]) (by simp [results, Tryz.results104, go_sem]) rfl ⟨rfl, HZ.out.below⟩
  refine AllReadyH.cons rfl (fun K hK => ?_) AllReadyH.nil
  go_simp
  have k0 := hH5.b0.cell
  refine (HF.out _).mono ?_
  rintro e v9 ⟨rfl, hb⟩
  go_wp2_with fail
  refine hK.out _ _ (hH5.up hb) (fun hH9 => ?_)
  clear hK K hH5
  refine wpAnyH_ready (rs := [3]) (by kernel_rfl) (by simp) ?_
  refine AllReadyH.cons rfl (fun K hK => ?_) AllReadyH.nil
  go_simp
  refine hK.out _ _ (hH9.alloc _) (fun hX => ?_)
  refine laid_box hH9 (fun v10 hH10 => ?_)
  clear hK K hX hH9
  refine wpAnyH_take (i := 4) (v := ?_) rfl (by kernel_rfl) (by kernel_rfl) (by kernel_rfl) (fun _ _ _ h => h) (Or.inl ⟨by rfl, ?_⟩) hH10 ?_
  rotate_left
  · (intro v hSw; have c1 := conv1 hSw.boxs.hd HU.out; go_simp; try with_reducible rfl)
  simp only [Act.put, List.setIfInBounds_toArray, List.set_cons_zero, List.set_cons_succ, List.getElem_toArray, List.getElem_cons_zero, List.getElem_cons_succ]
  refine wpAnyH_take (i := 8) (v := ?_) rfl (by kernel_rfl) (by kernel_rfl) (by kernel_rfl) (fun _ _ _ h => h) (Or.inl ⟨by rfl, ?_⟩) hH10 ?_
  rotate_left
  · (intro v hSw; go_simp; try with_reducible rfl)
  simp only [Act.put, List.setIfInBounds_toArray, List.set_cons_zero, List.set_cons_succ, List.getElem_toArray, List.getElem_cons_zero, List.getElem_cons_succ]
  refine wpAnyH_take (i := 11) (v := ?_) rfl (by kernel_rfl) (by kernel_rfl) (by kernel_rfl) (fun _ _ _ h => h) (Or.inl ⟨by rfl, ?_⟩) hH10 ?_
  rotate_left
  · (intro v hSw; go_simp; try with_reducible rfl)
  simp only [Act.put, List.setIfInBounds_toArray, List.set_cons_zero, List.set_cons_succ, List.getElem_toArray, List.getElem_cons_zero, List.getElem_cons_succ]
  refine wpAnyH_ready (rs := [12]) (by kernel_rfl) (by simp) ?_
  refine AllReadyH.cons rfl (fun K hK => ?_) AllReadyH.nil
  go_simp
  refine (HS.out _).mono ?_
  rintro e v11 ⟨rfl, hb⟩
  go_wp2_with fail
  refine hK.out _ _ (hH10.up hb) (fun hH11 => ?_)
  clear hK K hH10
  refine wpAnyH_take (i := 13) (v := ?_) rfl (by kernel_rfl) (by kernel_rfl) (by kernel_rfl) (fun _ _ _ h => h) (Or.inl ⟨by rfl, ?_⟩) hH11 ?_
  rotate_left
  · (intro v hSw; go_simp; try with_reducible rfl)
  simp only [Act.put, List.setIfInBounds_toArray, List.set_cons_zero, List.set_cons_succ, List.getElem_toArray, List.getElem_cons_zero, List.getElem_cons_succ]
  refine wpAnyH_take (i := 14) (v := ?_) rfl (by kernel_rfl) (by kernel_rfl) (by kernel_rfl) (fun _ _ _ h => h) (Or.inl ⟨by rfl, ?_⟩) hH11 ?_
  rotate_left
  · (intro v hSw; go_simp; try with_reducible rfl)
  simp only [Act.put, List.setIfInBounds_toArray, List.set_cons_zero, List.set_cons_succ, List.getElem_toArray, List.getElem_cons_zero, List.getElem_cons_succ]
  refine wpAnyH_done (by kernel_rfl) ?_ _
  have HZ := Lib.hid hH11
  go_wp2_with fail
  refine bodyPost_ret (v := .tuple #[.string y, .int .i64 0]) (by simp [results, Tryz.results104, go_sem]) rfl ⟨rfl, HZ.out.below⟩
set_option maxRecDepth 100000 in
set_option maxHeartbeats 8000000 in
theorem pe_no (k : Int) (s n c b o p : Int) (i r d q : Bool) (m : Nat) (z : Int) (t : ByteArray) (w : World) (hr : ∀ w, Calls Tryz.prog 149 #[.agg #[.int .i64 k, .int .u64 s, .int .i64 n, .int .u64 c, .int .u64 b, .int .u64 o, .int .u64 p, .bool i, .bool r, .bool d, .bool q, .int .u32 (m : Int), .int .i64 z, .string t]] w fun e w' => e = .returned (.bool false) ∧ Below w.heap.size w w') :
    Calls Tryz.prog 104 #[.agg #[.int .i64 k, .int .u64 s, .int .i64 n, .int .u64 c, .int .u64 b, .int .u64 o, .int .u64 p, .bool i, .bool r, .bool d, .bool q, .int .u32 (m : Int), .int .i64 z, .string t]] w fun e w' => e = .returned (.tuple #[.string ⟨#[]⟩, .int .i64 1]) ∧ Below w.heap.size w w' := by
  have HR := Lib.hid hr; clear hr
  have H0 := Lib.hid ((Held.refl w).lay [.int .i64 k, .int .u64 s, .int .i64 n, .int .u64 c, .int .u64 b, .int .u64 o, .int .u64 p, .bool i, .bool r, .bool d, .bool q, .int .u32 (m : Int), .int .i64 z, .string t] 93)
  have k0 := H0.out.b0.cell
  go_enter Tryz.func104, Tryz.ntmps104
  go_wp2_with fail
  refine (HR.out _).mono ?_
  rintro e w1 ⟨rfl, hb⟩
  have H1 := Lib.hid (H0.out.up hb)
  clear hb k0 H0
  go_wp2_with fail
  refine bodyPost_ret (v := .tuple #[.string ⟨#[]⟩, .int .i64 1]) (by simp [results, Tryz.results104, go_sem]) rfl ⟨rfl, H1.out.below⟩
theorem pencode_any (x : Pkt) (w : World) (hw : x.wide) : Calls Tryz.prog 104 #[pktV x] w fun e w' => e = .returned (.tuple #[.string x.encT, .int .i64 x.encE]) ∧ Below w.heap.size w w' := by
  have h1 := fun w => pright_any x w hw.2.2.2.2.2
  unfold Pkt.encT Pkt.encE
  cases hr : x.right
  · rw [if_neg (by simp), if_neg (by simp)]
    rw [hr] at h1
    obtain ⟨k, s, ⟨n, c, b, o, p, i, r, d, q, m⟩, z, t⟩ := x
    exact pe_no k s n c b o p i r d q m z t w h1
  · rw [if_pos rfl, if_pos rfl]
    rw [hr] at h1
    have h2 := fun w => pfields_any x w hw hr
    have hz := body_few x hr
    obtain ⟨⟨k0, k1⟩, _⟩ := Pkt.right_parts hr
    have hu := head1 x.k (by omega) (by omega)
    have hp := fun w => put64_any x.s w hw.1.1 hw.1.2
    have zf : (txt x.fieldsL).size ≤ 60 := by
      have := x.body_fields
      rw [this] at hz
      rw [txt_size]
      simp at hz
      omega
    have e2 : txt [UInt8.ofNat x.k.toNat] ++ (⟨(be 8 x.s.toNat).toArray⟩ : ByteArray) ++ txt x.fieldsL = txt x.body := by
      rw [be8_txt, txt_two, txt_two, x.body_fields]
      rfl
    have h3 := fun w => seal_any (txt x.body) w (by rw [txt_size]; omega)
    rw [txt_data] at h3
    obtain ⟨k, s, ⟨n, c, b, o, p, i, r, d, q, m⟩, z, t⟩ := x
    exact pe_yes k s n c b o p i r d q m z t w _ _ _ _ _ _ hu hp (one_size _) (be8_size _) rfl (by rw [ByteArray.size_append, one_size, be8_size]) h2 zf e2 h3 h1
end Go.Proofs.YtabenngcmpjlhaaGreatDoor
namespace Go.Proofs.YtabenngcmpjlhaaGreatDoor
open Go.RowKit PX
set_option maxRecDepth 100000
section
variable {T : TypeId} {b : Nat} {wB w : World} {n : Nod} {l : List Ou} {a : Adr} {v : Value} {N q : Nat}
theorem wsend (hT : WT T) (hB : wB.heap.size ≤ w.heap.size) (hl : l.length ≤ 1000) (p : Pkt) (hs : B64 n.ses) (hh : p.h.wide) (hx : BoxO w b T (wkC n a v)) (hk : WK wB n a v l w) : Calls Tryz.prog 52 #[.pointer (some ⟨b, 0, none⟩), pktV p] w (GivesW T b wB v (n, l ++ [n.send p]) (.tuple #[]) w) := by
  unfold WT at hT
  simp only [List.mem_cons, List.not_mem_nil, or_false] at hT
  rcases hT with rfl|rfl <;>
  exact runW (args := [pktV p]) (by kernel_rfl) st_wk hx hk (t_v (fun u _ => pencode_any { p with s := n.ses } u ⟨hs, hh⟩) (t_wpush (n.send p) n a hB (From.refl _ _) (fun u hu => hu) (by omega) fun r A c ho => e_w a _ (fun u hu => hu) ho))
theorem wcommit (hT : WT T) (hF : Fit n.t.s n.t.c n.t.f) {s : Sup} (hw : s.wide) {y : Bool} (hy : (n.commit s).2 = y) (hx : BoxO w b T (wkC n a v)) (hk : WK wB n a v l w) : Calls Tryz.prog 62 #[.pointer (some ⟨b, 0, none⟩), supV s] w (GivesW T b wB v ((n.commit s).1, l) (.bool y) w) := by
  subst hy
  have hT2 := hT
  unfold WT at hT
  simp only [List.mem_cons, List.not_mem_nil, or_false] at hT
  rcases hT with rfl|rfl <;>
  exact runW (args := [supV s]) (by kernel_rfl) st_wk hx hk (t_s (fun u hu => zcommit_any a.A a.B a.k a.m n.t.s n.t.c n.t.f n.t.x n.t.b n.t.m s u hu.1.t hF hw) fun A k B m => t_w _ a n (n.commit s |>.1, l) (From.refl _ _) (fun u hu => hu.1.2) (fun u b hu _ hx => wkeep hT2 (n.t.commit s) A B k m hx hu.1.1 hu.1.2 hu.2) fun a' A c ho => e_w a' _ (fun u hu => hu) ho)
def Nod.take (n : Nod) (p : Bool) : Nod × Bool :=
  let m := n.commit { n.t.b with r := p }
  if m.2 = true then ({ m.1 with pri := p }, true) else (m.1, false)
end
end Go.Proofs.YtabenngcmpjlhaaGreatDoor
namespace Go.Proofs.YtabenngcmpjlhaaGreatDoor
open Go.RowKit PX
set_option maxRecDepth 100000
end Go.Proofs.YtabenngcmpjlhaaGreatDoor
namespace Go.Proofs.YtabenngcmpjlhaaGreatDoor
open Go.RowKit PX
set_option maxRecDepth 100000
def tyE (T : TypeId) : Bool := !(Nat.beq T 100) && tyL T
theorem tyE_L {T : TypeId} (h : tyE T = true) : tyL T = true := by
  unfold tyE at h
  rw [Bool.and_eq_true] at h
  exact h.2
theorem stE {K : World → Prop} (h : Stab tyL K) : Stab tyE K := fun w w' e k => h w w' ⟨e.size, fun j hj => (e.blk j hj).imp id fun ⟨T, c1, c2, h1, h2, h3⟩ => ⟨T, c1, c2, tyE_L h1, h2, h3⟩⟩ k
section
variable {w : World} {F : Value → S → World → Prop} {K : World → Prop} {t : Tree} {f : FuncId} {args : Array Value}
theorem base_belowE {u : World} (h : (⟨Tryz.prog, tyE, w, [], []⟩ : Cx).base u) : Below w.heap.size w u := But.below h
theorem run_vE {v : Value} (h : OK ⟨Tryz.prog, tyE, w, [], []⟩ (fun x _ u => Ending.returned x = .returned v ∧ Below w.heap.size w u) (tree ⟨Tryz.prog, tyE, w, [], []⟩ 0 f args.toList) fun _ => True) : Calls Tryz.prog f args w fun e w' => e = .returned v ∧ Below w.heap.size w w' := run_ok rfl (st_p _) trivial h
theorem e_r2E {v : Value} (x : Value) (hx : x = v) (hd : t.hd = .ret x := by kernel_rfl) : OK ⟨Tryz.prog, tyE, w, [], []⟩ (fun x _ u => Ending.returned x = .returned v ∧ Below w.heap.size w u) t K := t_ret x (fun _ _ hb _ => ⟨by rw [hx], base_belowE hb⟩) hd
theorem t_vE {v : Value} (hc : ∀ u, K u → Below w.heap.size w u → Calls Tryz.prog f args u fun e u' => e = .returned v ∧ Below u.heap.size u u') (h : OK ⟨Tryz.prog, tyE, w, [], []⟩ F (t.nv v) K) (hd : t.hd = .call (.fn f) args.toList := by kernel_rfl) : OK ⟨Tryz.prog, tyE, w, [], []⟩ F t K :=
  t_call (fun u hu hb => hc u hu (base_belowE hb)) (fun u e u' hu hb hr => ⟨v, fun _ => True, hr.1, hr.2, st_p _, trivial, by simpa using h⟩) hd
theorem t_nE {r : Nod × List Ou} (hc : ∀ u, K u → Calls Tryz.prog f args u (GivesN r u)) (h : ∀ a O k, OK ⟨Tryz.prog, tyE, w, [], []⟩ F (t.nv (.tuple #[nodV r.1 a, .slice O r.2.length k])) fun u => K u ∧ (NM u r.1 a ∧ OM u O k r.2)) (hd : t.hd = .call (.fn f) args.toList := by kernel_rfl) : OK ⟨Tryz.prog, tyE, w, [], []⟩ F t K :=
  t_call (fun u hu _ => hc u hu) (fun u e u' hu hb hr => by
    obtain ⟨a, O, k, he, h1, h2, h3, h4⟩ := hr
    exact ⟨_, _, he, h3, (stE (st_nm _ _)).and (stE (st_om _ _ _)), ⟨h1, h2⟩, h a O k⟩) hd
theorem t_1E {m : Nod} {x : Ou} {r : Nod × List Ou} (e : r = (m, [x])) (hc : ∀ u, K u → Calls Tryz.prog f args u (GivesN r u)) (h : ∀ a ad k, OK ⟨Tryz.prog, tyE, w, [], []⟩ F (t.nv (.tuple #[nodV m a, .slice (some ad) 1 k])) fun u => K u ∧ NM u m a ∧ OM u (some ad) k [x]) (hd : t.hd = .call (.fn f) args.toList := by kernel_rfl) : OK ⟨Tryz.prog, tyE, w, [], []⟩ F t K :=
  t_call (fun u hu _ => hc u hu) (fun u e' u' hu hb hr => by
    subst e
    obtain ⟨a, O, k, he, h1, h2, h3, h4⟩ := hr
    obtain ⟨ad, rfl, _⟩ := h2.o 0 x rfl
    exact ⟨_, _, he, h3, (stE (st_nm _ _)).and (stE (st_om _ _ _)), ⟨h1, h2⟩, h a ad k⟩) hd
theorem flat7 : ∀ (l : List Evt) (j i : Nat) (v : Evt) (y : Value), l[j]? = some v → (evC v none 0)[i]? = some y → (l.flatMap fun v => evC v none 0)[j * 7 + i]? = some y
  | [], j, _, _, _, h, _ => by simp at h
  | v0 :: l, 0, i, v, y, h, hi => by
    simp only [List.getElem?_cons_zero, Option.some.injEq] at h
    subst h
    rw [List.flatMap_cons, Nat.zero_mul, Nat.zero_add, List.getElem?_append_left (List.getElem?_eq_some_iff.1 hi).1]
    exact hi
  | v0 :: l, j + 1, i, v, y, h, hi => by
    rw [List.flatMap_cons, List.getElem?_append_right (by show 7 ≤ _; omega), show (j + 1) * 7 + i - (evC v0 none 0).length = j * 7 + i by show _ - 7 = _; omega]
    exact flat7 l j i v y (by simpa using h) hi
theorem evs_box {u : World} {r : Nat} {l : List Evt} (h : BoxO u r 100 (l.flatMap fun v => evC v none 0)) (hk : ∀ v ∈ l, v.keeps = []) : Evs u (some ⟨r, 0, none⟩) l := fun j v hj => by
  have hv := hk v (List.mem_of_getElem? hj)
  refine ⟨_, none, 0, rfl, h.lt, by rw [hv]; exact es_nil _ _ _ _, by rw [hv]; exact Nat.zero_le _, fun i y hy => ?_⟩
  rw [Addr.add_mid, Addr.add_mid, Nat.zero_add, BoxO.cell h]
  exact flat7 l j i v y hj hy
theorem t_reachE (l : List Evt) (b : Int) (n : Nat) (cs : List Value) (hcs : cs = l.flatMap fun v => evC v none 0) (hn : n = l.length) (h0 : 0 ≤ b) (h1 : b < 256) (hl : l.length ≤ 60) (hw : ∀ v ∈ l, (v.wide ∧ (v.d.size : Int) ≤ 3000) ∧ v.keeps = []) (h : ∀ r x, OK ⟨Tryz.prog, tyE, w, [], []⟩ F ((t.nr r).nv (cluV (reachC (blks b) l) x)) fun u => (K u ∧ BoxO u r 100 cs) ∧ CM u (reachC (blks b) l) x)
    (hf : t.hd = .fresh 100 cs := by kernel_rfl) (hd : ∀ r, (t.nr r).hd = .call (.fn 39) [.int .u8 b, .slice (some ⟨r, 0, none⟩) n n] := by intro r; kernel_rfl) : OK ⟨Tryz.prog, tyE, w, [], []⟩ F t K := by
  subst hcs; subst hn
  refine t_fresh 100 _ (fun r hr => ?_) (by kernel_rfl) hf
  refine t_call (args := #[.int .u8 b, .slice (some ⟨r, 0, none⟩) l.length l.length]) (fun u hu _ => xreach h0 h1 (some ⟨r, 0, none⟩) l l.length hl (fun v hv => (hw v hv).1) (evs_box hu.2 fun v hv => (hw v hv).2)) ?_ (hd r)
  rintro u e u' hu _ ⟨x, rfl, hc, hb⟩
  exact ⟨_, fun u => CM u (reachC (blks b) l) x, rfl, hb, stE (st_cm _ _), hc, h r x⟩
end
theorem o_reads {u : World} {ad : Addr} {k : Nat} {x : Ou} (h : OM u (some ad) k [x]) : Reads Tryz.prog u 91 ad (ouV x) := by
  obtain ⟨a, e, hr⟩ := om_reads h (x := x) (j := 0) rfl
  injection e with e
  subst e
  exact hr u (Below.refl _ _)
theorem eql_ouS (a b : Operand) (x y : Ou) (w : World) : (do Go.eqGuard .eql 91 a b (ouV x) (ouV y); Go.binOp .eql 91 (ouV x) (ouV y) : Sem Value).run Tryz.prog w = .ok (.bool (eqO x y)) w := by
  simp [go_sem, eql_ou]
theorem o_field {u : World} {A : Option Addr} {ad : Addr} {k : Nat} {l : List Ou} {x : Ou} (h : OM u A k (x :: l)) (hA : A = some ad) : u.cell? ad = some (.int .i64 x.k) ∧ u.cell? ⟨ad.block, ad.off + 1, none⟩ = some (.int .i64 x.n) ∧ u.cell? ⟨ad.block, ad.off + 2, none⟩ = some (.int .i64 x.id) ∧ u.cell? ⟨ad.block, ad.off + 3, none⟩ = some (.int .i64 x.e) ∧ u.cell? ⟨ad.block, ad.off + 4, none⟩ = some (.string x.d) := by
  obtain ⟨a, e, _, h0, h1, h2, h3, h4⟩ := h.o 0 x rfl
  rw [hA] at e
  injection e with e
  subst e
  exact ⟨h0, h1, h2, h3, h4⟩
end Go.Proofs.YtabenngcmpjlhaaGreatDoor
