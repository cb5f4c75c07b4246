/- Superblocks: what one is as numbers, whether one may be, and its generations in a row, on both sides; for every superblock. No other condition. -/
import Derived.Deep.RegionHeld3
import Derived.Test.YtabenngcmpjlhaaGreatDoorKA
import Derived.Test.YtabenngcmpjlhaaGreatDoorKB
namespace Go.Proofs.YtabenngcmpjlhaaGreatDoor
open Go.RowKit
set_option maxHeartbeats 1000000 in
theorem sright_any (s : Sup) (w : World) : Calls Tryz.prog 240 #[supV s] w fun e w' => e = .returned (.bool s.right) ∧ Below w.heap.size w w' := by
  obtain ⟨n, c, b, o, p, i, r, d⟩ := s
  unfold Sup.right
  dsimp only [supV]
  have hv := fun w => vright_any c b o p w
  generalize (!decide (c = 0)) = x at *
  have HV := Lib.hid hv; clear hv
  by_cases h1 : (1 : Int) ≤ n
  · have e1 : decide ((1 : Int) ≤ n) = true := decide_eq_true h1
    by_cases h2 : n ≤ (32 : Int)
    · have e2 : decide (n ≤ (32 : Int)) = true := decide_eq_true h2
      rw [e1, e2]
      go_enter Tryz.func240, Tryz.ntmps240
      go_wp2_with fail
      refine (HV.out _).mono ?_
      rintro e w1 ⟨rfl, hb⟩
      go_wp2_with fail
      go_ret
      exact ⟨ret_bool (by simp), ext below1 hb⟩
    · have e2 : decide (n ≤ (32 : Int)) = false := decide_eq_false h2
      rw [e1, e2]
      go_enter Tryz.func240, Tryz.ntmps240
      go_wp2_with fail
      go_ret
      exact ⟨ret_bool (by simp), below1⟩
  · have e1 : decide ((1 : Int) ≤ n) = false := decide_eq_false h1
    rw [e1]
    go_enter Tryz.func240, Tryz.ntmps240
    go_wp2_with fail
    go_ret
    exact ⟨ret_bool (by simp), below1⟩
set_option maxHeartbeats 1000000 in
theorem rsright_any (s : Sup) (w : World) : Calls Tryz.prog 161 #[supV s] w fun e w' => e = .returned (.bool s.right) ∧ Below w.heap.size w w' := by
  obtain ⟨n, c, b, o, p, i, r, d⟩ := s
  unfold Sup.right
  dsimp only [supV]
  by_cases h1 : (1 : Int) ≤ n
  · have e1 : decide ((1 : Int) ≤ n) = true := decide_eq_true h1
    by_cases h2 : n ≤ (32 : Int)
    · have e2 : decide (n ≤ (32 : Int)) = true := decide_eq_true h2
      rw [e1, e2]
      go_enter Tryz.func161, Tryz.ntmps161
      go_wp2
      go_ret
      exact ⟨ret_bool (by simp [bne]; rfl), below1⟩
    · have e2 : decide (n ≤ (32 : Int)) = false := decide_eq_false h2
      rw [e1, e2]
      go_enter Tryz.func161, Tryz.ntmps161
      go_wp2
      go_ret
      exact ⟨ret_bool (by simp), below1⟩
  · have e1 : decide ((1 : Int) ≤ n) = false := decide_eq_false h1
    rw [e1]
    go_enter Tryz.func161, Tryz.ntmps161
    go_wp2
    go_ret
    exact ⟨ret_bool (by simp), below1⟩
set_option maxHeartbeats 1000000 in
theorem slist_any (c b o p : Int) (w : World) : Calls Tryz.prog 241 #[vecV c b o p] w fun e w' => e = .returned (.agg #[.int .u64 c, .int .u64 b, .int .u64 o, .int .u64 p]) ∧ Below w.heap.size w w' := by
  go_enter Tryz.func241, Tryz.ntmps241
  go_wp2
  refine bodyPost_ret (v := .agg #[.int .u64 c, .int .u64 b, .int .u64 o, .int .u64 p]) (by simp [results, Tryz.results241, go_sem]) rfl ⟨rfl, ?_⟩
  exact below2
end Go.Proofs.YtabenngcmpjlhaaGreatDoor
namespace Go.Proofs.YtabenngcmpjlhaaGreatDoor
open Go.RowKit
def Sup.body (s : Sup) : List UInt8 := [71, 77, 1, UInt8.ofNat s.n.toNat, UInt8.ofNat (fl [s.i, s.r, s.d])] ++ be 8 s.c.toNat ++ be 8 s.b.toNat ++ be 8 s.o.toNat ++ be 8 s.p.toNat
theorem body_length (s : Sup) : s.body.length = 37 := by simp [Sup.body, be_length]
def Sup.bytes (s : Sup) : ByteArray := txt (sealed s.body)
theorem bs3 {w : World} {g : Nat} {i r d : Bool} (h : Box w g [.bool i, .bool r, .bool d]) : Bs w w.heap.size (some ⟨g, 0, none⟩) [i, r, d] := by
  intro k x hk
  refine ⟨_, rfl, h.lt, ?_⟩
  have : (⟨g, 0, none⟩ : Addr).add k = ⟨g, k, none⟩ := by unfold Addr.add; split <;> simp_all
  rw [this, h.cell]
  match k, hk with
  | 0, hk => simp at hk; subst hk; rfl
  | 1, hk => simp at hk; subst hk; rfl
  | 2, hk => simp at hk; subst hk; rfl
theorem flags3 {g : Nat} {i r d : Bool} {w : World} (h : Box w g [.bool i, .bool r, .bool d]) :
    Calls Tryz.prog 237 #[.slice (some ⟨g, 0, none⟩) 3 3] w fun e w' => e = .returned (.int .u8 (fl [i, r, d])) ∧ Below w.heap.size w w' := by
  refine (flags_any _ 3 [i, r, d] w _ (bs3 h) (Nat.le_refl _) (by unfold maxLen; decide)).mono ?_
  rintro e w' ⟨rfl, rfl⟩
  exact ⟨rfl, Below.refl _ _⟩
theorem rflags3 {g : Nat} {i r d : Bool} {w : World} (h : Box w g [.bool i, .bool r, .bool d]) :
    Calls Tryz.prog 188 #[.slice (some ⟨g, 0, none⟩) 3 3] w fun e w' => e = .returned (.int .u8 (fl [i, r, d])) ∧ Below w.heap.size w w' := by
  refine (rflags_any _ 3 [i, r, d] w _ (bs3 h) (Nat.le_refl _) (by unfold maxLen; decide)).mono ?_
  rintro e w' ⟨rfl, rfl⟩
  exact ⟨rfl, Below.refl _ _⟩
theorem head5 (n : Int) (f : Nat) (h0 : 0 ≤ n) : (⟨#[71, 77, 1]⟩ : ByteArray) ++ strOfNums [n % 256, (f : Int)] = txt [71, 77, 1, UInt8.ofNat n.toNat, UInt8.ofNat f] := by
  have e : strOfNums [n % 256, (f : Int)] = txt [UInt8.ofNat n.toNat, UInt8.ofNat f] := by
    simp only [strOfNums, List.map_cons, List.map_nil, txt, Int.toNat_natCast]
    rw [show (n % 256).toNat = n.toNat % 256 from by omega, ofNat_mod]
  rw [e]
  exact join_str [71, 77, 1] _
set_option maxRecDepth 100000 in
set_option maxHeartbeats 4000000 in
theorem encode_yes (s : Sup) (w : World) (hw : s.wide) (hr : s.right = true) :
    Calls Tryz.prog 209 #[supV s] w fun e w' => e = .returned (.tuple #[.string s.bytes, .int .i64 0]) ∧ Below w.heap.size w w' := by
  have hsr := fun w => sright_any s w
  rw [hr] at hsr
  have hn : 1 ≤ s.n ∧ s.n ≤ 32 := by
    unfold Sup.right at hr
    simp at hr
    exact hr.1
  have hf : ∀ i r d : Bool, fl [i, r, d] < 256 := by decide
  have hbl := body_length s
  unfold Sup.bytes
  unfold Sup.body at *
  obtain ⟨n, c, b, o, p, i, r, d⟩ := s
  dsimp only [supV] at *
  obtain ⟨⟨c0, c1⟩, ⟨b0, b1⟩, ⟨o0, o1⟩, p0, p1⟩ := hw
  dsimp only at c0 c1 b0 b1 o0 o1 p0 p1
  have HSR := Lib.hid hsr; clear hsr hr
  have HF := Lib.hid hf; clear hf
  have HBL := Lib.hid hbl; clear hbl
  have hz := nums2
  have HH := Lib.hid ((Held.refl w).lay [.int .i64 n, .int .u64 c, .int .u64 b, .int .u64 o, .int .u64 p, .bool i, .bool r, .bool d] 36)
  go_enter Tryz.func209, Tryz.ntmps209
  go_wp2_with fail
  refine (HSR.out _).mono ?_
  rintro e w1 ⟨rfl, hb⟩
  have H1 := Lib.hid (HH.out.up hb)
  clear hb HH
  go_wp2_with fail
  refine held_begin (by kernel_rfl) H1.out (fun v0 hH0 => ?_)
  refine wpAnyH_take (i := 0) (v := ?_) rfl (by kernel_rfl) (by kernel_rfl) (by kernel_rfl) (fun _ _ _ h => h) (Or.inl ⟨by rfl, ?_⟩) hH0 ?_
  rotate_left
  · (intro v hSw; go_simp; try with_reducible rfl)
  simp only [Act.put, List.setIfInBounds_toArray, List.set_cons_zero, List.set_cons_succ, List.getElem_toArray, List.getElem_cons_zero]
  refine wpAnyH_take (i := 1) (v := ?_) rfl (by kernel_rfl) (by kernel_rfl) (by kernel_rfl) (fun _ _ _ h => h) (Or.inl ⟨by rfl, ?_⟩) hH0 ?_
  rotate_left
  · (intro v hSw; have k := hSw.b0.cell; go_simp; try with_reducible rfl)
  simp only [Act.put, List.setIfInBounds_toArray, List.set_cons_zero, List.set_cons_succ, List.getElem_toArray, List.getElem_cons_zero, List.getElem_cons_succ]
  refine wpAnyH_take (i := 2) (v := ?_) rfl (by kernel_rfl) (by kernel_rfl) (by kernel_rfl) (fun _ _ _ h => h) (Or.inl ⟨by rfl, ?_⟩) hH0 ?_
  rotate_left
  · (intro v hSw; go_simp; try with_reducible rfl)
  simp only [Act.put, List.setIfInBounds_toArray, List.set_cons_zero, List.set_cons_succ, List.getElem_toArray, List.getElem_cons_zero, List.getElem_cons_succ]
  refine wpAnyH_take (i := 3) (v := ?_) rfl (by kernel_rfl) (by kernel_rfl) (by kernel_rfl) (fun _ _ _ h => h) (Or.inl ⟨by rfl, ?_⟩) hH0 ?_
  rotate_left
  · (intro v hSw; go_simp; try with_reducible rfl)
  simp only [Act.put, List.setIfInBounds_toArray, List.set_cons_zero, List.set_cons_succ, List.getElem_toArray, List.getElem_cons_zero, List.getElem_cons_succ]
  refine wpAnyH_take (i := 4) (v := ?_) rfl (by kernel_rfl) (by kernel_rfl) (by kernel_rfl) (fun _ _ _ h => h) (Or.inl ⟨by rfl, ?_⟩) hH0 ?_
  rotate_left
  · (intro v hSw; have k := hSw.b0.cell; go_simp; try with_reducible rfl)
  simp only [Act.put, List.setIfInBounds_toArray, List.set_cons_zero, List.set_cons_succ, List.getElem_toArray, List.getElem_cons_zero, List.getElem_cons_succ]
  refine wpAnyH_take (i := 5) (v := ?_) rfl (by kernel_rfl) (by kernel_rfl) (by kernel_rfl) (fun _ _ _ h => h) (Or.inl ⟨by rfl, ?_⟩) hH0 ?_
  rotate_left
  · (intro v hSw; go_simp; try with_reducible rfl)
  simp only [Act.put, List.setIfInBounds_toArray, List.set_cons_zero, List.set_cons_succ, List.getElem_toArray, List.getElem_cons_zero, List.getElem_cons_succ]
  refine wpAnyH_take (i := 6) (v := ?_) rfl (by kernel_rfl) (by kernel_rfl) (by kernel_rfl) (fun _ _ _ h => h) (Or.inl ⟨by rfl, ?_⟩) hH0 ?_
  rotate_left
  · (intro v hSw; have k := hSw.b0.cell; go_simp; try with_reducible rfl)
  simp only [Act.put, List.setIfInBounds_toArray, List.set_cons_zero, List.set_cons_succ, List.getElem_toArray, List.getElem_cons_zero, List.getElem_cons_succ]
  refine wpAnyH_take (i := 7) (v := ?_) rfl (by kernel_rfl) (by kernel_rfl) (by kernel_rfl) (fun _ _ _ h => h) (Or.inl ⟨by rfl, ?_⟩) hH0 ?_
  rotate_left
  · (intro v hSw; go_simp; try with_reducible rfl)
  simp only [Act.put, List.setIfInBounds_toArray, List.set_cons_zero, List.set_cons_succ, List.getElem_toArray, List.getElem_cons_zero, List.getElem_cons_succ]
  refine wpAnyH_take (i := 8) (v := ?_) rfl (by kernel_rfl) (by kernel_rfl) (by kernel_rfl) (fun _ _ _ h => h) (Or.inl ⟨by rfl, ?_⟩) hH0 ?_
  rotate_left
  · (intro v hSw; have k := hSw.b0.cell; go_simp; try with_reducible rfl)
  simp only [Act.put, List.setIfInBounds_toArray, List.set_cons_zero, List.set_cons_succ, List.getElem_toArray, List.getElem_cons_zero, List.getElem_cons_succ]
  refine wpAnyH_ready (rs := [9]) (by kernel_rfl) (by simp) ?_
  refine AllReadyH.cons rfl (fun K hK => ?_) AllReadyH.nil
  go_simp
  refine hK.out _ _ (hH0.alloc _) (fun hX => ?_)
  refine laid_box hH0 (fun v1 hH1 => ?_)
  clear hK K hX hH0
  refine wpAnyH_ready (rs := [10]) (by kernel_rfl) (by simp) ?_
  refine AllReadyH.cons rfl (fun K hK => ?_) AllReadyH.nil
  go_simp
  refine (flags3 hH1.b0).mono ?_
  rintro e v2 ⟨rfl, hb⟩
  go_wp2_with fail
  refine hK.out _ _ (hH1.up hb) (fun hH2 => ?_)
  clear hK K hH1
  refine wpAnyH_ready (rs := [11]) (by kernel_rfl) (by simp) ?_
  refine AllReadyH.cons rfl (fun K hK => ?_) AllReadyH.nil
  go_simp
  refine hK.out _ _ (hH2.alloc _) (fun hX => ?_)
  refine laid_box hH2 (fun v3 hH3 => ?_)
  clear hK K hX hH2
  refine wpAnyH_take (i := 12) (v := ?_) rfl (by kernel_rfl) (by kernel_rfl) (by kernel_rfl) (fun _ _ _ h => h) (Or.inl ⟨by rfl, ?_⟩) hH3 ?_
  rotate_left
  · (intro v hSw; have c2 := conv_box hSw.b0; go_simp; try with_reducible rfl)
  simp only [Act.put, List.setIfInBounds_toArray, List.set_cons_zero, List.set_cons_succ, List.getElem_toArray, List.getElem_cons_zero, List.getElem_cons_succ]
  refine wpAnyH_take (i := 13) (v := ?_) rfl (by kernel_rfl) (by kernel_rfl) (by kernel_rfl) (fun _ _ _ h => h) (Or.inl ⟨by rfl, ?_⟩) hH3 ?_
  rotate_left
  · (intro v hSw; go_simp; try with_reducible rfl)
  simp only [Act.put, List.setIfInBounds_toArray, List.set_cons_zero, List.set_cons_succ, List.getElem_toArray, List.getElem_cons_zero, List.getElem_cons_succ]
  refine wpAnyH_take (i := 14) (v := ?_) rfl (by kernel_rfl) (by kernel_rfl) (by kernel_rfl) (fun _ _ _ h => h) (Or.inl ⟨by rfl, ?_⟩) hH3 ?_
  rotate_left
  · (intro v hSw; go_simp; try with_reducible rfl)
  simp only [Act.put, List.setIfInBounds_toArray, List.set_cons_zero, List.set_cons_succ, List.getElem_toArray, List.getElem_cons_zero, List.getElem_cons_succ]
  refine wpAnyH_done (by kernel_rfl) ?_ _
  have e5 : (⟨#[71, 77, 1]⟩ : ByteArray) ++ strOfNums [IntKind.u8.wrap n, ((fl [i, r, d] : Nat) : Int)] = txt [71, 77, 1, UInt8.ofNat n.toNat, UInt8.ofNat (fl [i, r, d])] := by
    rw [IntWalk.u8_in n (by omega)]
    have h5 := head5 n (fl [i, r, d]) (by omega)
    rw [show n % 256 = n from by omega] at h5
    exact h5
  rw [e5]
  clear e5 hz
  generalize hx : txt [71, 77, 1, UInt8.ofNat n.toNat, UInt8.ofNat (fl [i, r, d])] = x
  have hxz : (x.size : Int) = 5 := by rw [← hx]; rfl
  have HX := Lib.hid hx; clear hx
  have k := hH3.b2.cell
  go_wp2_with fail
  refine (slist_any _ _ _ _ _).mono ?_
  rintro e w4 ⟨rfl, hb4⟩
  have H4 := Lib.hid (hH3.up hb4)
  clear hb4 hH3 k hb H1
  go_wp2_with fail
  refine wp_loop_rounds 5 ?_
  rw [rounds_succ]
  go_wp2_with fail
  refine (put64_any _ _ c0 c1).mono ?_
  rintro e w5 ⟨rfl, hb⟩
  have H5 := Lib.hid (H4.out.up hb)
  clear hb H4
  generalize hp : (⟨(be 8 c.toNat).toArray⟩ : ByteArray) = q
  have hqz : (q.size : Int) = 8 := by rw [← hp]; simp [ByteArray.size, be_length]
  have HQ0 := Lib.hid hp; clear hp
  go_wp2_with fail
  generalize hx1 : x ++ q = x1
  have hxz1 : (x1.size : Int) = 13 := by rw [← hx1]; simp; omega
  have HX1 := Lib.hid hx1; clear hx1 hqz hxz
  rw [rounds_succ]
  go_wp2_with fail
  refine (put64_any _ _ b0 b1).mono ?_
  rintro e w6 ⟨rfl, hb⟩
  have H6 := Lib.hid (H5.out.up hb)
  clear hb H5
  generalize hp : (⟨(be 8 b.toNat).toArray⟩ : ByteArray) = q
  have hqz : (q.size : Int) = 8 := by rw [← hp]; simp [ByteArray.size, be_length]
  have HQ1 := Lib.hid hp; clear hp
  go_wp2_with fail
  generalize hx2 : x1 ++ q = x2
  have hxz2 : (x2.size : Int) = 21 := by rw [← hx2]; simp; omega
  have HX2 := Lib.hid hx2; clear hx2 hqz hxz1
  rw [rounds_succ]
  go_wp2_with fail
  refine (put64_any _ _ o0 o1).mono ?_
  rintro e w7 ⟨rfl, hb⟩
  have H7 := Lib.hid (H6.out.up hb)
  clear hb H6
  generalize hp : (⟨(be 8 o.toNat).toArray⟩ : ByteArray) = q
  have hqz : (q.size : Int) = 8 := by rw [← hp]; simp [ByteArray.size, be_length]
  have HQ2 := Lib.hid hp; clear hp
  go_wp2_with fail
  generalize hx3 : x2 ++ q = x3
  have hxz3 : (x3.size : Int) = 29 := by rw [← hx3]; simp; omega
  have HX3 := Lib.hid hx3; clear hx3 hqz hxz2
  rw [rounds_succ]
  go_wp2_with fail
  refine (put64_any _ _ p0 p1).mono ?_
  rintro e w8 ⟨rfl, hb⟩
  have H8 := Lib.hid (H7.out.up hb)
  clear hb H7
  generalize hp : (⟨(be 8 p.toNat).toArray⟩ : ByteArray) = q
  have hqz : (q.size : Int) = 8 := by rw [← hp]; simp [ByteArray.size, be_length]
  have HQ3 := Lib.hid hp; clear hp
  go_wp2_with fail
  generalize hx4 : x3 ++ q = x4
  have hxz4 : (x4.size : Int) = 37 := by rw [← hx4]; simp; omega
  have HX4 := Lib.hid hx4; clear hx4 hqz hxz3
  rw [rounds_succ]
  go_wp2_with fail
  refine (seal_any _ _ (by omega)).mono ?_
  rintro e w9 ⟨rfl, hb⟩
  have H9 := Lib.hid (H8.out.up hb)
  clear hb H8
  have he : x4.data.toList = [71, 77, 1, UInt8.ofNat n.toNat, UInt8.ofNat (fl [i, r, d])] ++ be 8 c.toNat ++ be 8 b.toNat ++ be 8 o.toNat ++ be 8 p.toNat := by
    rw [← HX4.out, ← HX3.out, ← HX2.out, ← HX1.out, ← HX.out, ← HQ0.out, ← HQ1.out, ← HQ2.out, ← HQ3.out, txt_app, txt_app, txt_app, txt_app, txt_data]
  rw [he]
  go_wp2_with fail
  go_ret2
  exact ⟨rfl, H9.out.below⟩
set_option maxHeartbeats 1000000 in
theorem encode_no (s : Sup) (w : World) (hr : s.right = false) :
    Calls Tryz.prog 209 #[supV s] w fun e w' => e = .returned (.tuple #[.string ⟨#[]⟩, .int .i64 1]) ∧ Below w.heap.size w w' := by
  have hsr := fun w => sright_any s w
  rw [hr] at hsr
  obtain ⟨n, c, b, o, p, i, r, d⟩ := s
  dsimp only [supV] at *
  have HSR := Lib.hid hsr; clear hsr hr
  go_enter Tryz.func209, Tryz.ntmps209
  go_wp2_with fail
  refine (HSR.out _).mono ?_
  rintro e w1 ⟨rfl, hb⟩
  go_wp2_with fail
  go_ret2
  exact ⟨rfl, ext below1 hb⟩
end Go.Proofs.YtabenngcmpjlhaaGreatDoor
namespace Go.Proofs.YtabenngcmpjlhaaGreatDoor
open Go.RowKit
theorem body_join (s : Sup) (h0 : 0 ≤ s.n) (h1 : s.n < 256) :
    (⟨#[71, 77, 1]⟩ : ByteArray) ++ strOfNums [IntKind.u8.wrap s.n, ((fl [s.i, s.r, s.d] : Nat) : Int)] ++ ⟨(be 8 s.c.toNat).toArray⟩ ++ ⟨(be 8 s.b.toNat).toArray⟩ ++ ⟨(be 8 s.o.toNat).toArray⟩ ++ ⟨(be 8 s.p.toNat).toArray⟩ = txt s.body := by
  have h5 := head5 s.n (fl [s.i, s.r, s.d]) h0
  rw [show s.n % 256 = s.n from by omega] at h5
  rw [IntWalk.u8_in s.n (by omega), h5, txt_app, txt_app, txt_app, txt_app]
  rfl
set_option maxRecDepth 100000 in
set_option maxHeartbeats 8000000 in
theorem rbytes_any (s : Sup) (w : World) (hw : s.wide) (h0 : 0 ≤ s.n) (h1 : s.n < 256) :
    Calls Tryz.prog 162 #[supV s] w fun e w' => e = .returned (.string (txt s.body)) ∧ Below w.heap.size w w' := by
  rw [← body_join s h0 h1]
  clear h0 h1
  obtain ⟨n, c, b, o, p, i, r, d⟩ := s
  dsimp only [supV] at *
  obtain ⟨⟨c0, c1⟩, ⟨b0, b1⟩, ⟨o0, o1⟩, p0, p1⟩ := hw
  dsimp only at c0 c1 b0 b1 o0 o1 p0 p1
  have hz := nums2
  have hz8 := be8_size
  have HH := Lib.hid (((Held.refl w).lay [.int .i64 n, .int .u64 c, .int .u64 b, .int .u64 o, .int .u64 p, .bool i, .bool r, .bool d] 36).lay [.int .u64 c, .int .u64 b, .int .u64 o, .int .u64 p] 34)
  go_enter Tryz.func162, Tryz.ntmps162
  go_wp2_with fail
  refine held_begin (by kernel_rfl) HH.out (fun v0 hH0 => ?_)
  refine wpAnyH_take (i := 0) (v := ?_) rfl (by kernel_rfl) (by kernel_rfl) (by kernel_rfl) (fun _ _ _ h => h) (Or.inl ⟨by rfl, ?_⟩) hH0 ?_
  rotate_left
  · (intro v hSw; go_simp; try with_reducible rfl)
  simp only [Act.put, List.setIfInBounds_toArray, List.set_cons_zero, List.set_cons_succ, List.getElem_toArray, List.getElem_cons_zero]
  refine wpAnyH_take (i := 1) (v := ?_) rfl (by kernel_rfl) (by kernel_rfl) (by kernel_rfl) (fun _ _ _ h => h) (Or.inl ⟨by rfl, ?_⟩) hH0 ?_
  rotate_left
  · (intro v hSw; have k := (hSw.boxs (w.heap.size, ([(Value.int .i64 n), .int .u64 c, .int .u64 b, .int .u64 o, .int .u64 p, .bool i, .bool r, .bool d] : List Value)) (by simp)).cell; go_simp; try with_reducible rfl)
  simp only [Act.put, List.setIfInBounds_toArray, List.set_cons_zero, List.set_cons_succ, List.getElem_toArray, List.getElem_cons_zero, List.getElem_cons_succ]
  refine wpAnyH_take (i := 2) (v := ?_) rfl (by kernel_rfl) (by kernel_rfl) (by kernel_rfl) (fun _ _ _ h => h) (Or.inl ⟨by rfl, ?_⟩) hH0 ?_
  rotate_left
  · (intro v hSw; go_simp; try with_reducible rfl)
  simp only [Act.put, List.setIfInBounds_toArray, List.set_cons_zero, List.set_cons_succ, List.getElem_toArray, List.getElem_cons_zero, List.getElem_cons_succ]
  refine wpAnyH_take (i := 3) (v := ?_) rfl (by kernel_rfl) (by kernel_rfl) (by kernel_rfl) (fun _ _ _ h => h) (Or.inl ⟨by rfl, ?_⟩) hH0 ?_
  rotate_left
  · (intro v hSw; go_simp; try with_reducible rfl)
  simp only [Act.put, List.setIfInBounds_toArray, List.set_cons_zero, List.set_cons_succ, List.getElem_toArray, List.getElem_cons_zero, List.getElem_cons_succ]
  refine wpAnyH_take (i := 4) (v := ?_) rfl (by kernel_rfl) (by kernel_rfl) (by kernel_rfl) (fun _ _ _ h => h) (Or.inl ⟨by rfl, ?_⟩) hH0 ?_
  rotate_left
  · (intro v hSw; have k := (hSw.boxs (w.heap.size, ([(Value.int .i64 n), .int .u64 c, .int .u64 b, .int .u64 o, .int .u64 p, .bool i, .bool r, .bool d] : List Value)) (by simp)).cell; go_simp; try with_reducible rfl)
  simp only [Act.put, List.setIfInBounds_toArray, List.set_cons_zero, List.set_cons_succ, List.getElem_toArray, List.getElem_cons_zero, List.getElem_cons_succ]
  refine wpAnyH_take (i := 5) (v := ?_) rfl (by kernel_rfl) (by kernel_rfl) (by kernel_rfl) (fun _ _ _ h => h) (Or.inl ⟨by rfl, ?_⟩) hH0 ?_
  rotate_left
  · (intro v hSw; go_simp; try with_reducible rfl)
  simp only [Act.put, List.setIfInBounds_toArray, List.set_cons_zero, List.set_cons_succ, List.getElem_toArray, List.getElem_cons_zero, List.getElem_cons_succ]
  refine wpAnyH_take (i := 6) (v := ?_) rfl (by kernel_rfl) (by kernel_rfl) (by kernel_rfl) (fun _ _ _ h => h) (Or.inl ⟨by rfl, ?_⟩) hH0 ?_
  rotate_left
  · (intro v hSw; have k := (hSw.boxs (w.heap.size, ([(Value.int .i64 n), .int .u64 c, .int .u64 b, .int .u64 o, .int .u64 p, .bool i, .bool r, .bool d] : List Value)) (by simp)).cell; go_simp; try with_reducible rfl)
  simp only [Act.put, List.setIfInBounds_toArray, List.set_cons_zero, List.set_cons_succ, List.getElem_toArray, List.getElem_cons_zero, List.getElem_cons_succ]
  refine wpAnyH_take (i := 7) (v := ?_) rfl (by kernel_rfl) (by kernel_rfl) (by kernel_rfl) (fun _ _ _ h => h) (Or.inl ⟨by rfl, ?_⟩) hH0 ?_
  rotate_left
  · (intro v hSw; go_simp; try with_reducible rfl)
  simp only [Act.put, List.setIfInBounds_toArray, List.set_cons_zero, List.set_cons_succ, List.getElem_toArray, List.getElem_cons_zero, List.getElem_cons_succ]
  refine wpAnyH_take (i := 8) (v := ?_) rfl (by kernel_rfl) (by kernel_rfl) (by kernel_rfl) (fun _ _ _ h => h) (Or.inl ⟨by rfl, ?_⟩) hH0 ?_
  rotate_left
  · (intro v hSw; have k := (hSw.boxs (w.heap.size, ([(Value.int .i64 n), .int .u64 c, .int .u64 b, .int .u64 o, .int .u64 p, .bool i, .bool r, .bool d] : List Value)) (by simp)).cell; go_simp; try with_reducible rfl)
  simp only [Act.put, List.setIfInBounds_toArray, List.set_cons_zero, List.set_cons_succ, List.getElem_toArray, List.getElem_cons_zero, List.getElem_cons_succ]
  refine wpAnyH_take (i := 14) (v := ?_) rfl (by kernel_rfl) (by kernel_rfl) (by kernel_rfl) (fun _ _ _ h => h) (Or.inl ⟨by rfl, ?_⟩) hH0 ?_
  rotate_left
  · (intro v hSw; go_simp; try with_reducible rfl)
  simp only [Act.put, List.setIfInBounds_toArray, List.set_cons_zero, List.set_cons_succ, List.getElem_toArray, List.getElem_cons_zero, List.getElem_cons_succ]
  refine wpAnyH_take (i := 15) (v := ?_) rfl (by kernel_rfl) (by kernel_rfl) (by kernel_rfl) (fun _ _ _ h => h) (Or.inl ⟨by rfl, ?_⟩) hH0 ?_
  rotate_left
  · (intro v hSw; have k := (hSw.boxs (w.heap.size + 1, ([(Value.int .u64 c), .int .u64 b, .int .u64 o, .int .u64 p] : List Value)) (by simp)).cell; go_simp; try with_reducible rfl)
  simp only [Act.put, List.setIfInBounds_toArray, List.set_cons_zero, List.set_cons_succ, List.getElem_toArray, List.getElem_cons_zero, List.getElem_cons_succ]
  refine wpAnyH_take (i := 18) (v := ?_) rfl (by kernel_rfl) (by kernel_rfl) (by kernel_rfl) (fun _ _ _ h => h) (Or.inl ⟨by rfl, ?_⟩) hH0 ?_
  rotate_left
  · (intro v hSw; go_simp; try with_reducible rfl)
  simp only [Act.put, List.setIfInBounds_toArray, List.set_cons_zero, List.set_cons_succ, List.getElem_toArray, List.getElem_cons_zero, List.getElem_cons_succ]
  refine wpAnyH_take (i := 19) (v := ?_) rfl (by kernel_rfl) (by kernel_rfl) (by kernel_rfl) (fun _ _ _ h => h) (Or.inl ⟨by rfl, ?_⟩) hH0 ?_
  rotate_left
  · (intro v hSw; have k := (hSw.boxs (w.heap.size + 1, ([(Value.int .u64 c), .int .u64 b, .int .u64 o, .int .u64 p] : List Value)) (by simp)).cell; go_simp; try with_reducible rfl)
  simp only [Act.put, List.setIfInBounds_toArray, List.set_cons_zero, List.set_cons_succ, List.getElem_toArray, List.getElem_cons_zero, List.getElem_cons_succ]
  refine wpAnyH_take (i := 22) (v := ?_) rfl (by kernel_rfl) (by kernel_rfl) (by kernel_rfl) (fun _ _ _ h => h) (Or.inl ⟨by rfl, ?_⟩) hH0 ?_
  rotate_left
  · (intro v hSw; go_simp; try with_reducible rfl)
  simp only [Act.put, List.setIfInBounds_toArray, List.set_cons_zero, List.set_cons_succ, List.getElem_toArray, List.getElem_cons_zero, List.getElem_cons_succ]
  refine wpAnyH_take (i := 23) (v := ?_) rfl (by kernel_rfl) (by kernel_rfl) (by kernel_rfl) (fun _ _ _ h => h) (Or.inl ⟨by rfl, ?_⟩) hH0 ?_
  rotate_left
  · (intro v hSw; go_simp; try with_reducible rfl)
  simp only [Act.put, List.setIfInBounds_toArray, List.set_cons_zero, List.set_cons_succ, List.getElem_toArray, List.getElem_cons_zero, List.getElem_cons_succ]
  refine wpAnyH_take (i := 24) (v := ?_) rfl (by kernel_rfl) (by kernel_rfl) (by kernel_rfl) (fun _ _ _ h => h) (Or.inl ⟨by rfl, ?_⟩) hH0 ?_
  rotate_left
  · (intro v hSw; have k := (hSw.boxs (w.heap.size + 1, ([(Value.int .u64 c), .int .u64 b, .int .u64 o, .int .u64 p] : List Value)) (by simp)).cell; go_simp; try with_reducible rfl)
  simp only [Act.put, List.setIfInBounds_toArray, List.set_cons_zero, List.set_cons_succ, List.getElem_toArray, List.getElem_cons_zero, List.getElem_cons_succ]
  refine wpAnyH_take (i := 27) (v := ?_) rfl (by kernel_rfl) (by kernel_rfl) (by kernel_rfl) (fun _ _ _ h => h) (Or.inl ⟨by rfl, ?_⟩) hH0 ?_
  rotate_left
  · (intro v hSw; go_simp; try with_reducible rfl)
  simp only [Act.put, List.setIfInBounds_toArray, List.set_cons_zero, List.set_cons_succ, List.getElem_toArray, List.getElem_cons_zero, List.getElem_cons_succ]
  refine wpAnyH_take (i := 28) (v := ?_) rfl (by kernel_rfl) (by kernel_rfl) (by kernel_rfl) (fun _ _ _ h => h) (Or.inl ⟨by rfl, ?_⟩) hH0 ?_
  rotate_left
  · (intro v hSw; go_simp; try with_reducible rfl)
  simp only [Act.put, List.setIfInBounds_toArray, List.set_cons_zero, List.set_cons_succ, List.getElem_toArray, List.getElem_cons_zero, List.getElem_cons_succ]
  refine wpAnyH_take (i := 29) (v := ?_) rfl (by kernel_rfl) (by kernel_rfl) (by kernel_rfl) (fun _ _ _ h => h) (Or.inl ⟨by rfl, ?_⟩) hH0 ?_
  rotate_left
  · (intro v hSw; have k := (hSw.boxs (w.heap.size + 1, ([(Value.int .u64 c), .int .u64 b, .int .u64 o, .int .u64 p] : List Value)) (by simp)).cell; go_simp; try with_reducible rfl)
  simp only [Act.put, List.setIfInBounds_toArray, List.set_cons_zero, List.set_cons_succ, List.getElem_toArray, List.getElem_cons_zero, List.getElem_cons_succ]
  refine wpAnyH_ready (rs := [9]) (by kernel_rfl) (by simp) ?_
  refine AllReadyH.cons rfl (fun K hK => ?_) AllReadyH.nil
  go_simp
  refine hK.out _ _ (hH0.alloc _) (fun hX => ?_)
  refine laid_box hH0 (fun v1 hH1 => ?_)
  clear hK K hX hH0
  refine wpAnyH_ready (rs := [10]) (by kernel_rfl) (by simp) ?_
  refine AllReadyH.cons rfl (fun K hK => ?_) AllReadyH.nil
  go_simp
  refine (rflags3 hH1.b0).mono ?_
  rintro e v2 ⟨rfl, hb⟩
  go_wp2_with fail
  refine hK.out _ _ (hH1.up hb) (fun hH2 => ?_)
  clear hK K hH1
  refine wpAnyH_ready (rs := [11, 16]) (by kernel_rfl) (by simp) ?_
  refine AllReadyH.cons rfl (fun K hK => ?_) ?_
  · go_simp
    refine hK.out _ _ (hH2.alloc _) (fun hX => ?_)
    refine laid_box hH2 (fun v3 hH3 => ?_)
    clear hK K hX hH2
    refine wpAnyH_take (i := 12) (v := ?_) rfl (by kernel_rfl) (by kernel_rfl) (by kernel_rfl) (fun _ _ _ h => h) (Or.inl ⟨by rfl, ?_⟩) hH3 ?_
    rotate_left
    · (intro v hSw; have c2 := conv_box hSw.b0; go_simp; try with_reducible rfl)
    simp only [Act.put, List.setIfInBounds_toArray, List.set_cons_zero, List.set_cons_succ, List.getElem_toArray, List.getElem_cons_zero, List.getElem_cons_succ]
    refine wpAnyH_take (i := 13) (v := ?_) rfl (by kernel_rfl) (by kernel_rfl) (by kernel_rfl) (fun _ _ _ h => h) (Or.inl ⟨by rfl, ?_⟩) hH3 ?_
    rotate_left
    · (intro v hSw; go_simp; try with_reducible rfl)
    simp only [Act.put, List.setIfInBounds_toArray, List.set_cons_zero, List.set_cons_succ, List.getElem_toArray, List.getElem_cons_zero, List.getElem_cons_succ]
    refine wpAnyH_ready (rs := [16]) (by kernel_rfl) (by simp) ?_
    refine AllReadyH.cons rfl (fun K hK => ?_) AllReadyH.nil
    go_simp
    refine (rput64_any _ _ c0 c1).mono ?_
    rintro e v4 ⟨rfl, hb⟩
    go_wp2_with fail
    refine hK.out _ _ (hH3.up hb) (fun hH4 => ?_)
    clear hK K hH3
    refine wpAnyH_take (i := 17) (v := ?_) rfl (by kernel_rfl) (by kernel_rfl) (by kernel_rfl) (fun _ _ _ h => h) (Or.inl ⟨by rfl, ?_⟩) hH4 ?_
    rotate_left
    · (intro v hSw; go_simp; try with_reducible rfl)
    simp only [Act.put, List.setIfInBounds_toArray, List.set_cons_zero, List.set_cons_succ, List.getElem_toArray, List.getElem_cons_zero, List.getElem_cons_succ]
    refine wpAnyH_ready (rs := [20]) (by kernel_rfl) (by simp) ?_
    refine AllReadyH.cons rfl (fun K hK => ?_) AllReadyH.nil
    go_simp
    refine (rput64_any _ _ b0 b1).mono ?_
    rintro e v5 ⟨rfl, hb⟩
    go_wp2_with fail
    refine hK.out _ _ (hH4.up hb) (fun hH5 => ?_)
    clear hK K hH4
    refine wpAnyH_take (i := 21) (v := ?_) rfl (by kernel_rfl) (by kernel_rfl) (by kernel_rfl) (fun _ _ _ h => h) (Or.inl ⟨by rfl, ?_⟩) hH5 ?_
    rotate_left
    · (intro v hSw; go_simp; try with_reducible rfl)
    simp only [Act.put, List.setIfInBounds_toArray, List.set_cons_zero, List.set_cons_succ, List.getElem_toArray, List.getElem_cons_zero, List.getElem_cons_succ]
    refine wpAnyH_ready (rs := [25]) (by kernel_rfl) (by simp) ?_
    refine AllReadyH.cons rfl (fun K hK => ?_) AllReadyH.nil
    go_simp
    refine (rput64_any _ _ o0 o1).mono ?_
    rintro e v6 ⟨rfl, hb⟩
    go_wp2_with fail
    refine hK.out _ _ (hH5.up hb) (fun hH6 => ?_)
    clear hK K hH5
    refine wpAnyH_take (i := 26) (v := ?_) rfl (by kernel_rfl) (by kernel_rfl) (by kernel_rfl) (fun _ _ _ h => h) (Or.inl ⟨by rfl, ?_⟩) hH6 ?_
    rotate_left
    · (intro v hSw; go_simp; try with_reducible rfl)
    simp only [Act.put, List.setIfInBounds_toArray, List.set_cons_zero, List.set_cons_succ, List.getElem_toArray, List.getElem_cons_zero, List.getElem_cons_succ]
    refine wpAnyH_ready (rs := [30]) (by kernel_rfl) (by simp) ?_
    refine AllReadyH.cons rfl (fun K hK => ?_) AllReadyH.nil
    go_simp
    refine (rput64_any _ _ p0 p1).mono ?_
    rintro e v7 ⟨rfl, hb⟩
    go_wp2_with fail
    refine hK.out _ _ (hH6.up hb) (fun hH7 => ?_)
    clear hK K hH6
    refine wpAnyH_take (i := 31) (v := ?_) rfl (by kernel_rfl) (by kernel_rfl) (by kernel_rfl) (fun _ _ _ h => h) (Or.inl ⟨by rfl, ?_⟩) hH7 ?_
    rotate_left
    · (intro v hSw; go_simp; try with_reducible rfl)
    simp only [Act.put, List.setIfInBounds_toArray, List.set_cons_zero, List.set_cons_succ, List.getElem_toArray, List.getElem_cons_zero, List.getElem_cons_succ]
    refine wpAnyH_take (i := 32) (v := ?_) rfl (by kernel_rfl) (by kernel_rfl) (by kernel_rfl) (fun _ _ _ h => h) (Or.inl ⟨by rfl, ?_⟩) hH7 ?_
    rotate_left
    · (intro v hSw; go_simp; try with_reducible rfl)
    simp only [Act.put, List.setIfInBounds_toArray, List.set_cons_zero, List.set_cons_succ, List.getElem_toArray, List.getElem_cons_zero, List.getElem_cons_succ]
    refine wpAnyH_done (by kernel_rfl) ?_ _
    go_wp2_with fail
    go_ret
    exact ⟨rfl, hH7.below⟩
  refine AllReadyH.cons rfl (fun K hK => ?_) AllReadyH.nil
  go_simp
  refine (rput64_any _ _ c0 c1).mono ?_
  rintro e v8 ⟨rfl, hb⟩
  go_wp2_with fail
  refine hK.out _ _ (hH2.up hb) (fun hH8 => ?_)
  clear hK K hH2
  refine wpAnyH_ready (rs := [11, 20]) (by kernel_rfl) (by simp) ?_
  refine AllReadyH.cons rfl (fun K hK => ?_) ?_
  · go_simp
    refine hK.out _ _ (hH8.alloc _) (fun hX => ?_)
    refine laid_box hH8 (fun v9 hH9 => ?_)
    clear hK K hX hH8
    refine wpAnyH_take (i := 12) (v := ?_) rfl (by kernel_rfl) (by kernel_rfl) (by kernel_rfl) (fun _ _ _ h => h) (Or.inl ⟨by rfl, ?_⟩) hH9 ?_
    rotate_left
    · (intro v hSw; have c2 := conv_box hSw.b0; go_simp; try with_reducible rfl)
    simp only [Act.put, List.setIfInBounds_toArray, List.set_cons_zero, List.set_cons_succ, List.getElem_toArray, List.getElem_cons_zero, List.getElem_cons_succ]
    refine wpAnyH_take (i := 13) (v := ?_) rfl (by kernel_rfl) (by kernel_rfl) (by kernel_rfl) (fun _ _ _ h => h) (Or.inl ⟨by rfl, ?_⟩) hH9 ?_
    rotate_left
    · (intro v hSw; go_simp; try with_reducible rfl)
    simp only [Act.put, List.setIfInBounds_toArray, List.set_cons_zero, List.set_cons_succ, List.getElem_toArray, List.getElem_cons_zero, List.getElem_cons_succ]
    refine wpAnyH_take (i := 17) (v := ?_) rfl (by kernel_rfl) (by kernel_rfl) (by kernel_rfl) (fun _ _ _ h => h) (Or.inl ⟨by rfl, ?_⟩) hH9 ?_
    rotate_left
    · (intro v hSw; go_simp; try with_reducible rfl)
    simp only [Act.put, List.setIfInBounds_toArray, List.set_cons_zero, List.set_cons_succ, List.getElem_toArray, List.getElem_cons_zero, List.getElem_cons_succ]
    refine wpAnyH_ready (rs := [20]) (by kernel_rfl) (by simp) ?_
    refine AllReadyH.cons rfl (fun K hK => ?_) AllReadyH.nil
    go_simp
    refine (rput64_any _ _ b0 b1).mono ?_
    rintro e v10 ⟨rfl, hb⟩
    go_wp2_with fail
    refine hK.out _ _ (hH9.up hb) (fun hH10 => ?_)
    clear hK K hH9
    refine wpAnyH_take (i := 21) (v := ?_) rfl (by kernel_rfl) (by kernel_rfl) (by kernel_rfl) (fun _ _ _ h => h) (Or.inl ⟨by rfl, ?_⟩) hH10 ?_
    rotate_left
    · (intro v hSw; go_simp; try with_reducible rfl)
    simp only [Act.put, List.setIfInBounds_toArray, List.set_cons_zero, List.set_cons_succ, List.getElem_toArray, List.getElem_cons_zero, List.getElem_cons_succ]
    refine wpAnyH_ready (rs := [25]) (by kernel_rfl) (by simp) ?_
    refine AllReadyH.cons rfl (fun K hK => ?_) AllReadyH.nil
    go_simp
    refine (rput64_any _ _ o0 o1).mono ?_
    rintro e v11 ⟨rfl, hb⟩
    go_wp2_with fail
    refine hK.out _ _ (hH10.up hb) (fun hH11 => ?_)
    clear hK K hH10
    refine wpAnyH_take (i := 26) (v := ?_) rfl (by kernel_rfl) (by kernel_rfl) (by kernel_rfl) (fun _ _ _ h => h) (Or.inl ⟨by rfl, ?_⟩) hH11 ?_
    rotate_left
    · (intro v hSw; go_simp; try with_reducible rfl)
    simp only [Act.put, List.setIfInBounds_toArray, List.set_cons_zero, List.set_cons_succ, List.getElem_toArray, List.getElem_cons_zero, List.getElem_cons_succ]
    refine wpAnyH_ready (rs := [30]) (by kernel_rfl) (by simp) ?_
    refine AllReadyH.cons rfl (fun K hK => ?_) AllReadyH.nil
    go_simp
    refine (rput64_any _ _ p0 p1).mono ?_
    rintro e v12 ⟨rfl, hb⟩
    go_wp2_with fail
    refine hK.out _ _ (hH11.up hb) (fun hH12 => ?_)
    clear hK K hH11
    refine wpAnyH_take (i := 31) (v := ?_) rfl (by kernel_rfl) (by kernel_rfl) (by kernel_rfl) (fun _ _ _ h => h) (Or.inl ⟨by rfl, ?_⟩) hH12 ?_
    rotate_left
    · (intro v hSw; go_simp; try with_reducible rfl)
    simp only [Act.put, List.setIfInBounds_toArray, List.set_cons_zero, List.set_cons_succ, List.getElem_toArray, List.getElem_cons_zero, List.getElem_cons_succ]
    refine wpAnyH_take (i := 32) (v := ?_) rfl (by kernel_rfl) (by kernel_rfl) (by kernel_rfl) (fun _ _ _ h => h) (Or.inl ⟨by rfl, ?_⟩) hH12 ?_
    rotate_left
    · (intro v hSw; go_simp; try with_reducible rfl)
    simp only [Act.put, List.setIfInBounds_toArray, List.set_cons_zero, List.set_cons_succ, List.getElem_toArray, List.getElem_cons_zero, List.getElem_cons_succ]
    refine wpAnyH_done (by kernel_rfl) ?_ _
    go_wp2_with fail
    go_ret
    exact ⟨rfl, hH12.below⟩
  refine AllReadyH.cons rfl (fun K hK => ?_) AllReadyH.nil
  go_simp
  refine (rput64_any _ _ b0 b1).mono ?_
  rintro e v13 ⟨rfl, hb⟩
  go_wp2_with fail
  refine hK.out _ _ (hH8.up hb) (fun hH13 => ?_)
  clear hK K hH8
  refine wpAnyH_ready (rs := [11, 25]) (by kernel_rfl) (by simp) ?_
  refine AllReadyH.cons rfl (fun K hK => ?_) ?_
  · go_simp
    refine hK.out _ _ (hH13.alloc _) (fun hX => ?_)
    refine laid_box hH13 (fun v14 hH14 => ?_)
    clear hK K hX hH13
    refine wpAnyH_take (i := 12) (v := ?_) rfl (by kernel_rfl) (by kernel_rfl) (by kernel_rfl) (fun _ _ _ h => h) (Or.inl ⟨by rfl, ?_⟩) hH14 ?_
    rotate_left
    · (intro v hSw; have c2 := conv_box hSw.b0; go_simp; try with_reducible rfl)
    simp only [Act.put, List.setIfInBounds_toArray, List.set_cons_zero, List.set_cons_succ, List.getElem_toArray, List.getElem_cons_zero, List.getElem_cons_succ]
    refine wpAnyH_take (i := 13) (v := ?_) rfl (by kernel_rfl) (by kernel_rfl) (by kernel_rfl) (fun _ _ _ h => h) (Or.inl ⟨by rfl, ?_⟩) hH14 ?_
    rotate_left
    · (intro v hSw; go_simp; try with_reducible rfl)
    simp only [Act.put, List.setIfInBounds_toArray, List.set_cons_zero, List.set_cons_succ, List.getElem_toArray, List.getElem_cons_zero, List.getElem_cons_succ]
    refine wpAnyH_take (i := 17) (v := ?_) rfl (by kernel_rfl) (by kernel_rfl) (by kernel_rfl) (fun _ _ _ h => h) (Or.inl ⟨by rfl, ?_⟩) hH14 ?_
    rotate_left
    · (intro v hSw; go_simp; try with_reducible rfl)
    simp only [Act.put, List.setIfInBounds_toArray, List.set_cons_zero, List.set_cons_succ, List.getElem_toArray, List.getElem_cons_zero, List.getElem_cons_succ]
    refine wpAnyH_take (i := 21) (v := ?_) rfl (by kernel_rfl) (by kernel_rfl) (by kernel_rfl) (fun _ _ _ h => h) (Or.inl ⟨by rfl, ?_⟩) hH14 ?_
    rotate_left
    · (intro v hSw; go_simp; try with_reducible rfl)
    simp only [Act.put, List.setIfInBounds_toArray, List.set_cons_zero, List.set_cons_succ, List.getElem_toArray, List.getElem_cons_zero, List.getElem_cons_succ]
    refine wpAnyH_ready (rs := [25]) (by kernel_rfl) (by simp) ?_
    refine AllReadyH.cons rfl (fun K hK => ?_) AllReadyH.nil
    go_simp
    refine (rput64_any _ _ o0 o1).mono ?_
    rintro e v15 ⟨rfl, hb⟩
    go_wp2_with fail
    refine hK.out _ _ (hH14.up hb) (fun hH15 => ?_)
    clear hK K hH14
    refine wpAnyH_take (i := 26) (v := ?_) rfl (by kernel_rfl) (by kernel_rfl) (by kernel_rfl) (fun _ _ _ h => h) (Or.inl ⟨by rfl, ?_⟩) hH15 ?_
    rotate_left
    · (intro v hSw; go_simp; try with_reducible rfl)
    simp only [Act.put, List.setIfInBounds_toArray, List.set_cons_zero, List.set_cons_succ, List.getElem_toArray, List.getElem_cons_zero, List.getElem_cons_succ]
    refine wpAnyH_ready (rs := [30]) (by kernel_rfl) (by simp) ?_
    refine AllReadyH.cons rfl (fun K hK => ?_) AllReadyH.nil
    go_simp
    refine (rput64_any _ _ p0 p1).mono ?_
    rintro e v16 ⟨rfl, hb⟩
    go_wp2_with fail
    refine hK.out _ _ (hH15.up hb) (fun hH16 => ?_)
    clear hK K hH15
    refine wpAnyH_take (i := 31) (v := ?_) rfl (by kernel_rfl) (by kernel_rfl) (by kernel_rfl) (fun _ _ _ h => h) (Or.inl ⟨by rfl, ?_⟩) hH16 ?_
    rotate_left
    · (intro v hSw; go_simp; try with_reducible rfl)
    simp only [Act.put, List.setIfInBounds_toArray, List.set_cons_zero, List.set_cons_succ, List.getElem_toArray, List.getElem_cons_zero, List.getElem_cons_succ]
    refine wpAnyH_take (i := 32) (v := ?_) rfl (by kernel_rfl) (by kernel_rfl) (by kernel_rfl) (fun _ _ _ h => h) (Or.inl ⟨by rfl, ?_⟩) hH16 ?_
    rotate_left
    · (intro v hSw; go_simp; try with_reducible rfl)
    simp only [Act.put, List.setIfInBounds_toArray, List.set_cons_zero, List.set_cons_succ, List.getElem_toArray, List.getElem_cons_zero, List.getElem_cons_succ]
    refine wpAnyH_done (by kernel_rfl) ?_ _
    go_wp2_with fail
    go_ret
    exact ⟨rfl, hH16.below⟩
  refine AllReadyH.cons rfl (fun K hK => ?_) AllReadyH.nil
  go_simp
  refine (rput64_any _ _ o0 o1).mono ?_
  rintro e v17 ⟨rfl, hb⟩
  go_wp2_with fail
  refine hK.out _ _ (hH13.up hb) (fun hH17 => ?_)
  clear hK K hH13
  refine wpAnyH_ready (rs := [11, 30]) (by kernel_rfl) (by simp) ?_
  refine AllReadyH.cons rfl (fun K hK => ?_) ?_
  · go_simp
    refine hK.out _ _ (hH17.alloc _) (fun hX => ?_)
    refine laid_box hH17 (fun v18 hH18 => ?_)
    clear hK K hX hH17
    refine wpAnyH_take (i := 12) (v := ?_) rfl (by kernel_rfl) (by kernel_rfl) (by kernel_rfl) (fun _ _ _ h => h) (Or.inl ⟨by rfl, ?_⟩) hH18 ?_
    rotate_left
    · (intro v hSw; have c2 := conv_box hSw.b0; go_simp; try with_reducible rfl)
    simp only [Act.put, List.setIfInBounds_toArray, List.set_cons_zero, List.set_cons_succ, List.getElem_toArray, List.getElem_cons_zero, List.getElem_cons_succ]
    refine wpAnyH_take (i := 13) (v := ?_) rfl (by kernel_rfl) (by kernel_rfl) (by kernel_rfl) (fun _ _ _ h => h) (Or.inl ⟨by rfl, ?_⟩) hH18 ?_
    rotate_left
    · (intro v hSw; go_simp; try with_reducible rfl)
    simp only [Act.put, List.setIfInBounds_toArray, List.set_cons_zero, List.set_cons_succ, List.getElem_toArray, List.getElem_cons_zero, List.getElem_cons_succ]
    refine wpAnyH_take (i := 17) (v := ?_) rfl (by kernel_rfl) (by kernel_rfl) (by kernel_rfl) (fun _ _ _ h => h) (Or.inl ⟨by rfl, ?_⟩) hH18 ?_
    rotate_left
    · (intro v hSw; go_simp; try with_reducible rfl)
    simp only [Act.put, List.setIfInBounds_toArray, List.set_cons_zero, List.set_cons_succ, List.getElem_toArray, List.getElem_cons_zero, List.getElem_cons_succ]
    refine wpAnyH_take (i := 21) (v := ?_) rfl (by kernel_rfl) (by kernel_rfl) (by kernel_rfl) (fun _ _ _ h => h) (Or.inl ⟨by rfl, ?_⟩) hH18 ?_
    rotate_left
    · (intro v hSw; go_simp; try with_reducible rfl)
    simp only [Act.put, List.setIfInBounds_toArray, List.set_cons_zero, List.set_cons_succ, List.getElem_toArray, List.getElem_cons_zero, List.getElem_cons_succ]
    refine wpAnyH_take (i := 26) (v := ?_) rfl (by kernel_rfl) (by kernel_rfl) (by kernel_rfl) (fun _ _ _ h => h) (Or.inl ⟨by rfl, ?_⟩) hH18 ?_
    rotate_left
    · (intro v hSw; go_simp; try with_reducible rfl)
    simp only [Act.put, List.setIfInBounds_toArray, List.set_cons_zero, List.set_cons_succ, List.getElem_toArray, List.getElem_cons_zero, List.getElem_cons_succ]
    refine wpAnyH_ready (rs := [30]) (by kernel_rfl) (by simp) ?_
    refine AllReadyH.cons rfl (fun K hK => ?_) AllReadyH.nil
    go_simp
    refine (rput64_any _ _ p0 p1).mono ?_
    rintro e v19 ⟨rfl, hb⟩
    go_wp2_with fail
    refine hK.out _ _ (hH18.up hb) (fun hH19 => ?_)
    clear hK K hH18
    refine wpAnyH_take (i := 31) (v := ?_) rfl (by kernel_rfl) (by kernel_rfl) (by kernel_rfl) (fun _ _ _ h => h) (Or.inl ⟨by rfl, ?_⟩) hH19 ?_
    rotate_left
    · (intro v hSw; go_simp; try with_reducible rfl)
    simp only [Act.put, List.setIfInBounds_toArray, List.set_cons_zero, List.set_cons_succ, List.getElem_toArray, List.getElem_cons_zero, List.getElem_cons_succ]
    refine wpAnyH_take (i := 32) (v := ?_) rfl (by kernel_rfl) (by kernel_rfl) (by kernel_rfl) (fun _ _ _ h => h) (Or.inl ⟨by rfl, ?_⟩) hH19 ?_
    rotate_left
    · (intro v hSw; go_simp; try with_reducible rfl)
    simp only [Act.put, List.setIfInBounds_toArray, List.set_cons_zero, List.set_cons_succ, List.getElem_toArray, List.getElem_cons_zero, List.getElem_cons_succ]
    refine wpAnyH_done (by kernel_rfl) ?_ _
    go_wp2_with fail
    go_ret
    exact ⟨rfl, hH19.below⟩
  refine AllReadyH.cons rfl (fun K hK => ?_) AllReadyH.nil
  go_simp
  refine (rput64_any _ _ p0 p1).mono ?_
  rintro e v20 ⟨rfl, hb⟩
  go_wp2_with fail
  refine hK.out _ _ (hH17.up hb) (fun hH20 => ?_)
  clear hK K hH17
  refine wpAnyH_ready (rs := [11]) (by kernel_rfl) (by simp) ?_
  refine AllReadyH.cons rfl (fun K hK => ?_) AllReadyH.nil
  go_simp
  refine hK.out _ _ (hH20.alloc _) (fun hX => ?_)
  refine laid_box hH20 (fun v21 hH21 => ?_)
  clear hK K hX hH20
  refine wpAnyH_take (i := 12) (v := ?_) rfl (by kernel_rfl) (by kernel_rfl) (by kernel_rfl) (fun _ _ _ h => h) (Or.inl ⟨by rfl, ?_⟩) hH21 ?_
  rotate_left
  · (intro v hSw; have c2 := conv_box hSw.b0; go_simp; try with_reducible rfl)
  simp only [Act.put, List.setIfInBounds_toArray, List.set_cons_zero, List.set_cons_succ, List.getElem_toArray, List.getElem_cons_zero, List.getElem_cons_succ]
  refine wpAnyH_take (i := 13) (v := ?_) rfl (by kernel_rfl) (by kernel_rfl) (by kernel_rfl) (fun _ _ _ h => h) (Or.inl ⟨by rfl, ?_⟩) hH21 ?_
  rotate_left
  · (intro v hSw; go_simp; try with_reducible rfl)
  simp only [Act.put, List.setIfInBounds_toArray, List.set_cons_zero, List.set_cons_succ, List.getElem_toArray, List.getElem_cons_zero, List.getElem_cons_succ]
  refine wpAnyH_take (i := 17) (v := ?_) rfl (by kernel_rfl) (by kernel_rfl) (by kernel_rfl) (fun _ _ _ h => h) (Or.inl ⟨by rfl, ?_⟩) hH21 ?_
  rotate_left
  · (intro v hSw; go_simp; try with_reducible rfl)
  simp only [Act.put, List.setIfInBounds_toArray, List.set_cons_zero, List.set_cons_succ, List.getElem_toArray, List.getElem_cons_zero, List.getElem_cons_succ]
  refine wpAnyH_take (i := 21) (v := ?_) rfl (by kernel_rfl) (by kernel_rfl) (by kernel_rfl) (fun _ _ _ h => h) (Or.inl ⟨by rfl, ?_⟩) hH21 ?_
  rotate_left
  · (intro v hSw; go_simp; try with_reducible rfl)
  simp only [Act.put, List.setIfInBounds_toArray, List.set_cons_zero, List.set_cons_succ, List.getElem_toArray, List.getElem_cons_zero, List.getElem_cons_succ]
  refine wpAnyH_take (i := 26) (v := ?_) rfl (by kernel_rfl) (by kernel_rfl) (by kernel_rfl) (fun _ _ _ h => h) (Or.inl ⟨by rfl, ?_⟩) hH21 ?_
  rotate_left
  · (intro v hSw; go_simp; try with_reducible rfl)
  simp only [Act.put, List.setIfInBounds_toArray, List.set_cons_zero, List.set_cons_succ, List.getElem_toArray, List.getElem_cons_zero, List.getElem_cons_succ]
  refine wpAnyH_take (i := 31) (v := ?_) rfl (by kernel_rfl) (by kernel_rfl) (by kernel_rfl) (fun _ _ _ h => h) (Or.inl ⟨by rfl, ?_⟩) hH21 ?_
  rotate_left
  · (intro v hSw; go_simp; try with_reducible rfl)
  simp only [Act.put, List.setIfInBounds_toArray, List.set_cons_zero, List.set_cons_succ, List.getElem_toArray, List.getElem_cons_zero, List.getElem_cons_succ]
  refine wpAnyH_take (i := 32) (v := ?_) rfl (by kernel_rfl) (by kernel_rfl) (by kernel_rfl) (fun _ _ _ h => h) (Or.inl ⟨by rfl, ?_⟩) hH21 ?_
  rotate_left
  · (intro v hSw; go_simp; try with_reducible rfl)
  simp only [Act.put, List.setIfInBounds_toArray, List.set_cons_zero, List.set_cons_succ, List.getElem_toArray, List.getElem_cons_zero, List.getElem_cons_succ]
  refine wpAnyH_done (by kernel_rfl) ?_ _
  go_wp2_with fail
  go_ret
  exact ⟨rfl, hH21.below⟩
end Go.Proofs.YtabenngcmpjlhaaGreatDoor
namespace Go.Proofs.YtabenngcmpjlhaaGreatDoor
open Go.RowKit
theorem rnumber_any (s : ByteArray) (k : Nat) (w : World) (hk : (k : Int) + 8 ≤ s.size) (h9 : (k : Int) ≤ 3000) :
    Calls Tryz.prog 160 #[.string s, .int .i64 k] w fun e w' => e = .returned (.int .u64 (num8 s.data.toList k)) ∧ w' = w := by
  have g := extract_num8 s k
  have z := extract8 s k (by omega)
  have G := Lib.hid g; clear g
  have Z := Lib.hid z; clear z
  generalize num8 s.data.toList k = x at *
  go_enter Tryz.func160, Tryz.ntmps160
  go_wp2_with fail
  refine (rget64_yes _ _ Z.out).mono ?_
  rintro e w1 ⟨rfl, rfl⟩
  rw [G.out]
  go_wp2_with fail
  go_ret
  exact ⟨rfl, rfl⟩
set_option maxHeartbeats 1000000 in
theorem rencode_yes (s : Sup) (w : World) (hw : s.wide) (hr : s.right = true) :
    Calls Tryz.prog 172 #[supV s] w fun e w' => e = .returned (.tuple #[.string s.bytes, .int .i64 0]) ∧ Below w.heap.size w w' := by
  have hsr := fun w => rsright_any s w
  rw [hr] at hsr
  have hn : 1 ≤ s.n ∧ s.n ≤ 32 := by
    unfold Sup.right at hr
    simp at hr
    exact hr.1
  have hb := fun w => rbytes_any s w hw (by omega) (by omega)
  have hbl := body_length s
  have hz : ((txt s.body).size : Int) ≤ 3000 := by rw [txt_size, hbl]; decide
  have he : txt (sealed (txt s.body).data.toList) = s.bytes := rfl
  generalize s.bytes = y at *
  generalize s.body = x at *
  obtain ⟨n, c, b, o, p, i, r, d⟩ := s
  dsimp only [supV] at *
  have HSR := Lib.hid hsr; clear hsr hr
  have HB := Lib.hid hb; clear hb
  have HE := Lib.hid he; clear he
  have HZ := Lib.hid hz; clear hz
  have HH := Lib.hid ((Held.refl w).lay [.int .i64 n, .int .u64 c, .int .u64 b, .int .u64 o, .int .u64 p, .bool i, .bool r, .bool d] 36)
  go_enter Tryz.func172, Tryz.ntmps172
  go_wp2_with fail
  refine (HSR.out _).mono ?_
  rintro e w1 ⟨rfl, hb⟩
  have H1 := Lib.hid (HH.out.up hb)
  clear hb HH
  have k := H1.out.b0.cell
  go_wp2_with fail
  refine (HB.out _).mono ?_
  rintro e w2 ⟨rfl, hb⟩
  have H2 := Lib.hid (H1.out.up hb)
  clear hb H1 k
  go_wp2_with fail
  refine (rseal_any _ _ HZ.out).mono ?_
  rintro e w3 ⟨rfl, hb⟩
  have H3 := Lib.hid (H2.out.up hb)
  clear hb H2
  rw [HE.out]
  go_wp2_with fail
  go_ret2
  exact ⟨rfl, H3.out.below⟩
set_option maxHeartbeats 1000000 in
theorem rencode_no (s : Sup) (w : World) (hr : s.right = false) :
    Calls Tryz.prog 172 #[supV s] w fun e w' => e = .returned (.tuple #[.string ⟨#[]⟩, .int .i64 1]) ∧ Below w.heap.size w w' := by
  have hsr := fun w => rsright_any s w
  rw [hr] at hsr
  obtain ⟨n, c, b, o, p, i, r, d⟩ := s
  dsimp only [supV] at *
  have HSR := Lib.hid hsr; clear hsr hr
  go_enter Tryz.func172, Tryz.ntmps172
  go_wp2_with fail
  refine (HSR.out _).mono ?_
  rintro e w1 ⟨rfl, hb⟩
  go_wp2_with fail
  go_ret2
  exact ⟨rfl, ext below1 hb⟩
end Go.Proofs.YtabenngcmpjlhaaGreatDoor
