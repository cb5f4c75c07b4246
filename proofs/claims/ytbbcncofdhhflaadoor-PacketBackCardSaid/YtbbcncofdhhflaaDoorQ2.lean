/- Hellos as bytes: what Encode answers, for every hello whose generations are numbers of eight bytes and whose mask is one of four. No other condition. -/
import Derived.Test.YtbbcncofdhhflaaDoorQ1
namespace Go.Proofs.YtbbcncofdhhflaaDoor
open Go.RowKit

/-- A hello's bytes. -/
def Hel.body (h : Hel) : List UInt8 := [UInt8.ofNat h.n.toNat, UInt8.ofNat (fl [h.i, h.r, h.d, h.q])] ++ be 8 h.c.toNat ++ be 8 h.b.toNat ++ be 8 h.o.toNat ++ be 8 h.p.toNat ++ be 4 h.m

theorem hbody_length (h : Hel) : h.body.length = 38 := by simp [Hel.body, be_length]

def Hel.bytes (h : Hel) : ByteArray := txt h.body

theorem hbytes_size (h : Hel) : h.bytes.size = 38 := hbody_length h

/-- Some flags in a block of the call's own. -/
theorem bsB {w : World} {g : Nat} {l : List Bool} (h : Box w g (l.map Value.bool)) : Bs w w.heap.size (some ⟨g, 0, none⟩) l := by
  intro k x hk
  refine ⟨_, rfl, h.lt, ?_⟩
  have : (⟨g, 0, none⟩ : Addr).add k = ⟨g, k, none⟩ := by unfold Addr.add; split <;> simp_all
  rw [this, h.cell, List.getElem?_map, hk]
  rfl

theorem flags4 {g : Nat} {i r d q : Bool} {w : World} (h : Box w g [.bool i, .bool r, .bool d, .bool q]) :
    Calls Tryd.prog 50 #[.slice (some ⟨g, 0, none⟩) 4 4] w fun e w' => e = .returned (.int .u8 (fl [i, r, d, q])) ∧ Below w.heap.size w w' := by
  refine (flags_any _ 4 [i, r, d, q] w _ (bsB h) (Nat.le_refl _) (by unfold maxLen; decide)).mono ?_
  rintro e w' ⟨rfl, rfl⟩
  exact ⟨rfl, Below.refl _ _⟩

theorem rflags4 {g : Nat} {i r d q : Bool} {w : World} (h : Box w g [.bool i, .bool r, .bool d, .bool q]) :
    Calls Tryd.prog 51 #[.slice (some ⟨g, 0, none⟩) 4 4] w fun e w' => e = .returned (.int .u8 (fl [i, r, d, q])) ∧ Below w.heap.size w w' := by
  refine (rflags_any _ 4 [i, r, d, q] w _ (bsB h) (Nat.le_refl _) (by unfold maxLen; decide)).mono ?_
  rintro e w' ⟨rfl, rfl⟩
  exact ⟨rfl, Below.refl _ _⟩

/-- The first two bytes. -/
theorem head2 (n : Int) (f : Nat) (h0 : 0 ≤ n) (h1 : n < 256) : strOfNums [IntKind.u8.wrap n, (f : Int)] = txt [UInt8.ofNat n.toNat, UInt8.ofNat f] := by
  rw [IntWalk.u8_in n (by omega)]
  simp only [strOfNums, List.map_cons, List.map_nil, txt, Int.toNat_natCast]

theorem put32_b (m : Nat) (w : World) (h1 : m < 4294967296) : Calls Tryd.prog 33 #[.int .u32 (m : Int)] w fun e w' => e = .returned (.string ⟨(be 4 m).toArray⟩) ∧ Below w.heap.size w w' := by
  have := put32_any (m : Int) w (by omega) (by omega)
  rw [Int.toNat_natCast] at this
  exact this

theorem rput32_b (m : Nat) (w : World) (h1 : m < 4294967296) : Calls Tryd.prog 26 #[.int .u32 (m : Int)] w fun e w' => e = .returned (.string ⟨(be 4 m).toArray⟩) ∧ Below w.heap.size w w' := by
  have := rput32_any (m : Int) w (by omega) (by omega)
  rw [Int.toNat_natCast] at this
  exact this

set_option maxRecDepth 100000 in
set_option maxHeartbeats 4000000 in
theorem hencode_yes (s : Hel) (w : World) (hw : s.wide) (hr : s.right = true) :
    Calls Tryd.prog 35 #[helV s] w fun e w' => e = .returned (.tuple #[.string s.bytes, .int .i64 0]) ∧ Below w.heap.size w w' := by
  have hsr := fun w => hright_any s w hw.2.2.2.2
  have hn := Hel.right_n hr
  rw [hr] at hsr
  have hbl := hbody_length s
  unfold Hel.bytes
  unfold Hel.body at *
  obtain ⟨n, c, b, o, p, i, r, d, q, m⟩ := s
  dsimp only [helV] at *
  obtain ⟨⟨c0, c1⟩, ⟨b0, b1⟩, ⟨o0, o1⟩, ⟨p0, p1⟩, m1⟩ := hw
  dsimp only at c0 c1 b0 b1 o0 o1 p0 p1 m1
  have hn0 : 0 ≤ n := by have := hn.1; omega
  have hn1 : n < 256 := by have := hn.2.1; omega
  clear hn
  have HSR := Lib.hid hsr; clear hsr hr
  have HBL := Lib.hid hbl; clear hbl
  have hz := nums2
  have HH := Lib.hid ((Held.refl w).lay [.int .i64 n, .int .u64 c, .int .u64 b, .int .u64 o, .int .u64 p, .bool i, .bool r, .bool d, .bool q, .int .u32 (m : Int)] 28)
  go_enter Tryd.func35, Tryd.ntmps35
  go_wp2_with fail
  refine (HSR.out _).mono ?_
  rintro e w1 ⟨rfl, hb⟩
  have H1 := Lib.hid (HH.out.up hb)
  clear hb HH
  go_wp2_with fail
  refine held_begin (by kernel_rfl) H1.out (fun v0 hH0 => ?_)
  refine wpAnyH_take (i := 0) (v := ?_) rfl (by kernel_rfl) (by kernel_rfl) (by kernel_rfl) (fun _ _ _ h => h) (Or.inl ⟨by rfl, ?_⟩) hH0 ?_
  rotate_left
  · (intro v hSw; go_simp; try with_reducible rfl)
  simp only [Act.put, List.setIfInBounds_toArray, List.set_cons_zero, List.set_cons_succ, List.getElem_toArray, List.getElem_cons_zero]
  refine wpAnyH_take (i := 1) (v := ?_) rfl (by kernel_rfl) (by kernel_rfl) (by kernel_rfl) (fun _ _ _ h => h) (Or.inl ⟨by rfl, ?_⟩) hH0 ?_
  rotate_left
  · (intro v hSw; have k := hSw.b0.cell; go_simp; try with_reducible rfl)
  simp only [Act.put, List.setIfInBounds_toArray, List.set_cons_zero, List.set_cons_succ, List.getElem_toArray, List.getElem_cons_zero, List.getElem_cons_succ]
  refine wpAnyH_take (i := 2) (v := ?_) rfl (by kernel_rfl) (by kernel_rfl) (by kernel_rfl) (fun _ _ _ h => h) (Or.inl ⟨by rfl, ?_⟩) hH0 ?_
  rotate_left
  · (intro v hSw; go_simp; try with_reducible rfl)
  simp only [Act.put, List.setIfInBounds_toArray, List.set_cons_zero, List.set_cons_succ, List.getElem_toArray, List.getElem_cons_zero, List.getElem_cons_succ]
  refine wpAnyH_take (i := 3) (v := ?_) rfl (by kernel_rfl) (by kernel_rfl) (by kernel_rfl) (fun _ _ _ h => h) (Or.inl ⟨by rfl, ?_⟩) hH0 ?_
  rotate_left
  · (intro v hSw; go_simp; try with_reducible rfl)
  simp only [Act.put, List.setIfInBounds_toArray, List.set_cons_zero, List.set_cons_succ, List.getElem_toArray, List.getElem_cons_zero, List.getElem_cons_succ]
  refine wpAnyH_take (i := 4) (v := ?_) rfl (by kernel_rfl) (by kernel_rfl) (by kernel_rfl) (fun _ _ _ h => h) (Or.inl ⟨by rfl, ?_⟩) hH0 ?_
  rotate_left
  · (intro v hSw; have k := hSw.b0.cell; go_simp; try with_reducible rfl)
  simp only [Act.put, List.setIfInBounds_toArray, List.set_cons_zero, List.set_cons_succ, List.getElem_toArray, List.getElem_cons_zero, List.getElem_cons_succ]
  refine wpAnyH_take (i := 5) (v := ?_) rfl (by kernel_rfl) (by kernel_rfl) (by kernel_rfl) (fun _ _ _ h => h) (Or.inl ⟨by rfl, ?_⟩) hH0 ?_
  rotate_left
  · (intro v hSw; go_simp; try with_reducible rfl)
  simp only [Act.put, List.setIfInBounds_toArray, List.set_cons_zero, List.set_cons_succ, List.getElem_toArray, List.getElem_cons_zero, List.getElem_cons_succ]
  refine wpAnyH_take (i := 6) (v := ?_) rfl (by kernel_rfl) (by kernel_rfl) (by kernel_rfl) (fun _ _ _ h => h) (Or.inl ⟨by rfl, ?_⟩) hH0 ?_
  rotate_left
  · (intro v hSw; have k := hSw.b0.cell; go_simp; try with_reducible rfl)
  simp only [Act.put, List.setIfInBounds_toArray, List.set_cons_zero, List.set_cons_succ, List.getElem_toArray, List.getElem_cons_zero, List.getElem_cons_succ]
  refine wpAnyH_take (i := 7) (v := ?_) rfl (by kernel_rfl) (by kernel_rfl) (by kernel_rfl) (fun _ _ _ h => h) (Or.inl ⟨by rfl, ?_⟩) hH0 ?_
  rotate_left
  · (intro v hSw; go_simp; try with_reducible rfl)
  simp only [Act.put, List.setIfInBounds_toArray, List.set_cons_zero, List.set_cons_succ, List.getElem_toArray, List.getElem_cons_zero, List.getElem_cons_succ]
  refine wpAnyH_take (i := 8) (v := ?_) rfl (by kernel_rfl) (by kernel_rfl) (by kernel_rfl) (fun _ _ _ h => h) (Or.inl ⟨by rfl, ?_⟩) hH0 ?_
  rotate_left
  · (intro v hSw; have k := hSw.b0.cell; go_simp; try with_reducible rfl)
  simp only [Act.put, List.setIfInBounds_toArray, List.set_cons_zero, List.set_cons_succ, List.getElem_toArray, List.getElem_cons_zero, List.getElem_cons_succ]
  refine wpAnyH_take (i := 9) (v := ?_) rfl (by kernel_rfl) (by kernel_rfl) (by kernel_rfl) (fun _ _ _ h => h) (Or.inl ⟨by rfl, ?_⟩) hH0 ?_
  rotate_left
  · (intro v hSw; go_simp; try with_reducible rfl)
  simp only [Act.put, List.setIfInBounds_toArray, List.set_cons_zero, List.set_cons_succ, List.getElem_toArray, List.getElem_cons_zero, List.getElem_cons_succ]
  refine wpAnyH_take (i := 10) (v := ?_) rfl (by kernel_rfl) (by kernel_rfl) (by kernel_rfl) (fun _ _ _ h => h) (Or.inl ⟨by rfl, ?_⟩) hH0 ?_
  rotate_left
  · (intro v hSw; have k := hSw.b0.cell; go_simp; try with_reducible rfl)
  simp only [Act.put, List.setIfInBounds_toArray, List.set_cons_zero, List.set_cons_succ, List.getElem_toArray, List.getElem_cons_zero, List.getElem_cons_succ]
  refine wpAnyH_ready (rs := [11]) (by kernel_rfl) (by simp) ?_
  refine AllReadyH.cons rfl (fun K hK => ?_) AllReadyH.nil
  go_simp
  refine hK.out _ _ (hH0.alloc _) (fun hX => ?_)
  refine laid_box hH0 (fun v1 hH1 => ?_)
  clear hK K hX hH0
  refine wpAnyH_ready (rs := [12]) (by kernel_rfl) (by simp) ?_
  refine AllReadyH.cons rfl (fun K hK => ?_) AllReadyH.nil
  go_simp
  refine (flags4 hH1.b0).mono ?_
  rintro e v2 ⟨rfl, hb⟩
  go_wp2_with fail
  refine hK.out _ _ (hH1.up hb) (fun hH2 => ?_)
  clear hK K hH1
  refine wpAnyH_ready (rs := [13]) (by kernel_rfl) (by simp) ?_
  refine AllReadyH.cons rfl (fun K hK => ?_) AllReadyH.nil
  go_simp
  refine hK.out _ _ (hH2.alloc _) (fun hX => ?_)
  refine laid_box hH2 (fun v3 hH3 => ?_)
  clear hK K hX hH2
  refine wpAnyH_take (i := 14) (v := ?_) rfl (by kernel_rfl) (by kernel_rfl) (by kernel_rfl) (fun _ _ _ h => h) (Or.inl ⟨by rfl, ?_⟩) hH3 ?_
  rotate_left
  · (intro v hSw; have c2 := conv_box hSw.b0; go_simp; try with_reducible rfl)
  simp only [Act.put, List.setIfInBounds_toArray, List.set_cons_zero, List.set_cons_succ, List.getElem_toArray, List.getElem_cons_zero, List.getElem_cons_succ]
  refine wpAnyH_take (i := 15) (v := ?_) rfl (by kernel_rfl) (by kernel_rfl) (by kernel_rfl) (fun _ _ _ h => h) (Or.inl ⟨by rfl, ?_⟩) hH3 ?_
  rotate_left
  · (intro v hSw; go_simp; try with_reducible rfl)
  simp only [Act.put, List.setIfInBounds_toArray, List.set_cons_zero, List.set_cons_succ, List.getElem_toArray, List.getElem_cons_zero, List.getElem_cons_succ]
  refine wpAnyH_done (by kernel_rfl) ?_ _
  rw [head2 n (fl [i, r, d, q]) hn0 hn1]
  clear hz
  generalize hx : txt [UInt8.ofNat n.toNat, UInt8.ofNat (fl [i, r, d, q])] = x
  have hxz : (x.size : Int) = 2 := by rw [← hx]; rfl
  have HX := Lib.hid hx; clear hx
  have k := hH3.b2.cell
  have H4 := Lib.hid hH3
  clear hH3 hb H1
  go_wp2_with fail
  refine wp_loop_rounds 5 ?_
  clear k
  rw [rounds_succ]
  go_wp2_with fail
  refine (put64_any _ _ c0 c1).mono ?_
  rintro e w5 ⟨rfl, hb⟩
  have H5 := Lib.hid (H4.out.up hb)
  clear hb H4
  generalize hp : (⟨(be 8 c.toNat).toArray⟩ : ByteArray) = y
  have hqz : (y.size : Int) = 8 := by rw [← hp]; simp [ByteArray.size, be_length]
  have HQ0 := Lib.hid hp; clear hp
  go_wp2_with fail
  generalize hx1 : x ++ y = x1
  have hxz1 : (x1.size : Int) = 10 := by rw [← hx1]; simp; omega
  have HX1 := Lib.hid hx1; clear hx1 hqz hxz
  rw [rounds_succ]
  go_wp2_with fail
  refine (put64_any _ _ b0 b1).mono ?_
  rintro e w6 ⟨rfl, hb⟩
  have H6 := Lib.hid (H5.out.up hb)
  clear hb H5
  generalize hp : (⟨(be 8 b.toNat).toArray⟩ : ByteArray) = y
  have hqz : (y.size : Int) = 8 := by rw [← hp]; simp [ByteArray.size, be_length]
  have HQ1 := Lib.hid hp; clear hp
  go_wp2_with fail
  generalize hx2 : x1 ++ y = x2
  have hxz2 : (x2.size : Int) = 18 := by rw [← hx2]; simp; omega
  have HX2 := Lib.hid hx2; clear hx2 hqz hxz1
  rw [rounds_succ]
  go_wp2_with fail
  refine (put64_any _ _ o0 o1).mono ?_
  rintro e w7 ⟨rfl, hb⟩
  have H7 := Lib.hid (H6.out.up hb)
  clear hb H6
  generalize hp : (⟨(be 8 o.toNat).toArray⟩ : ByteArray) = y
  have hqz : (y.size : Int) = 8 := by rw [← hp]; simp [ByteArray.size, be_length]
  have HQ2 := Lib.hid hp; clear hp
  go_wp2_with fail
  generalize hx3 : x2 ++ y = x3
  have hxz3 : (x3.size : Int) = 26 := by rw [← hx3]; simp; omega
  have HX3 := Lib.hid hx3; clear hx3 hqz hxz2
  rw [rounds_succ]
  go_wp2_with fail
  refine (put64_any _ _ p0 p1).mono ?_
  rintro e w8 ⟨rfl, hb⟩
  have H8 := Lib.hid (H7.out.up hb)
  clear hb H7
  generalize hp : (⟨(be 8 p.toNat).toArray⟩ : ByteArray) = y
  have hqz : (y.size : Int) = 8 := by rw [← hp]; simp [ByteArray.size, be_length]
  have HQ3 := Lib.hid hp; clear hp
  go_wp2_with fail
  generalize hx4 : x3 ++ y = x4
  have hxz4 : (x4.size : Int) = 34 := by rw [← hx4]; simp; omega
  have HX4 := Lib.hid hx4; clear hx4 hqz hxz3
  rw [rounds_succ]
  have k := H8.out.b2.cell
  go_wp2_with fail
  refine (put32_b _ _ m1).mono ?_
  rintro e w9 ⟨rfl, hb⟩
  have H9 := Lib.hid (H8.out.up hb)
  clear hb H8 k
  generalize hp : (⟨(be 4 m).toArray⟩ : ByteArray) = y
  have hqz : (y.size : Int) = 4 := by rw [← hp]; simp [ByteArray.size, be_length]
  have HQ4 := Lib.hid hp; clear hp
  go_wp2_with fail
  have he : x4 ++ y = txt ([UInt8.ofNat n.toNat, UInt8.ofNat (fl [i, r, d, q])] ++ be 8 c.toNat ++ be 8 b.toNat ++ be 8 o.toNat ++ be 8 p.toNat ++ be 4 m) := by
    rw [← HX4.out, ← HX3.out, ← HX2.out, ← HX1.out, ← HX.out, ← HQ0.out, ← HQ1.out, ← HQ2.out, ← HQ3.out, ← HQ4.out, txt_app, txt_app, txt_app, txt_app, txt_app]
  rw [he]
  go_ret2
  exact ⟨rfl, H9.out.below⟩

set_option maxHeartbeats 1000000 in
theorem hencode_no (s : Hel) (w : World) (hm : s.m < 4294967296) (hr : s.right = false) :
    Calls Tryd.prog 35 #[helV s] w fun e w' => e = .returned (.tuple #[.string ⟨#[]⟩, .int .i64 1]) ∧ Below w.heap.size w w' := by
  have hsr := fun w => hright_any s w hm
  rw [hr] at hsr
  obtain ⟨n, c, b, o, p, i, r, d, q, m⟩ := s
  dsimp only [helV] at *
  have HSR := Lib.hid hsr; clear hsr hr
  go_enter Tryd.func35, Tryd.ntmps35
  go_wp2_with fail
  refine (HSR.out _).mono ?_
  rintro e w1 ⟨rfl, hb⟩
  go_wp2_with fail
  go_ret2
  exact ⟨rfl, ext below1 hb⟩

end Go.Proofs.YtbbcncofdhhflaaDoor
