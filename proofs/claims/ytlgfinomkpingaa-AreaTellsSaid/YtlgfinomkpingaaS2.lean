/- Superblocks as bytes: what both functions that lay them answer, for every superblock whose generations are numbers of eight bytes. No other condition. -/
import Derived.Test.YtlgfinomkpingaaS1
import Derived.Test.YtlgfinomkpingaaR0
namespace Go.Proofs.Ytlgfinomkpingaa
open Go.RowKit

/-- A superblock's bytes, without the seal. -/
def Sup.body (s : Sup) : List UInt8 := [71, 77, 1, UInt8.ofNat s.n.toNat, UInt8.ofNat (fl [s.i, s.r, s.d])] ++ be 8 s.c.toNat ++ be 8 s.b.toNat ++ be 8 s.o.toNat ++ be 8 s.p.toNat

theorem body_length (s : Sup) : s.body.length = 37 := by simp [Sup.body, be_length]

/-- Its bytes. -/
def Sup.bytes (s : Sup) : ByteArray := txt (sealed s.body)

theorem bs3 {w : World} {g : Nat} {i r d : Bool} (h : Box w g [.bool i, .bool r, .bool d]) : Bs w w.heap.size (some ⟨g, 0, none⟩) [i, r, d] := by
  intro k x hk
  refine ⟨_, rfl, h.lt, ?_⟩
  have : (⟨g, 0, none⟩ : Addr).add k = ⟨g, k, none⟩ := by unfold Addr.add; split <;> simp_all
  rw [this, h.cell]
  match k, hk with
  | 0, hk => simp at hk; subst hk; rfl
  | 1, hk => simp at hk; subst hk; rfl
  | 2, hk => simp at hk; subst hk; rfl

theorem flags3 {g : Nat} {i r d : Bool} {w : World} (h : Box w g [.bool i, .bool r, .bool d]) :
    Calls Try.prog 78 #[.slice (some ⟨g, 0, none⟩) 3 3] w fun e w' => e = .returned (.int .u8 (fl [i, r, d])) ∧ Below w.heap.size w w' := by
  refine (flags_any _ 3 [i, r, d] w _ (bs3 h) (Nat.le_refl _) (by unfold maxLen; decide)).mono ?_
  rintro e w' ⟨rfl, rfl⟩
  exact ⟨rfl, Below.refl _ _⟩

theorem rflags3 {g : Nat} {i r d : Bool} {w : World} (h : Box w g [.bool i, .bool r, .bool d]) :
    Calls Try.prog 89 #[.slice (some ⟨g, 0, none⟩) 3 3] w fun e w' => e = .returned (.int .u8 (fl [i, r, d])) ∧ Below w.heap.size w w' := by
  refine (rflags_any _ 3 [i, r, d] w _ (bs3 h) (Nat.le_refl _) (by unfold maxLen; decide)).mono ?_
  rintro e w' ⟨rfl, rfl⟩
  exact ⟨rfl, Below.refl _ _⟩

theorem conv_box {w : World} {g : Nat} {a b : Int} (h : Box w g [.int .u8 a, .int .u8 b]) : (convert 90 9 (.slice (some ⟨g, 0, none⟩) 2 2)).run Try.prog w = .ok (.string (strOfNums [a, b])) w := by
  refine run_convert_bytes_arg (P := Try.prog) _ 90 5 Try.underlying90 Try.underlying5 g 0 2 2 [a, b] rfl (fun i hi => ?_) 9 Try.underlying9
  match i, hi with
  | 0, _ => exact h.cell 0
  | 1, _ => exact h.cell 1

theorem nums2 (a b : Int) : (strOfNums [a, b]).size = 2 := by rw [strOfNums_size]; rfl

/-- Four generations in a row, one taken. -/
@[go_sem] theorem idx0 (c b o p : Int) (w : World) : (Instr.index 112 (.agg #[.int .u64 c, .int .u64 b, .int .u64 o, .int .u64 p]) (.int .i64 0)).run Try.prog w = .ok (.int .u64 c) w := by kernel_rfl
@[go_sem] theorem idx1 (c b o p : Int) (w : World) : (Instr.index 112 (.agg #[.int .u64 c, .int .u64 b, .int .u64 o, .int .u64 p]) (.int .i64 1)).run Try.prog w = .ok (.int .u64 b) w := by kernel_rfl
@[go_sem] theorem idx2 (c b o p : Int) (w : World) : (Instr.index 112 (.agg #[.int .u64 c, .int .u64 b, .int .u64 o, .int .u64 p]) (.int .i64 2)).run Try.prog w = .ok (.int .u64 o) w := by kernel_rfl
@[go_sem] theorem idx3 (c b o p : Int) (w : World) : (Instr.index 112 (.agg #[.int .u64 c, .int .u64 b, .int .u64 o, .int .u64 p]) (.int .i64 3)).run Try.prog w = .ok (.int .u64 p) w := by kernel_rfl

/-- The first five bytes. -/
theorem head5 (n : Int) (f : Nat) (h0 : 0 ≤ n) : (⟨#[71, 77, 1]⟩ : ByteArray) ++ strOfNums [n % 256, (f : Int)] = txt [71, 77, 1, UInt8.ofNat n.toNat, UInt8.ofNat f] := by
  have e : strOfNums [n % 256, (f : Int)] = txt [UInt8.ofNat n.toNat, UInt8.ofNat f] := by
    simp only [strOfNums, List.map_cons, List.map_nil, txt, Int.toNat_natCast]
    rw [show (n % 256).toNat = n.toNat % 256 from by omega, ofNat_mod]
  rw [e]
  exact join_str [71, 77, 1] _

theorem txt_app (l r : List UInt8) : txt l ++ (⟨r.toArray⟩ : ByteArray) = txt (l ++ r) := join_str l r

set_option maxRecDepth 100000 in
set_option maxHeartbeats 4000000 in
theorem encode_yes (s : Sup) (w : World) (hw : s.wide) (hr : s.right = true) :
    Calls Try.prog 58 #[supV s] w fun e w' => e = .returned (.tuple #[.string s.bytes, .int .i64 0]) ∧ Below w.heap.size w w' := by
  have hsr := fun w => sright_any s w
  rw [hr] at hsr
  have hn : 1 ≤ s.n ∧ s.n ≤ 32 := by
    unfold Sup.right at hr
    simp at hr
    exact hr.1
  have hf : ∀ i r d : Bool, fl [i, r, d] < 256 := by decide
  have hbl := body_length s
  unfold Sup.bytes
  unfold Sup.body at *
  obtain ⟨n, c, b, o, p, i, r, d⟩ := s
  dsimp only [supV] at *
  obtain ⟨⟨c0, c1⟩, ⟨b0, b1⟩, ⟨o0, o1⟩, p0, p1⟩ := hw
  dsimp only at c0 c1 b0 b1 o0 o1 p0 p1
  have HSR := Lib.hid hsr; clear hsr hr
  have HF := Lib.hid hf; clear hf
  have HBL := Lib.hid hbl; clear hbl
  have hz := nums2
  have HH := Lib.hid ((Held.refl w).lay [.int .i64 n, .int .u64 c, .int .u64 b, .int .u64 o, .int .u64 p, .bool i, .bool r, .bool d] 52)
  go_enter Try.func58, Try.ntmps58
  go_wp2_with fail
  refine (HSR.out _).mono ?_
  rintro e w1 ⟨rfl, hb⟩
  have H1 := Lib.hid (HH.out.up hb)
  clear hb HH
  go_wp2_with fail
  refine held_begin (by kernel_rfl) H1.out (fun v0 hH0 => ?_)
  refine wpAnyH_take (i := 0) (v := ?_) rfl (by kernel_rfl) (by kernel_rfl) (by kernel_rfl) (fun _ _ _ h => h) (Or.inl ⟨by rfl, ?_⟩) hH0 ?_
  rotate_left
  · (intro v hSw; go_simp; try with_reducible rfl)
  simp only [Act.put, List.setIfInBounds_toArray, List.set_cons_zero, List.set_cons_succ, List.getElem_toArray, List.getElem_cons_zero]
  refine wpAnyH_take (i := 1) (v := ?_) rfl (by kernel_rfl) (by kernel_rfl) (by kernel_rfl) (fun _ _ _ h => h) (Or.inl ⟨by rfl, ?_⟩) hH0 ?_
  rotate_left
  · (intro v hSw; have k := hSw.b0.cell; go_simp; try with_reducible rfl)
  simp only [Act.put, List.setIfInBounds_toArray, List.set_cons_zero, List.set_cons_succ, List.getElem_toArray, List.getElem_cons_zero, List.getElem_cons_succ]
  refine wpAnyH_take (i := 2) (v := ?_) rfl (by kernel_rfl) (by kernel_rfl) (by kernel_rfl) (fun _ _ _ h => h) (Or.inl ⟨by rfl, ?_⟩) hH0 ?_
  rotate_left
  · (intro v hSw; go_simp; try with_reducible rfl)
  simp only [Act.put, List.setIfInBounds_toArray, List.set_cons_zero, List.set_cons_succ, List.getElem_toArray, List.getElem_cons_zero, List.getElem_cons_succ]
  refine wpAnyH_take (i := 3) (v := ?_) rfl (by kernel_rfl) (by kernel_rfl) (by kernel_rfl) (fun _ _ _ h => h) (Or.inl ⟨by rfl, ?_⟩) hH0 ?_
  rotate_left
  · (intro v hSw; go_simp; try with_reducible rfl)
  simp only [Act.put, List.setIfInBounds_toArray, List.set_cons_zero, List.set_cons_succ, List.getElem_toArray, List.getElem_cons_zero, List.getElem_cons_succ]
  refine wpAnyH_take (i := 4) (v := ?_) rfl (by kernel_rfl) (by kernel_rfl) (by kernel_rfl) (fun _ _ _ h => h) (Or.inl ⟨by rfl, ?_⟩) hH0 ?_
  rotate_left
  · (intro v hSw; have k := hSw.b0.cell; go_simp; try with_reducible rfl)
  simp only [Act.put, List.setIfInBounds_toArray, List.set_cons_zero, List.set_cons_succ, List.getElem_toArray, List.getElem_cons_zero, List.getElem_cons_succ]
  refine wpAnyH_take (i := 5) (v := ?_) rfl (by kernel_rfl) (by kernel_rfl) (by kernel_rfl) (fun _ _ _ h => h) (Or.inl ⟨by rfl, ?_⟩) hH0 ?_
  rotate_left
  · (intro v hSw; go_simp; try with_reducible rfl)
  simp only [Act.put, List.setIfInBounds_toArray, List.set_cons_zero, List.set_cons_succ, List.getElem_toArray, List.getElem_cons_zero, List.getElem_cons_succ]
  refine wpAnyH_take (i := 6) (v := ?_) rfl (by kernel_rfl) (by kernel_rfl) (by kernel_rfl) (fun _ _ _ h => h) (Or.inl ⟨by rfl, ?_⟩) hH0 ?_
  rotate_left
  · (intro v hSw; have k := hSw.b0.cell; go_simp; try with_reducible rfl)
  simp only [Act.put, List.setIfInBounds_toArray, List.set_cons_zero, List.set_cons_succ, List.getElem_toArray, List.getElem_cons_zero, List.getElem_cons_succ]
  refine wpAnyH_take (i := 7) (v := ?_) rfl (by kernel_rfl) (by kernel_rfl) (by kernel_rfl) (fun _ _ _ h => h) (Or.inl ⟨by rfl, ?_⟩) hH0 ?_
  rotate_left
  · (intro v hSw; go_simp; try with_reducible rfl)
  simp only [Act.put, List.setIfInBounds_toArray, List.set_cons_zero, List.set_cons_succ, List.getElem_toArray, List.getElem_cons_zero, List.getElem_cons_succ]
  refine wpAnyH_take (i := 8) (v := ?_) rfl (by kernel_rfl) (by kernel_rfl) (by kernel_rfl) (fun _ _ _ h => h) (Or.inl ⟨by rfl, ?_⟩) hH0 ?_
  rotate_left
  · (intro v hSw; have k := hSw.b0.cell; go_simp; try with_reducible rfl)
  simp only [Act.put, List.setIfInBounds_toArray, List.set_cons_zero, List.set_cons_succ, List.getElem_toArray, List.getElem_cons_zero, List.getElem_cons_succ]
  refine wpAnyH_ready (rs := [9]) (by kernel_rfl) (by simp) ?_
  refine AllReadyH.cons rfl (fun K hK => ?_) AllReadyH.nil
  go_simp
  refine hK.out _ _ (hH0.alloc _) (fun hX => ?_)
  refine laid_box hH0 (fun v1 hH1 => ?_)
  clear hK K hX hH0
  refine wpAnyH_ready (rs := [10]) (by kernel_rfl) (by simp) ?_
  refine AllReadyH.cons rfl (fun K hK => ?_) AllReadyH.nil
  go_simp
  refine (flags3 hH1.b0).mono ?_
  rintro e v2 ⟨rfl, hb⟩
  go_wp2_with fail
  refine hK.out _ _ (hH1.up hb) (fun hH2 => ?_)
  clear hK K hH1
  refine wpAnyH_ready (rs := [11]) (by kernel_rfl) (by simp) ?_
  refine AllReadyH.cons rfl (fun K hK => ?_) AllReadyH.nil
  go_simp
  refine hK.out _ _ (hH2.alloc _) (fun hX => ?_)
  refine laid_box hH2 (fun v3 hH3 => ?_)
  clear hK K hX hH2
  refine wpAnyH_take (i := 12) (v := ?_) rfl (by kernel_rfl) (by kernel_rfl) (by kernel_rfl) (fun _ _ _ h => h) (Or.inl ⟨by rfl, ?_⟩) hH3 ?_
  rotate_left
  · (intro v hSw; have c2 := conv_box hSw.b0; go_simp; try with_reducible rfl)
  simp only [Act.put, List.setIfInBounds_toArray, List.set_cons_zero, List.set_cons_succ, List.getElem_toArray, List.getElem_cons_zero, List.getElem_cons_succ]
  refine wpAnyH_take (i := 13) (v := ?_) rfl (by kernel_rfl) (by kernel_rfl) (by kernel_rfl) (fun _ _ _ h => h) (Or.inl ⟨by rfl, ?_⟩) hH3 ?_
  rotate_left
  · (intro v hSw; go_simp; try with_reducible rfl)
  simp only [Act.put, List.setIfInBounds_toArray, List.set_cons_zero, List.set_cons_succ, List.getElem_toArray, List.getElem_cons_zero, List.getElem_cons_succ]
  refine wpAnyH_take (i := 14) (v := ?_) rfl (by kernel_rfl) (by kernel_rfl) (by kernel_rfl) (fun _ _ _ h => h) (Or.inl ⟨by rfl, ?_⟩) hH3 ?_
  rotate_left
  · (intro v hSw; go_simp; try with_reducible rfl)
  simp only [Act.put, List.setIfInBounds_toArray, List.set_cons_zero, List.set_cons_succ, List.getElem_toArray, List.getElem_cons_zero, List.getElem_cons_succ]
  refine wpAnyH_done (by kernel_rfl) ?_ _
  have e5 : (⟨#[71, 77, 1]⟩ : ByteArray) ++ strOfNums [IntKind.u8.wrap n, ((fl [i, r, d] : Nat) : Int)] = txt [71, 77, 1, UInt8.ofNat n.toNat, UInt8.ofNat (fl [i, r, d])] := by
    rw [IntWalk.u8_in n (by omega)]
    have h5 := head5 n (fl [i, r, d]) (by omega)
    rw [show n % 256 = n from by omega] at h5
    exact h5
  rw [e5]
  clear e5 hz
  generalize hx : txt [71, 77, 1, UInt8.ofNat n.toNat, UInt8.ofNat (fl [i, r, d])] = x
  have hxz : (x.size : Int) = 5 := by rw [← hx]; rfl
  have HX := Lib.hid hx; clear hx
  have k := hH3.b2.cell
  go_wp2_with fail
  refine (slist_any _ _ _ _ _).mono ?_
  rintro e w4 ⟨rfl, hb4⟩
  have H4 := Lib.hid (hH3.up hb4)
  clear hb4 hH3 k hb H1
  go_wp2_with fail
  refine wp_loop_rounds 5 ?_
  rw [rounds_succ]
  go_wp2_with fail
  refine (put64_any _ _ c0 c1).mono ?_
  rintro e w5 ⟨rfl, hb⟩
  have H5 := Lib.hid (H4.out.up hb)
  clear hb H4
  generalize hp : (⟨(be 8 c.toNat).toArray⟩ : ByteArray) = q
  have hqz : (q.size : Int) = 8 := by rw [← hp]; simp [ByteArray.size, be_length]
  have HQ0 := Lib.hid hp; clear hp
  go_wp2_with fail
  generalize hx1 : x ++ q = x1
  have hxz1 : (x1.size : Int) = 13 := by rw [← hx1]; simp; omega
  have HX1 := Lib.hid hx1; clear hx1 hqz hxz
  rw [rounds_succ]
  go_wp2_with fail
  refine (put64_any _ _ b0 b1).mono ?_
  rintro e w6 ⟨rfl, hb⟩
  have H6 := Lib.hid (H5.out.up hb)
  clear hb H5
  generalize hp : (⟨(be 8 b.toNat).toArray⟩ : ByteArray) = q
  have hqz : (q.size : Int) = 8 := by rw [← hp]; simp [ByteArray.size, be_length]
  have HQ1 := Lib.hid hp; clear hp
  go_wp2_with fail
  generalize hx2 : x1 ++ q = x2
  have hxz2 : (x2.size : Int) = 21 := by rw [← hx2]; simp; omega
  have HX2 := Lib.hid hx2; clear hx2 hqz hxz1
  rw [rounds_succ]
  go_wp2_with fail
  refine (put64_any _ _ o0 o1).mono ?_
  rintro e w7 ⟨rfl, hb⟩
  have H7 := Lib.hid (H6.out.up hb)
  clear hb H6
  generalize hp : (⟨(be 8 o.toNat).toArray⟩ : ByteArray) = q
  have hqz : (q.size : Int) = 8 := by rw [← hp]; simp [ByteArray.size, be_length]
  have HQ2 := Lib.hid hp; clear hp
  go_wp2_with fail
  generalize hx3 : x2 ++ q = x3
  have hxz3 : (x3.size : Int) = 29 := by rw [← hx3]; simp; omega
  have HX3 := Lib.hid hx3; clear hx3 hqz hxz2
  rw [rounds_succ]
  go_wp2_with fail
  refine (put64_any _ _ p0 p1).mono ?_
  rintro e w8 ⟨rfl, hb⟩
  have H8 := Lib.hid (H7.out.up hb)
  clear hb H7
  generalize hp : (⟨(be 8 p.toNat).toArray⟩ : ByteArray) = q
  have hqz : (q.size : Int) = 8 := by rw [← hp]; simp [ByteArray.size, be_length]
  have HQ3 := Lib.hid hp; clear hp
  go_wp2_with fail
  generalize hx4 : x3 ++ q = x4
  have hxz4 : (x4.size : Int) = 37 := by rw [← hx4]; simp; omega
  have HX4 := Lib.hid hx4; clear hx4 hqz hxz3
  rw [rounds_succ]
  go_wp2_with fail
  refine (seal_any _ _ (by omega)).mono ?_
  rintro e w9 ⟨rfl, hb⟩
  have H9 := Lib.hid (H8.out.up hb)
  clear hb H8
  have he : x4.data.toList = [71, 77, 1, UInt8.ofNat n.toNat, UInt8.ofNat (fl [i, r, d])] ++ be 8 c.toNat ++ be 8 b.toNat ++ be 8 o.toNat ++ be 8 p.toNat := by
    rw [← HX4.out, ← HX3.out, ← HX2.out, ← HX1.out, ← HX.out, ← HQ0.out, ← HQ1.out, ← HQ2.out, ← HQ3.out, txt_app, txt_app, txt_app, txt_app, txt_data]
  rw [he]
  go_wp2_with fail
  go_ret2
  exact ⟨rfl, H9.out.below⟩

set_option maxHeartbeats 1000000 in
theorem encode_no (s : Sup) (w : World) (hr : s.right = false) :
    Calls Try.prog 58 #[supV s] w fun e w' => e = .returned (.tuple #[.string ⟨#[]⟩, .int .i64 1]) ∧ Below w.heap.size w w' := by
  have hsr := fun w => sright_any s w
  rw [hr] at hsr
  obtain ⟨n, c, b, o, p, i, r, d⟩ := s
  dsimp only [supV] at *
  have HSR := Lib.hid hsr; clear hsr hr
  go_enter Try.func58, Try.ntmps58
  go_wp2_with fail
  refine (HSR.out _).mono ?_
  rintro e w1 ⟨rfl, hb⟩
  go_wp2_with fail
  go_ret2
  exact ⟨rfl, ext below1 hb⟩

end Go.Proofs.Ytlgfinomkpingaa
