/- Packets: Decode and Read, by the code; for every text of up to three thousand bytes. Under: the type of errors as it is laid. -/
import Derived.Test.YtbbcncofdhhflaaDoorPC8
namespace Go.Proofs.YtbbcncofdhhflaaDoor
open Go.RowKit

set_option maxRecDepth 100000 in
set_option maxHeartbeats 16000000 in
theorem pdc_any (s : ByteArray) (k l n c b o p : Int) (i r d q : Bool) (m : Nat) (z : Int) (t : ByteArray) (v : Value) (f : Int) (w : World) (he : Etyp w) (hv : PErr v f) (hp : ∀ w, Calls Tryd.prog 28 #[.string s] w fun e w' => e = .returned (.tuple #[.agg #[.int .i64 k, .int .u64 l, .int .i64 n, .int .u64 c, .int .u64 b, .int .u64 o, .int .u64 p, .bool i, .bool r, .bool d, .bool q, .int .u32 (m : Int), .int .i64 z, .string t], v]) ∧ Below w.heap.size w w') :
    Calls Tryd.prog 13 #[.string s] w fun e w' => e = .returned (.tuple #[.agg #[.int .i64 k, .int .u64 l, .int .i64 n, .int .u64 c, .int .u64 b, .int .u64 o, .int .u64 p, .bool i, .bool r, .bool d, .bool q, .int .u32 (m : Int), .int .i64 z, .string t], .int .i64 f]) ∧ Below w.heap.size w w' := by
  have HT := Lib.hid he; clear he
  have HV := Lib.hid hv; clear hv
  have HP := Lib.hid hp; clear hp
  have H0 := Lib.hid ((Held.refl w).own [.int .i64 0, .int .u64 0, .int .i64 0, .int .u64 0, .int .u64 0, .int .u64 0, .int .u64 0, .bool false, .bool false, .bool false, .bool false, .int .u32 0, .int .i64 0, .string ⟨#[]⟩] 30 (n := 14) rfl)
  go_enter Tryd.func13, Tryd.ntmps13
  go_wp2_with fail
  refine (HP.out _).mono ?_
  rintro e w1 ⟨rfl, hb⟩
  have H1 := Lib.hid (H0.out.up hb)
  clear hb H0
  have H2 := Lib.hid (H1.out.lay [.int .i64 k, .int .u64 l, .int .i64 n, .int .u64 c, .int .u64 b, .int .u64 o, .int .u64 p, .bool i, .bool r, .bool d, .bool q, .int .u32 (m : Int), .int .i64 z, .string t] 30)
  clear H1
  go_wp2_with fail
  refine held_begin (by kernel_rfl) H2.out (fun v0 hH0 => ?_)
  refine wpAnyH_take (i := 0) (v := ?_) rfl (by kernel_rfl) (by kernel_rfl) (by kernel_rfl) (fun _ _ _ h => h) (Or.inl ⟨by rfl, ?_⟩) hH0 ?_
  rotate_left
  · (intro v hSw; have k0 := hSw.b0.cell; go_simp; try with_reducible rfl)
  simp only [Act.put, List.setIfInBounds_toArray, List.set_cons_zero, List.set_cons_succ, List.getElem_toArray, List.getElem_cons_zero]
  refine wpAnyH_take (i := 1) (v := ?_) rfl (by kernel_rfl) (by kernel_rfl) (by kernel_rfl) (fun _ _ _ h => h) (Or.inl ⟨by rfl, ?_⟩) hH0 ?_
  rotate_left
  · (intro v hSw; go_simp; try with_reducible rfl)
  simp only [Act.put, List.setIfInBounds_toArray, List.set_cons_zero, List.set_cons_succ, List.getElem_toArray, List.getElem_cons_zero, List.getElem_cons_succ]
  refine wpAnyH_ready (rs := [2]) (by kernel_rfl) (by simp) ?_
  refine AllReadyH.cons rfl (fun K hK => ?_) AllReadyH.nil
  go_simp
  refine (pnumber_any v f _ (HT.out.up hH0.below) HV.out).mono ?_
  rintro e v1 ⟨rfl, hb⟩
  go_wp2_with fail
  refine hK.out _ _ (hH0.up hb) (fun hH1 => ?_)
  clear hK K hH0
  refine wpAnyH_ready (rs := [3]) (by kernel_rfl) (by simp) ?_
  refine AllReadyH.cons rfl (fun K hK => ?_) AllReadyH.nil
  obtain ⟨z0, z1, z2, z3, z4, z5, z6, z7, z8, z9, z10, z11, z12, z13, hx⟩ := hH1.o0.fourteen
  have kx := hx.cell
  have fx := hx.frozen
  go_simp
  refine hK.out _ _ (hH1.set14 ⟨14, by simp⟩ _ _ _ _ _ _ _ _ _ _ _ _ _ _) (fun hX => ?_)
  refine stored14 hH1 ⟨14, by simp⟩ hx (fun v2 hH2 hy => ?_)
  clear hK K hX hH1 hx kx fx
  refine wpAnyH_take (i := 4) (v := ?_) rfl (by kernel_rfl) (by kernel_rfl) (by kernel_rfl) (fun _ _ _ h => h) (Or.inl ⟨by rfl, ?_⟩) hH2 ?_
  rotate_left
  · (intro v hSw; go_simp; try with_reducible rfl)
  simp only [Act.put, List.setIfInBounds_toArray, List.set_cons_zero, List.set_cons_succ, List.getElem_toArray, List.getElem_cons_zero, List.getElem_cons_succ]
  refine wpAnyH_done (by kernel_rfl) ?_ _
  have H8 := Lib.hid hH2
  have kr := hy.cell
  go_wp2_with fail
  refine bodyPost_ret (v := .tuple #[.agg #[.int .i64 k, .int .u64 l, .int .i64 n, .int .u64 c, .int .u64 b, .int .u64 o, .int .u64 p, .bool i, .bool r, .bool d, .bool q, .int .u32 (m : Int), .int .i64 z, .string t], .int .i64 f]) (by simp [results, Tryd.results13, go_sem, kr]) rfl ⟨rfl, H8.out.below⟩

theorem pdecode_any (s : ByteArray) (w : World) (hs : (s.size : Int) ≤ 3000) (he : Etyp w) : Calls Tryd.prog 13 #[.string s] w fun e w' => e = .returned (.tuple #[pktV (decP s).1, .int .i64 (decP s).2]) ∧ Below w.heap.size w w' := by
  obtain ⟨v, hv, hp⟩ := pparse_any s hs
  generalize decP s = x at *
  obtain ⟨⟨k, l, ⟨n, c, b, o, p, i, r, d, q, m⟩, z, t⟩, f⟩ := x
  exact pdc_any s k l n c b o p i r d q m z t v f w he hv hp

set_option maxRecDepth 100000 in
set_option maxHeartbeats 16000000 in
theorem prd_no (s : ByteArray) (k l n c b o p : Int) (i r d q : Bool) (m : Nat) (z : Int) (t : ByteArray) (g f : Int) (w : World) (he : Etyp w) (hd : ∀ w, Etyp w → Calls Tryd.prog 13 #[.string s] w fun e w' => e = .returned (.tuple #[.agg #[.int .i64 k, .int .u64 l, .int .i64 n, .int .u64 c, .int .u64 b, .int .u64 o, .int .u64 p, .bool i, .bool r, .bool d, .bool q, .int .u32 (m : Int), .int .i64 z, .string t], .int .i64 f]) ∧ Below w.heap.size w w') (hf : (f != 0) = true) :
    Calls Tryd.prog 15 #[.string s, .int .u64 g] w fun e w' => e = .returned (.tuple #[.agg #[.int .i64 0, .int .u64 0, .int .i64 0, .int .u64 0, .int .u64 0, .int .u64 0, .int .u64 0, .bool false, .bool false, .bool false, .bool false, .int .u32 0, .int .i64 0, .string ⟨#[]⟩], .int .i64 f]) ∧ Below w.heap.size w w' := by
  have HD := Lib.hid hd; clear hd
  have HT := Lib.hid he; clear he
  have H0 := Lib.hid ((Held.refl w).own [.int .i64 0, .int .u64 0, .int .i64 0, .int .u64 0, .int .u64 0, .int .u64 0, .int .u64 0, .bool false, .bool false, .bool false, .bool false, .int .u32 0, .int .i64 0, .string ⟨#[]⟩] 30 (n := 14) rfl)
  have BR0 := Lib.hid (Box.new w [.int .i64 0, .int .u64 0, .int .i64 0, .int .u64 0, .int .u64 0, .int .u64 0, .int .u64 0, .bool false, .bool false, .bool false, .bool false, .int .u32 0, .int .i64 0, .string ⟨#[]⟩] 30)
  go_enter Tryd.func15, Tryd.ntmps15
  go_wp2_with fail
  refine (HD.out _ (HT.out.up H0.out.below)).mono ?_
  rintro e w1 ⟨rfl, hb⟩
  have kp := (Box.new w1 [.int .i64 k, .int .u64 l, .int .i64 n, .int .u64 c, .int .u64 b, .int .u64 o, .int .u64 p, .bool i, .bool r, .bool d, .bool q, .int .u32 (m : Int), .int .i64 z, .string t] 30).cell
  have H1 := Lib.hid ((H0.out.up hb).alloc (.cells #[.int .i64 k, .int .u64 l, .int .i64 n, .int .u64 c, .int .u64 b, .int .u64 o, .int .u64 p, .bool i, .bool r, .bool d, .bool q, .int .u32 (m : Int), .int .i64 z, .string t] 30))
  have BR1 := Lib.hid ((BR0.out.below hb).alloc (.cells #[.int .i64 k, .int .u64 l, .int .i64 n, .int .u64 c, .int .u64 b, .int .u64 o, .int .u64 p, .bool i, .bool r, .bool d, .bool q, .int .u32 (m : Int), .int .i64 z, .string t] 30))
  clear hb H0 BR0
  have kr := BR1.out.cell
  have fr := BR1.out.frozen
  go_wp2_with fail
  refine bodyPost_ret (v := .tuple #[.agg #[.int .i64 0, .int .u64 0, .int .i64 0, .int .u64 0, .int .u64 0, .int .u64 0, .int .u64 0, .bool false, .bool false, .bool false, .bool false, .int .u32 0, .int .i64 0, .string ⟨#[]⟩], .int .i64 f]) (by simp [results, Tryd.results15, go_sem, kr]) rfl ⟨rfl, ?_⟩
  exact (H1.out.set14 (b := w.heap.size) ⟨14, by simp⟩ _ _ _ _ _ _ _ _ _ _ _ _ _ _).below

set_option maxRecDepth 100000 in
set_option maxHeartbeats 16000000 in
theorem prd_stale (s : ByteArray) (k l n c b o p : Int) (i r d q : Bool) (m : Nat) (z : Int) (t : ByteArray) (g : Int) (w : World) (he : Etyp w) (hd : ∀ w, Etyp w → Calls Tryd.prog 13 #[.string s] w fun e w' => e = .returned (.tuple #[.agg #[.int .i64 k, .int .u64 l, .int .i64 n, .int .u64 c, .int .u64 b, .int .u64 o, .int .u64 p, .bool i, .bool r, .bool d, .bool q, .int .u32 (m : Int), .int .i64 z, .string t], .int .i64 0]) ∧ Below w.heap.size w w') (hf : (l != g) = true) :
    Calls Tryd.prog 15 #[.string s, .int .u64 g] w fun e w' => e = .returned (.tuple #[.agg #[.int .i64 0, .int .u64 0, .int .i64 0, .int .u64 0, .int .u64 0, .int .u64 0, .int .u64 0, .bool false, .bool false, .bool false, .bool false, .int .u32 0, .int .i64 0, .string ⟨#[]⟩], .int .i64 16]) ∧ Below w.heap.size w w' := by
  have HD := Lib.hid hd; clear hd
  have HT := Lib.hid he; clear he
  have H0 := Lib.hid ((Held.refl w).own [.int .i64 0, .int .u64 0, .int .i64 0, .int .u64 0, .int .u64 0, .int .u64 0, .int .u64 0, .bool false, .bool false, .bool false, .bool false, .int .u32 0, .int .i64 0, .string ⟨#[]⟩] 30 (n := 14) rfl)
  have BR0 := Lib.hid (Box.new w [.int .i64 0, .int .u64 0, .int .i64 0, .int .u64 0, .int .u64 0, .int .u64 0, .int .u64 0, .bool false, .bool false, .bool false, .bool false, .int .u32 0, .int .i64 0, .string ⟨#[]⟩] 30)
  go_enter Tryd.func15, Tryd.ntmps15
  go_wp2_with fail
  refine (HD.out _ (HT.out.up H0.out.below)).mono ?_
  rintro e w1 ⟨rfl, hb⟩
  have kp := (Box.new w1 [.int .i64 k, .int .u64 l, .int .i64 n, .int .u64 c, .int .u64 b, .int .u64 o, .int .u64 p, .bool i, .bool r, .bool d, .bool q, .int .u32 (m : Int), .int .i64 z, .string t] 30).cell
  have H1 := Lib.hid ((H0.out.up hb).alloc (.cells #[.int .i64 k, .int .u64 l, .int .i64 n, .int .u64 c, .int .u64 b, .int .u64 o, .int .u64 p, .bool i, .bool r, .bool d, .bool q, .int .u32 (m : Int), .int .i64 z, .string t] 30))
  have BR1 := Lib.hid ((BR0.out.below hb).alloc (.cells #[.int .i64 k, .int .u64 l, .int .i64 n, .int .u64 c, .int .u64 b, .int .u64 o, .int .u64 p, .bool i, .bool r, .bool d, .bool q, .int .u32 (m : Int), .int .i64 z, .string t] 30))
  clear hb H0 BR0
  have kr := BR1.out.cell
  have fr := BR1.out.frozen
  go_wp2_with fail
  refine bodyPost_ret (v := .tuple #[.agg #[.int .i64 0, .int .u64 0, .int .i64 0, .int .u64 0, .int .u64 0, .int .u64 0, .int .u64 0, .bool false, .bool false, .bool false, .bool false, .int .u32 0, .int .i64 0, .string ⟨#[]⟩], .int .i64 16]) (by simp [results, Tryd.results15, go_sem, kr]) rfl ⟨rfl, ?_⟩
  exact (H1.out.set14 (b := w.heap.size) ⟨14, by simp⟩ _ _ _ _ _ _ _ _ _ _ _ _ _ _).below

set_option maxRecDepth 100000 in
set_option maxHeartbeats 16000000 in
theorem prd_ok (s : ByteArray) (k l n c b o p : Int) (i r d q : Bool) (m : Nat) (z : Int) (t : ByteArray) (g : Int) (w : World) (he : Etyp w) (hd : ∀ w, Etyp w → Calls Tryd.prog 13 #[.string s] w fun e w' => e = .returned (.tuple #[.agg #[.int .i64 k, .int .u64 l, .int .i64 n, .int .u64 c, .int .u64 b, .int .u64 o, .int .u64 p, .bool i, .bool r, .bool d, .bool q, .int .u32 (m : Int), .int .i64 z, .string t], .int .i64 0]) ∧ Below w.heap.size w w') (hf : (l != g) = false) :
    Calls Tryd.prog 15 #[.string s, .int .u64 g] w fun e w' => e = .returned (.tuple #[.agg #[.int .i64 k, .int .u64 l, .int .i64 n, .int .u64 c, .int .u64 b, .int .u64 o, .int .u64 p, .bool i, .bool r, .bool d, .bool q, .int .u32 (m : Int), .int .i64 z, .string t], .int .i64 0]) ∧ Below w.heap.size w w' := by
  have HD := Lib.hid hd; clear hd
  have HT := Lib.hid he; clear he
  have H0 := Lib.hid ((Held.refl w).own [.int .i64 0, .int .u64 0, .int .i64 0, .int .u64 0, .int .u64 0, .int .u64 0, .int .u64 0, .bool false, .bool false, .bool false, .bool false, .int .u32 0, .int .i64 0, .string ⟨#[]⟩] 30 (n := 14) rfl)
  have BR0 := Lib.hid (Box.new w [.int .i64 0, .int .u64 0, .int .i64 0, .int .u64 0, .int .u64 0, .int .u64 0, .int .u64 0, .bool false, .bool false, .bool false, .bool false, .int .u32 0, .int .i64 0, .string ⟨#[]⟩] 30)
  go_enter Tryd.func15, Tryd.ntmps15
  go_wp2_with fail
  refine (HD.out _ (HT.out.up H0.out.below)).mono ?_
  rintro e w1 ⟨rfl, hb⟩
  have kp := (Box.new w1 [.int .i64 k, .int .u64 l, .int .i64 n, .int .u64 c, .int .u64 b, .int .u64 o, .int .u64 p, .bool i, .bool r, .bool d, .bool q, .int .u32 (m : Int), .int .i64 z, .string t] 30).cell
  have H1 := Lib.hid ((H0.out.up hb).alloc (.cells #[.int .i64 k, .int .u64 l, .int .i64 n, .int .u64 c, .int .u64 b, .int .u64 o, .int .u64 p, .bool i, .bool r, .bool d, .bool q, .int .u32 (m : Int), .int .i64 z, .string t] 30))
  have BR1 := Lib.hid ((BR0.out.below hb).alloc (.cells #[.int .i64 k, .int .u64 l, .int .i64 n, .int .u64 c, .int .u64 b, .int .u64 o, .int .u64 p, .bool i, .bool r, .bool d, .bool q, .int .u32 (m : Int), .int .i64 z, .string t] 30))
  clear hb H0 BR0
  have kr := BR1.out.cell
  have fr := BR1.out.frozen
  go_wp2_with fail
  refine bodyPost_ret (v := .tuple #[.agg #[.int .i64 k, .int .u64 l, .int .i64 n, .int .u64 c, .int .u64 b, .int .u64 o, .int .u64 p, .bool i, .bool r, .bool d, .bool q, .int .u32 (m : Int), .int .i64 z, .string t], .int .i64 0]) (by simp [results, Tryd.results15, go_sem, kr]) rfl ⟨rfl, ?_⟩
  exact (H1.out.set14 (b := w.heap.size) ⟨14, by simp⟩ _ _ _ _ _ _ _ _ _ _ _ _ _ _).below

theorem pread_any (s : ByteArray) (g : Int) (w : World) (hs : (s.size : Int) ≤ 3000) (he : Etyp w) : Calls Tryd.prog 15 #[.string s, .int .u64 g] w fun e w' => e = .returned (.tuple #[pktV (readP s g).1, .int .i64 (readP s g).2]) ∧ Below w.heap.size w w' := by
  have hd := fun w => pdecode_any s w hs
  unfold readP
  generalize decP s = x at *
  obtain ⟨⟨k, l, ⟨n, c, b, o, p, i, r, d, q, m⟩, z, t⟩, f⟩ := x
  dsimp only [pktV] at *
  by_cases h0 : f = 0
  · subst h0
    rw [if_pos rfl]
    by_cases h1 : l = g
    · rw [if_pos h1]
      exact prd_ok s k l n c b o p i r d q m z t g w he hd (by simp [h1])
    · rw [if_neg h1]
      exact prd_stale s k l n c b o p i r d q m z t g w he hd (by simp [h1])
  · rw [if_neg h0]
    exact prd_no s k l n c b o p i r d q m z t g f w he hd (bne_iff_ne.2 h0)

end Go.Proofs.YtbbcncofdhhflaaDoor
