/- Stores: what the document's Mark, Wipe and Join answer, over what they call, for every disk within what they ask. -/
import Derived.Test.YtjkgellkkjjnbaaGreatDoorZC
import Derived.Test.YtjkgellkkjjnbaaGreatDoorKG
import Derived.Test.YtjkgellkkjjnbaaGreatDoorKM
namespace Go.Proofs.YtjkgellkkjjnbaaGreatDoor
open Go.RowKit

set_option maxRecDepth 100000 in
set_option maxHeartbeats 4000000 in
theorem rzmark_out (A B : Option Addr) (n m : Nat) (s : List ByteArray) (c : List Wr) (f : Int) (x : Bool) (b : Sup) (k : Nat) (i : Int) (w : World) (hi : i < 0 ∨ b.n ≤ i) : Calls Tryz.prog 37 #[.agg #[.slice A s.length n, .slice B c.length m, .int .i64 f, .bool x, .int .i64 b.n, .int .u64 b.c, .int .u64 b.b, .int .u64 b.o, .int .u64 b.p, .bool b.i, .bool b.r, .bool b.d, .int .u32 k], .int .i64 i] w fun e w' => e = .returned (.tuple #[.agg #[.slice A s.length n, .slice B c.length m, .int .i64 f, .bool x, .int .i64 b.n, .int .u64 b.c, .int .u64 b.b, .int .u64 b.o, .int .u64 b.p, .bool b.i, .bool b.r, .bool b.d, .int .u32 k], .int .i64 4]) ∧ Below w.heap.size w w' := by
  have kl := ((Box.new w [.slice A s.length n, .slice B c.length m, .int .i64 f, .bool x, .int .i64 b.n, .int .u64 b.c, .int .u64 b.b, .int .u64 b.o, .int .u64 b.p, .bool b.i, .bool b.r, .bool b.d, .int .u32 k] 34).alloc (.cells ([.slice none 0 0, .slice none 0 0, .int .i64 0, .bool false, .int .i64 0, .int .u64 0, .int .u64 0, .int .u64 0, .int .u64 0, .bool false, .bool false, .bool false, .int .u32 0] : List Value).toArray 34)).cell
  by_cases h0 : i < 0
  · clear hi
    go_enter Tryz.func37, Tryz.ntmps37
    go_wp2_with fail
    refine bodyPost_ret (v := .tuple #[.agg #[.slice A s.length n, .slice B c.length m, .int .i64 f, .bool x, .int .i64 b.n, .int .u64 b.c, .int .u64 b.b, .int .u64 b.o, .int .u64 b.p, .bool b.i, .bool b.r, .bool b.d, .int .u32 k], .int .i64 4]) (by simp [results, Tryz.results37, go_sem]) rfl ⟨rfl, ?_⟩
    exact below2
  · have h1 : b.n ≤ i := by omega
    clear hi
    go_enter Tryz.func37, Tryz.ntmps37
    go_wp2_with fail
    refine bodyPost_ret (v := .tuple #[.agg #[.slice A s.length n, .slice B c.length m, .int .i64 f, .bool x, .int .i64 b.n, .int .u64 b.c, .int .u64 b.b, .int .u64 b.o, .int .u64 b.p, .bool b.i, .bool b.r, .bool b.d, .int .u32 k], .int .i64 4]) (by simp [results, Tryz.results37, go_sem]) rfl ⟨rfl, ?_⟩
    exact below2

set_option maxRecDepth 100000 in
set_option maxHeartbeats 4000000 in
theorem rzwipe_out (A B : Option Addr) (n m : Nat) (s : List ByteArray) (c : List Wr) (f : Int) (x : Bool) (b : Sup) (k : Nat) (i : Int) (w : World) (hi : i < 0 ∨ b.n ≤ i) : Calls Tryz.prog 38 #[.agg #[.slice A s.length n, .slice B c.length m, .int .i64 f, .bool x, .int .i64 b.n, .int .u64 b.c, .int .u64 b.b, .int .u64 b.o, .int .u64 b.p, .bool b.i, .bool b.r, .bool b.d, .int .u32 k], .int .i64 i] w fun e w' => e = .returned (.tuple #[.agg #[.slice A s.length n, .slice B c.length m, .int .i64 f, .bool x, .int .i64 b.n, .int .u64 b.c, .int .u64 b.b, .int .u64 b.o, .int .u64 b.p, .bool b.i, .bool b.r, .bool b.d, .int .u32 k], .int .i64 4]) ∧ Below w.heap.size w w' := by
  have kl := ((Box.new w [.slice A s.length n, .slice B c.length m, .int .i64 f, .bool x, .int .i64 b.n, .int .u64 b.c, .int .u64 b.b, .int .u64 b.o, .int .u64 b.p, .bool b.i, .bool b.r, .bool b.d, .int .u32 k] 34).alloc (.cells ([.slice none 0 0, .slice none 0 0, .int .i64 0, .bool false, .int .i64 0, .int .u64 0, .int .u64 0, .int .u64 0, .int .u64 0, .bool false, .bool false, .bool false, .int .u32 0] : List Value).toArray 34)).cell
  by_cases h0 : i < 0
  · clear hi
    go_enter Tryz.func38, Tryz.ntmps38
    go_wp2_with fail
    refine bodyPost_ret (v := .tuple #[.agg #[.slice A s.length n, .slice B c.length m, .int .i64 f, .bool x, .int .i64 b.n, .int .u64 b.c, .int .u64 b.b, .int .u64 b.o, .int .u64 b.p, .bool b.i, .bool b.r, .bool b.d, .int .u32 k], .int .i64 4]) (by simp [results, Tryz.results38, go_sem]) rfl ⟨rfl, ?_⟩
    exact below2
  · have h1 : b.n ≤ i := by omega
    clear hi
    go_enter Tryz.func38, Tryz.ntmps38
    go_wp2_with fail
    refine bodyPost_ret (v := .tuple #[.agg #[.slice A s.length n, .slice B c.length m, .int .i64 f, .bool x, .int .i64 b.n, .int .u64 b.c, .int .u64 b.b, .int .u64 b.o, .int .u64 b.p, .bool b.i, .bool b.r, .bool b.d, .int .u32 k], .int .i64 4]) (by simp [results, Tryz.results38, go_sem]) rfl ⟨rfl, ?_⟩
    exact below2

set_option maxRecDepth 100000 in
set_option maxHeartbeats 4000000 in
theorem rzmark_in (A B : Option Addr) (n m : Nat) (s : List ByteArray) (c : List Wr) (f : Int) (x : Bool) (b : Sup) (k : Nat) (i : Int) (w : World) (h0 : ¬ i < 0) (h1 : ¬ b.n ≤ i) (hk : k < 4294967296) (s1 : List ByteArray) (c1 : List Wr) (f1 : Int) (x1 : Bool) (k1 : Nat) (e1 : Int) (hR : ∀ v, Below w.heap.size w v → Calls Tryz.prog 74 #[.agg #[.slice A s.length n, .slice B c.length m, .int .i64 f, .bool x, .int .i64 b.n, .int .u64 b.c, .int .u64 b.b, .int .u64 b.o, .int .u64 b.p, .bool b.i, .bool b.r, .bool b.d, .int .u32 k], .int .u32 (setB k [i] : Nat)] v fun e v' => ∃ A1 B1 n1 m1, e = .returned (.tuple #[.agg #[.slice A1 s1.length n1, .slice B1 c1.length m1, .int .i64 f1, .bool x1, .int .i64 b.n, .int .u64 b.c, .int .u64 b.b, .int .u64 b.o, .int .u64 b.p, .bool b.i, .bool b.r, .bool b.d, .int .u32 k1], .int .i64 e1]) ∧ Mem v' A1 n1 B1 m1 s1 c1 ∧ Below v.heap.size v v') :
    Calls Tryz.prog 37 #[.agg #[.slice A s.length n, .slice B c.length m, .int .i64 f, .bool x, .int .i64 b.n, .int .u64 b.c, .int .u64 b.b, .int .u64 b.o, .int .u64 b.p, .bool b.i, .bool b.r, .bool b.d, .int .u32 k], .int .i64 i] w fun e w' => ∃ A1 B1 n1 m1, e = .returned (.tuple #[.agg #[.slice A1 s1.length n1, .slice B1 c1.length m1, .int .i64 f1, .bool x1, .int .i64 b.n, .int .u64 b.c, .int .u64 b.b, .int .u64 b.o, .int .u64 b.p, .bool b.i, .bool b.r, .bool b.d, .int .u32 k1], .int .i64 e1]) ∧ Mem w' A1 n1 B1 m1 s1 c1 ∧ Below w.heap.size w w' := by
  have HR := Lib.hid hR; clear hR
  have HK := Lib.hid hk; clear hk
  have H0 := Lib.hid (((Held.refl w).lay [.slice A s.length n, .slice B c.length m, .int .i64 f, .bool x, .int .i64 b.n, .int .u64 b.c, .int .u64 b.b, .int .u64 b.o, .int .u64 b.p, .bool b.i, .bool b.r, .bool b.d, .int .u32 k] 34).own [.slice none 0 0, .slice none 0 0, .int .i64 0, .bool false, .int .i64 0, .int .u64 0, .int .u64 0, .int .u64 0, .int .u64 0, .bool false, .bool false, .bool false, .int .u32 0] 34 (n := 13) rfl)
  have BR0 := Lib.hid (Box.new2 w (.cells ([.slice A s.length n, .slice B c.length m, .int .i64 f, .bool x, .int .i64 b.n, .int .u64 b.c, .int .u64 b.b, .int .u64 b.o, .int .u64 b.p, .bool b.i, .bool b.r, .bool b.d, .int .u32 k] : List Value).toArray 34) [.slice none 0 0, .slice none 0 0, .int .i64 0, .bool false, .int .i64 0, .int .u64 0, .int .u64 0, .int .u64 0, .int .u64 0, .bool false, .bool false, .bool false, .int .u32 0] 34)
  rw [World.size_alloc] at H0
  have kl := ((Box.new w [.slice A s.length n, .slice B c.length m, .int .i64 f, .bool x, .int .i64 b.n, .int .u64 b.c, .int .u64 b.b, .int .u64 b.o, .int .u64 b.p, .bool b.i, .bool b.r, .bool b.d, .int .u32 k] 34).alloc (.cells ([.slice none 0 0, .slice none 0 0, .int .i64 0, .bool false, .int .i64 0, .int .u64 0, .int .u64 0, .int .u64 0, .int .u64 0, .bool false, .bool false, .bool false, .int .u32 0] : List Value).toArray 34)).cell
  go_enter Tryz.func37, Tryz.ntmps37
  go_wp2_with fail
  clear kl
  generalize (w.alloc (.cells #[.slice A s.length n, .slice B c.length m, .int .i64 f, .bool x, .int .i64 b.n, .int .u64 b.c, .int .u64 b.b, .int .u64 b.o, .int .u64 b.p, .bool b.i, .bool b.r, .bool b.d, .int .u32 k] 34)).alloc (.cells #[.slice none 0 0, .slice none 0 0, .int .i64 0, .bool false, .int .i64 0, .int .u64 0, .int .u64 0, .int .u64 0, .int .u64 0, .bool false, .bool false, .bool false, .int .u32 0] 34) = w1 at *
  refine held_start (S := Held w [(w.heap.size, [.slice A s.length n, .slice B c.length m, .int .i64 f, .bool x, .int .i64 b.n, .int .u64 b.c, .int .u64 b.b, .int .u64 b.o, .int .u64 b.p, .bool b.i, .bool b.r, .bool b.d, .int .u32 k])] [(w.heap.size + 1, 13)]) (by kernel_rfl) H0.out.drew (fun v0 hv0 hH0 => ?_)
  have X0 : Hid (Box v0 (w.heap.size + 1) [.slice none 0 0, .slice none 0 0, .int .i64 0, .bool false, .int .i64 0, .int .u64 0, .int .u64 0, .int .u64 0, .int .u64 0, .bool false, .bool false, .bool false, .int .u32 0]) := BR0.out.below hv0
  clear hv0 H0 BR0
  refine wpAnyH_take (i := 0) (v := ?_) rfl (by kernel_rfl) (by kernel_rfl) (by kernel_rfl) (fun _ _ _ h => h) (Or.inl ⟨by rfl, ?_⟩) hH0 ?_
  rotate_left
  · (intro v hSw; have k0 := hSw.b0.cell; go_simp; try with_reducible rfl)
  simp only [Act.put, List.setIfInBounds_toArray, List.set_cons_zero, List.set_cons_succ, List.getElem_toArray, List.getElem_cons_zero]
  refine wpAnyH_take (i := 1) (v := ?_) rfl (by kernel_rfl) (by kernel_rfl) (by kernel_rfl) (fun _ _ _ h => h) (Or.inl ⟨by rfl, ?_⟩) hH0 ?_
  rotate_left
  · (intro v hSw; go_simp; try with_reducible rfl)
  simp only [Act.put, List.setIfInBounds_toArray, List.set_cons_zero, List.set_cons_succ, List.getElem_toArray, List.getElem_cons_zero, List.getElem_cons_succ]
  refine wpAnyH_take (i := 2) (v := ?_) rfl (by kernel_rfl) (by kernel_rfl) (by kernel_rfl) (fun _ _ _ h => h) (Or.inl ⟨by rfl, ?_⟩) hH0 ?_
  rotate_left
  · (intro v hSw; have k0 := hSw.b0.cell; go_simp; try with_reducible rfl)
  simp only [Act.put, List.setIfInBounds_toArray, List.set_cons_zero, List.set_cons_succ, List.getElem_toArray, List.getElem_cons_zero, List.getElem_cons_succ]
  refine wpAnyH_take (i := 3) (v := ?_) rfl (by kernel_rfl) (by kernel_rfl) (by kernel_rfl) (fun _ _ _ h => h) (Or.inl ⟨by rfl, ?_⟩) hH0 ?_
  rotate_left
  · (intro v hSw; go_simp; try with_reducible rfl)
  simp only [Act.put, List.setIfInBounds_toArray, List.set_cons_zero, List.set_cons_succ, List.getElem_toArray, List.getElem_cons_zero, List.getElem_cons_succ]
  refine wpAnyH_ready (rs := [4]) (by kernel_rfl) (by simp) ?_
  refine AllReadyH.cons rfl (fun K hK => ?_) AllReadyH.nil
  go_simp
  refine hK.out _ _ (hH0.alloc _) (fun hH1 => ?_)
  have XA := Lib.hid (X0.out.alloc (.cells #[.int .i64 i] 3))
  have CA := Lib.hid (show Cs .i64 (v0.alloc (.cells #[.int .i64 i] 3)) (v0.heap.size + 1) (some ⟨v0.heap.size, 0, none⟩) [i] from cs_new .i64 v0 [i] 3)
  generalize v0.alloc (.cells #[.int .i64 i] 3) = v1 at *
  clear hK K hH0 X0
  refine wpAnyH_ready (rs := [5]) (by kernel_rfl) (by simp) ?_
  refine AllReadyH.cons rfl (fun K hK => ?_) AllReadyH.nil
  go_simp
  refine (rset_any k _ 1 [i] v1 _ HK.out CA.out (by simp [maxLen])).mono ?_
  rintro e v2 ⟨rfl, hw⟩
  rw [hw]
  clear hw
  go_wp2_with fail
  refine hK.out _ _ hH1 (fun hH2 => ?_)
  clear hK K hH1
  refine wpAnyH_ready (rs := [6]) (by kernel_rfl) (by simp) ?_
  refine AllReadyH.cons rfl (fun K hK => ?_) AllReadyH.nil
  go_simp
  refine (HR.out v1 hH2.below).mono ?_
  rintro e v3 ⟨A1, B1, n1, m1, rfl, hm1, hb⟩
  have hm1 := Lib.hid hm1
  have XB := Lib.hid (XA.out.below hb)
  go_wp2_with fail
  refine hK.out _ _ (hH2.up hb) (fun hH3 => ?_)
  clear hK K hH2 hb XA
  refine wpAnyH_take (i := 7) (v := ?_) rfl (by kernel_rfl) (by kernel_rfl) (by kernel_rfl) (fun _ _ _ h => h) (Or.inl ⟨by rfl, ?_⟩) hH3 ?_
  rotate_left
  · (intro v hSw; go_simp; try with_reducible rfl)
  simp only [Act.put, List.setIfInBounds_toArray, List.set_cons_zero, List.set_cons_succ, List.getElem_toArray, List.getElem_cons_zero, List.getElem_cons_succ]
  refine wpAnyH_take (i := 8) (v := ?_) rfl (by kernel_rfl) (by kernel_rfl) (by kernel_rfl) (fun _ _ _ h => h) (Or.inl ⟨by rfl, ?_⟩) hH3 ?_
  rotate_left
  · (intro v hSw; go_simp; try with_reducible rfl)
  simp only [Act.put, List.setIfInBounds_toArray, List.set_cons_zero, List.set_cons_succ, List.getElem_toArray, List.getElem_cons_zero, List.getElem_cons_succ]
  refine wpAnyH_ready (rs := [9]) (by kernel_rfl) (by simp) ?_
  refine AllReadyH.cons rfl (fun K hK => ?_) AllReadyH.nil
  have kx := XB.out.cell
  have fx := XB.out.frozen
  go_simp
  refine hK.out _ _ (hH3.setL (b := w.heap.size + 1) ⟨13, by simp⟩ [.slice A1 s1.length n1, .slice B1 c1.length m1, .int .i64 f1, .bool x1, .int .i64 b.n, .int .u64 b.c, .int .u64 b.b, .int .u64 b.o, .int .u64 b.p, .bool b.i, .bool b.r, .bool b.d, .int .u32 k1] 0) (fun hH4 => ?_)
  have hm2 := Lib.hid (hm1.out.setL [.slice A1 s1.length n1, .slice B1 c1.length m1, .int .i64 f1, .bool x1, .int .i64 b.n, .int .u64 b.c, .int .u64 b.b, .int .u64 b.o, .int .u64 b.p, .bool b.i, .bool b.r, .bool b.d, .int .u32 k1] 0 XB.out (noText_st 0 0 0 false Sup.zero 0 none 0 none 0) (noText_st s1.length c1.length f1 x1 b k1 A1 n1 B1 m1))
  have hy := Lib.hid (show Box _ (w.heap.size + 1) [.slice A1 s1.length n1, .slice B1 c1.length m1, .int .i64 f1, .bool x1, .int .i64 b.n, .int .u64 b.c, .int .u64 b.b, .int .u64 b.o, .int .u64 b.p, .bool b.i, .bool b.r, .bool b.d, .int .u32 k1] from XB.out.setL [.slice A1 s1.length n1, .slice B1 c1.length m1, .int .i64 f1, .bool x1, .int .i64 b.n, .int .u64 b.c, .int .u64 b.b, .int .u64 b.o, .int .u64 b.p, .bool b.i, .bool b.r, .bool b.d, .int .u32 k1] 0)
  clear kx fx
  generalize hW : setL v3 (w.heap.size + 1) 0 [.slice A1 s1.length n1, .slice B1 c1.length m1, .int .i64 f1, .bool x1, .int .i64 b.n, .int .u64 b.c, .int .u64 b.b, .int .u64 b.o, .int .u64 b.p, .bool b.i, .bool b.r, .bool b.d, .int .u32 k1] = v4 at *
  simp only [setL, Nat.zero_add, Nat.reduceAdd] at hW
  simp only [hW] at hH4 ⊢
  clear hW hK K hH3 XB hm1
  refine wpAnyH_take (i := 10) (v := ?_) rfl (by kernel_rfl) (by kernel_rfl) (by kernel_rfl) (fun _ _ _ h => h) (Or.inl ⟨by rfl, ?_⟩) hH4 ?_
  rotate_left
  · (intro v hSw; go_simp; try with_reducible rfl)
  simp only [Act.put, List.setIfInBounds_toArray, List.set_cons_zero, List.set_cons_succ, List.getElem_toArray, List.getElem_cons_zero, List.getElem_cons_succ]
  refine wpAnyH_done (by kernel_rfl) ?_ _
  have H9 := Lib.hid hH4
  have kr := hy.out.cell
  go_wp2_with fail
  refine bodyPost_ret (v := .tuple #[.agg #[.slice A1 s1.length n1, .slice B1 c1.length m1, .int .i64 f1, .bool x1, .int .i64 b.n, .int .u64 b.c, .int .u64 b.b, .int .u64 b.o, .int .u64 b.p, .bool b.i, .bool b.r, .bool b.d, .int .u32 k1], .int .i64 e1]) (by simp [results, Tryz.results37, go_sem, kr]) rfl ?_
  exact ⟨A1, B1, n1, m1, rfl, hm2.out, H9.out.below⟩

set_option maxRecDepth 100000 in
set_option maxHeartbeats 4000000 in
theorem rzjoin_at (A B : Option Addr) (n m : Nat) (s : List ByteArray) (c : List Wr) (f : Int) (x : Bool) (b : Sup) (k : Nat) (k2 : Nat) (w : World) (hk : k < 4294967296) (hk2 : k2 < 4294967296) (s1 : List ByteArray) (c1 : List Wr) (f1 : Int) (x1 : Bool) (k1 : Nat) (e1 : Int) (hR : ∀ v, Below w.heap.size w v → Calls Tryz.prog 74 #[.agg #[.slice A s.length n, .slice B c.length m, .int .i64 f, .bool x, .int .i64 b.n, .int .u64 b.c, .int .u64 b.b, .int .u64 b.o, .int .u64 b.p, .bool b.i, .bool b.r, .bool b.d, .int .u32 k], .int .u32 (uniB [k, k2] : Nat)] v fun e v' => ∃ A1 B1 n1 m1, e = .returned (.tuple #[.agg #[.slice A1 s1.length n1, .slice B1 c1.length m1, .int .i64 f1, .bool x1, .int .i64 b.n, .int .u64 b.c, .int .u64 b.b, .int .u64 b.o, .int .u64 b.p, .bool b.i, .bool b.r, .bool b.d, .int .u32 k1], .int .i64 e1]) ∧ Mem v' A1 n1 B1 m1 s1 c1 ∧ Below v.heap.size v v') :
    Calls Tryz.prog 39 #[.agg #[.slice A s.length n, .slice B c.length m, .int .i64 f, .bool x, .int .i64 b.n, .int .u64 b.c, .int .u64 b.b, .int .u64 b.o, .int .u64 b.p, .bool b.i, .bool b.r, .bool b.d, .int .u32 k], .int .u32 k2] w fun e w' => ∃ A1 B1 n1 m1, e = .returned (.tuple #[.agg #[.slice A1 s1.length n1, .slice B1 c1.length m1, .int .i64 f1, .bool x1, .int .i64 b.n, .int .u64 b.c, .int .u64 b.b, .int .u64 b.o, .int .u64 b.p, .bool b.i, .bool b.r, .bool b.d, .int .u32 k1], .int .i64 e1]) ∧ Mem w' A1 n1 B1 m1 s1 c1 ∧ Below w.heap.size w w' := by
  have HR := Lib.hid hR; clear hR
  have HK := Lib.hid (show ∀ x ∈ [k, k2], x < 4294967296 by intro x hx; simp at hx; omega)
  clear hk hk2
  have H0 := Lib.hid (((Held.refl w).lay [.slice A s.length n, .slice B c.length m, .int .i64 f, .bool x, .int .i64 b.n, .int .u64 b.c, .int .u64 b.b, .int .u64 b.o, .int .u64 b.p, .bool b.i, .bool b.r, .bool b.d, .int .u32 k] 34).own [.slice none 0 0, .slice none 0 0, .int .i64 0, .bool false, .int .i64 0, .int .u64 0, .int .u64 0, .int .u64 0, .int .u64 0, .bool false, .bool false, .bool false, .int .u32 0] 34 (n := 13) rfl)
  have BR0 := Lib.hid (Box.new2 w (.cells ([.slice A s.length n, .slice B c.length m, .int .i64 f, .bool x, .int .i64 b.n, .int .u64 b.c, .int .u64 b.b, .int .u64 b.o, .int .u64 b.p, .bool b.i, .bool b.r, .bool b.d, .int .u32 k] : List Value).toArray 34) [.slice none 0 0, .slice none 0 0, .int .i64 0, .bool false, .int .i64 0, .int .u64 0, .int .u64 0, .int .u64 0, .int .u64 0, .bool false, .bool false, .bool false, .int .u32 0] 34)
  rw [World.size_alloc] at H0
  have kl := ((Box.new w [.slice A s.length n, .slice B c.length m, .int .i64 f, .bool x, .int .i64 b.n, .int .u64 b.c, .int .u64 b.b, .int .u64 b.o, .int .u64 b.p, .bool b.i, .bool b.r, .bool b.d, .int .u32 k] 34).alloc (.cells ([.slice none 0 0, .slice none 0 0, .int .i64 0, .bool false, .int .i64 0, .int .u64 0, .int .u64 0, .int .u64 0, .int .u64 0, .bool false, .bool false, .bool false, .int .u32 0] : List Value).toArray 34)).cell
  go_enter Tryz.func39, Tryz.ntmps39
  go_wp2_with fail
  clear kl
  generalize (w.alloc (.cells #[.slice A s.length n, .slice B c.length m, .int .i64 f, .bool x, .int .i64 b.n, .int .u64 b.c, .int .u64 b.b, .int .u64 b.o, .int .u64 b.p, .bool b.i, .bool b.r, .bool b.d, .int .u32 k] 34)).alloc (.cells #[.slice none 0 0, .slice none 0 0, .int .i64 0, .bool false, .int .i64 0, .int .u64 0, .int .u64 0, .int .u64 0, .int .u64 0, .bool false, .bool false, .bool false, .int .u32 0] 34) = w1 at *
  refine held_start (S := Held w [(w.heap.size, [.slice A s.length n, .slice B c.length m, .int .i64 f, .bool x, .int .i64 b.n, .int .u64 b.c, .int .u64 b.b, .int .u64 b.o, .int .u64 b.p, .bool b.i, .bool b.r, .bool b.d, .int .u32 k])] [(w.heap.size + 1, 13)]) (by kernel_rfl) H0.out.drew (fun v0 hv0 hH0 => ?_)
  have X0 : Hid (Box v0 (w.heap.size + 1) [.slice none 0 0, .slice none 0 0, .int .i64 0, .bool false, .int .i64 0, .int .u64 0, .int .u64 0, .int .u64 0, .int .u64 0, .bool false, .bool false, .bool false, .int .u32 0]) := BR0.out.below hv0
  clear hv0 H0 BR0
  refine wpAnyH_take (i := 0) (v := ?_) rfl (by kernel_rfl) (by kernel_rfl) (by kernel_rfl) (fun _ _ _ h => h) (Or.inl ⟨by rfl, ?_⟩) hH0 ?_
  rotate_left
  · (intro v hSw; have k0 := hSw.b0.cell; go_simp; try with_reducible rfl)
  simp only [Act.put, List.setIfInBounds_toArray, List.set_cons_zero, List.set_cons_succ, List.getElem_toArray, List.getElem_cons_zero]
  refine wpAnyH_take (i := 1) (v := ?_) rfl (by kernel_rfl) (by kernel_rfl) (by kernel_rfl) (fun _ _ _ h => h) (Or.inl ⟨by rfl, ?_⟩) hH0 ?_
  rotate_left
  · (intro v hSw; go_simp; try with_reducible rfl)
  simp only [Act.put, List.setIfInBounds_toArray, List.set_cons_zero, List.set_cons_succ, List.getElem_toArray, List.getElem_cons_zero, List.getElem_cons_succ]
  refine wpAnyH_take (i := 2) (v := ?_) rfl (by kernel_rfl) (by kernel_rfl) (by kernel_rfl) (fun _ _ _ h => h) (Or.inl ⟨by rfl, ?_⟩) hH0 ?_
  rotate_left
  · (intro v hSw; have k0 := hSw.b0.cell; go_simp; try with_reducible rfl)
  simp only [Act.put, List.setIfInBounds_toArray, List.set_cons_zero, List.set_cons_succ, List.getElem_toArray, List.getElem_cons_zero, List.getElem_cons_succ]
  refine wpAnyH_take (i := 3) (v := ?_) rfl (by kernel_rfl) (by kernel_rfl) (by kernel_rfl) (fun _ _ _ h => h) (Or.inl ⟨by rfl, ?_⟩) hH0 ?_
  rotate_left
  · (intro v hSw; go_simp; try with_reducible rfl)
  simp only [Act.put, List.setIfInBounds_toArray, List.set_cons_zero, List.set_cons_succ, List.getElem_toArray, List.getElem_cons_zero, List.getElem_cons_succ]
  refine wpAnyH_ready (rs := [4]) (by kernel_rfl) (by simp) ?_
  refine AllReadyH.cons rfl (fun K hK => ?_) AllReadyH.nil
  go_simp
  refine hK.out _ _ (hH0.alloc _) (fun hH1 => ?_)
  have XA := Lib.hid (X0.out.alloc (.cells #[.int .u32 k, .int .u32 k2] 32))
  have CA := Lib.hid (show Cs .u32 (v0.alloc (.cells #[.int .u32 k, .int .u32 k2] 32)) (v0.alloc (.cells #[.int .u32 k, .int .u32 k2] 32)).heap.size (some ⟨v0.heap.size, 0, none⟩) ([k, k2].map fun (x : Nat) => (x : Int)) from (cs_new .u32 v0 [(k : Int), (k2 : Int)] 32).below (Below.refl _ _) (by rw [World.size_alloc]; exact Nat.le_refl _))
  generalize v0.alloc (.cells #[.int .u32 k, .int .u32 k2] 32) = v1 at *
  clear hK K hH0 X0
  refine wpAnyH_ready (rs := [5]) (by kernel_rfl) (by simp) ?_
  refine AllReadyH.cons rfl (fun K hK => ?_) AllReadyH.nil
  go_simp
  refine (runion_any _ 2 [k, k2] v1 CA.out HK.out (by simp [maxLen])).mono ?_
  rintro e v2 ⟨rfl, hb⟩
  have XA2 := Lib.hid (XA.out.below hb)
  clear XA
  have XA := XA2
  clear XA2
  go_wp2_with fail
  refine hK.out _ _ (hH1.up hb) (fun hH2 => ?_)
  clear hK K hH1 hb
  refine wpAnyH_ready (rs := [6]) (by kernel_rfl) (by simp) ?_
  refine AllReadyH.cons rfl (fun K hK => ?_) AllReadyH.nil
  go_simp
  refine (HR.out v2 hH2.below).mono ?_
  rintro e v3 ⟨A1, B1, n1, m1, rfl, hm1, hb⟩
  have hm1 := Lib.hid hm1
  have XB := Lib.hid (XA.out.below hb)
  go_wp2_with fail
  refine hK.out _ _ (hH2.up hb) (fun hH3 => ?_)
  clear hK K hH2 hb XA
  refine wpAnyH_take (i := 7) (v := ?_) rfl (by kernel_rfl) (by kernel_rfl) (by kernel_rfl) (fun _ _ _ h => h) (Or.inl ⟨by rfl, ?_⟩) hH3 ?_
  rotate_left
  · (intro v hSw; go_simp; try with_reducible rfl)
  simp only [Act.put, List.setIfInBounds_toArray, List.set_cons_zero, List.set_cons_succ, List.getElem_toArray, List.getElem_cons_zero, List.getElem_cons_succ]
  refine wpAnyH_take (i := 8) (v := ?_) rfl (by kernel_rfl) (by kernel_rfl) (by kernel_rfl) (fun _ _ _ h => h) (Or.inl ⟨by rfl, ?_⟩) hH3 ?_
  rotate_left
  · (intro v hSw; go_simp; try with_reducible rfl)
  simp only [Act.put, List.setIfInBounds_toArray, List.set_cons_zero, List.set_cons_succ, List.getElem_toArray, List.getElem_cons_zero, List.getElem_cons_succ]
  refine wpAnyH_ready (rs := [9]) (by kernel_rfl) (by simp) ?_
  refine AllReadyH.cons rfl (fun K hK => ?_) AllReadyH.nil
  have kx := XB.out.cell
  have fx := XB.out.frozen
  go_simp
  refine hK.out _ _ (hH3.setL (b := w.heap.size + 1) ⟨13, by simp⟩ [.slice A1 s1.length n1, .slice B1 c1.length m1, .int .i64 f1, .bool x1, .int .i64 b.n, .int .u64 b.c, .int .u64 b.b, .int .u64 b.o, .int .u64 b.p, .bool b.i, .bool b.r, .bool b.d, .int .u32 k1] 0) (fun hH4 => ?_)
  have hm2 := Lib.hid (hm1.out.setL [.slice A1 s1.length n1, .slice B1 c1.length m1, .int .i64 f1, .bool x1, .int .i64 b.n, .int .u64 b.c, .int .u64 b.b, .int .u64 b.o, .int .u64 b.p, .bool b.i, .bool b.r, .bool b.d, .int .u32 k1] 0 XB.out (noText_st 0 0 0 false Sup.zero 0 none 0 none 0) (noText_st s1.length c1.length f1 x1 b k1 A1 n1 B1 m1))
  have hy := Lib.hid (show Box _ (w.heap.size + 1) [.slice A1 s1.length n1, .slice B1 c1.length m1, .int .i64 f1, .bool x1, .int .i64 b.n, .int .u64 b.c, .int .u64 b.b, .int .u64 b.o, .int .u64 b.p, .bool b.i, .bool b.r, .bool b.d, .int .u32 k1] from XB.out.setL [.slice A1 s1.length n1, .slice B1 c1.length m1, .int .i64 f1, .bool x1, .int .i64 b.n, .int .u64 b.c, .int .u64 b.b, .int .u64 b.o, .int .u64 b.p, .bool b.i, .bool b.r, .bool b.d, .int .u32 k1] 0)
  clear kx fx
  generalize hW : setL v3 (w.heap.size + 1) 0 [.slice A1 s1.length n1, .slice B1 c1.length m1, .int .i64 f1, .bool x1, .int .i64 b.n, .int .u64 b.c, .int .u64 b.b, .int .u64 b.o, .int .u64 b.p, .bool b.i, .bool b.r, .bool b.d, .int .u32 k1] = v4 at *
  simp only [setL, Nat.zero_add, Nat.reduceAdd] at hW
  simp only [hW] at hH4 ⊢
  clear hW hK K hH3 XB hm1
  refine wpAnyH_take (i := 10) (v := ?_) rfl (by kernel_rfl) (by kernel_rfl) (by kernel_rfl) (fun _ _ _ h => h) (Or.inl ⟨by rfl, ?_⟩) hH4 ?_
  rotate_left
  · (intro v hSw; go_simp; try with_reducible rfl)
  simp only [Act.put, List.setIfInBounds_toArray, List.set_cons_zero, List.set_cons_succ, List.getElem_toArray, List.getElem_cons_zero, List.getElem_cons_succ]
  refine wpAnyH_done (by kernel_rfl) ?_ _
  have H9 := Lib.hid hH4
  have kr := hy.out.cell
  go_wp2_with fail
  refine bodyPost_ret (v := .tuple #[.agg #[.slice A1 s1.length n1, .slice B1 c1.length m1, .int .i64 f1, .bool x1, .int .i64 b.n, .int .u64 b.c, .int .u64 b.b, .int .u64 b.o, .int .u64 b.p, .bool b.i, .bool b.r, .bool b.d, .int .u32 k1], .int .i64 e1]) (by simp [results, Tryz.results39, go_sem, kr]) rfl ?_
  exact ⟨A1, B1, n1, m1, rfl, hm2.out, H9.out.below⟩

set_option maxRecDepth 100000 in
set_option maxHeartbeats 4000000 in
theorem rzwipe_same (A B : Option Addr) (n m : Nat) (s : List ByteArray) (c : List Wr) (f : Int) (x : Bool) (b : Sup) (k : Nat) (i : Int) (w : World) (h0 : ¬ i < 0) (h1 : ¬ b.n ≤ i) (hk : k < 4294967296) (hq : clrB k [i] = k) :
    Calls Tryz.prog 38 #[.agg #[.slice A s.length n, .slice B c.length m, .int .i64 f, .bool x, .int .i64 b.n, .int .u64 b.c, .int .u64 b.b, .int .u64 b.o, .int .u64 b.p, .bool b.i, .bool b.r, .bool b.d, .int .u32 k], .int .i64 i] w fun e w' => e = .returned (.tuple #[.agg #[.slice A s.length n, .slice B c.length m, .int .i64 f, .bool x, .int .i64 b.n, .int .u64 b.c, .int .u64 b.b, .int .u64 b.o, .int .u64 b.p, .bool b.i, .bool b.r, .bool b.d, .int .u32 k], .int .i64 0]) ∧ Below w.heap.size w w' := by
  have HK := Lib.hid hk; clear hk
  have HC := Lib.hid (fun v => rclear_any k (some ⟨v.heap.size, 0, none⟩) 1 [i] (v.alloc (.cells #[.int .i64 i] 3)) (v.heap.size + 1) HK.out (cs_new .i64 v [i] 3) (by simp [maxLen]))
  generalize clrB k [i] = k2 at *
  subst hq
  have hkk : ((k2 : Int) == (k2 : Int)) = true := by simp
  have H0 := Lib.hid (((Held.refl w).own [.slice A s.length n, .slice B c.length m, .int .i64 f, .bool x, .int .i64 b.n, .int .u64 b.c, .int .u64 b.b, .int .u64 b.o, .int .u64 b.p, .bool b.i, .bool b.r, .bool b.d, .int .u32 k2] 34 (n := 13) rfl).own [.slice none 0 0, .slice none 0 0, .int .i64 0, .bool false, .int .i64 0, .int .u64 0, .int .u64 0, .int .u64 0, .int .u64 0, .bool false, .bool false, .bool false, .int .u32 0] 34 (n := 13) rfl)
  have BL0 := Lib.hid ((Box.new w [.slice A s.length n, .slice B c.length m, .int .i64 f, .bool x, .int .i64 b.n, .int .u64 b.c, .int .u64 b.b, .int .u64 b.o, .int .u64 b.p, .bool b.i, .bool b.r, .bool b.d, .int .u32 k2] 34).alloc (.cells ([.slice none 0 0, .slice none 0 0, .int .i64 0, .bool false, .int .i64 0, .int .u64 0, .int .u64 0, .int .u64 0, .int .u64 0, .bool false, .bool false, .bool false, .int .u32 0] : List Value).toArray 34))
  have BR0 := Lib.hid (Box.new2 w (.cells ([.slice A s.length n, .slice B c.length m, .int .i64 f, .bool x, .int .i64 b.n, .int .u64 b.c, .int .u64 b.b, .int .u64 b.o, .int .u64 b.p, .bool b.i, .bool b.r, .bool b.d, .int .u32 k2] : List Value).toArray 34) [.slice none 0 0, .slice none 0 0, .int .i64 0, .bool false, .int .i64 0, .int .u64 0, .int .u64 0, .int .u64 0, .int .u64 0, .bool false, .bool false, .bool false, .int .u32 0] 34)
  rw [World.size_alloc] at H0
  have kl := BL0.out.cell
  go_enter Tryz.func38, Tryz.ntmps38
  go_upto_region 3 with fail
  generalize (w.alloc (.cells #[.slice A s.length n, .slice B c.length m, .int .i64 f, .bool x, .int .i64 b.n, .int .u64 b.c, .int .u64 b.b, .int .u64 b.o, .int .u64 b.p, .bool b.i, .bool b.r, .bool b.d, .int .u32 k2] 34)).alloc (.cells #[.slice none 0 0, .slice none 0 0, .int .i64 0, .bool false, .int .i64 0, .int .u64 0, .int .u64 0, .int .u64 0, .int .u64 0, .bool false, .bool false, .bool false, .int .u32 0] 34) = wa at *
  have kl := BL0.out.cell
  go_wp2_with fail
  refine (HC.out _).mono ?_
  rintro e wx ⟨rfl, hw⟩
  rw [hw]
  clear hw kl HC
  have hb : Below wa.heap.size wa (wa.alloc (.cells ([.int .i64 i] : List Value).toArray 3)) := below1
  have Hb := Lib.hid (H0.out.up hb)
  have BLb := Lib.hid (BL0.out.below hb)
  have BRb := Lib.hid (BR0.out.below hb)
  generalize wa.alloc (.cells #[.int .i64 i] 3) = wb at *
  clear hb H0 BL0 BR0
  have kl := BLb.out.cell
  have kr := BRb.out.cell
  have fr := BRb.out.frozen
  go_wp2_with fail
  refine bodyPost_ret (v := .tuple #[.agg #[.slice A s.length n, .slice B c.length m, .int .i64 f, .bool x, .int .i64 b.n, .int .u64 b.c, .int .u64 b.b, .int .u64 b.o, .int .u64 b.p, .bool b.i, .bool b.r, .bool b.d, .int .u32 k2], .int .i64 0]) (by simp [results, Tryz.results38, go_sem, kr]) rfl ⟨rfl, ?_⟩
  exact (Hb.out.setL (b := w.heap.size + 1) ⟨13, by simp⟩ [.slice A s.length n, .slice B c.length m, .int .i64 f, .bool x, .int .i64 b.n, .int .u64 b.c, .int .u64 b.b, .int .u64 b.o, .int .u64 b.p, .bool b.i, .bool b.r, .bool b.d, .int .u32 k2] 0).below

set_option maxRecDepth 100000 in
set_option maxHeartbeats 4000000 in
theorem rzwipe_yes (A B : Option Addr) (n m : Nat) (s : List ByteArray) (c : List Wr) (f : Int) (x : Bool) (b : Sup) (k : Nat) (i : Int) (w : World) (h0 : ¬ i < 0) (h1 : ¬ b.n ≤ i) (hk : k < 4294967296) (hq : clrB k [i] ≠ k) (R : Ans) (he : R.e = 0) (hR : ∀ v, Below w.heap.size w v → Calls Tryz.prog 77 #[.agg #[.slice A s.length n, .slice B c.length m, .int .i64 f, .bool x], .int .u32 (clrB k [i] : Nat)] v (GivesD R.s R.c R.f R.x R.e v)) :
    Calls Tryz.prog 38 #[.agg #[.slice A s.length n, .slice B c.length m, .int .i64 f, .bool x, .int .i64 b.n, .int .u64 b.c, .int .u64 b.b, .int .u64 b.o, .int .u64 b.p, .bool b.i, .bool b.r, .bool b.d, .int .u32 k], .int .i64 i] w fun e w' => ∃ A1 B1 n1 m1, e = .returned (.tuple #[.agg #[.slice A1 R.s.length n1, .slice B1 R.c.length m1, .int .i64 R.f, .bool R.x, .int .i64 b.n, .int .u64 b.c, .int .u64 b.b, .int .u64 b.o, .int .u64 b.p, .bool b.i, .bool b.r, .bool b.d, .int .u32 (clrB k [i])], .int .i64 R.e]) ∧ Mem w' A1 n1 B1 m1 R.s R.c ∧ Below w.heap.size w w' := by
  have HK := Lib.hid hk; clear hk
  have HC := Lib.hid (fun v => rclear_any k (some ⟨v.heap.size, 0, none⟩) 1 [i] (v.alloc (.cells #[.int .i64 i] 3)) (v.heap.size + 1) HK.out (cs_new .i64 v [i] 3) (by simp [maxLen]))
  generalize clrB k [i] = k2 at *
  have hkk : ((k2 : Int) == (k : Int)) = false := by rw [beq_eq_false_iff_ne]; omega
  clear hq
  obtain ⟨s1, c1, f1, x1, e1⟩ := R
  dsimp only at *
  subst he
  have HR := Lib.hid hR; clear hR
  have H0 := Lib.hid (((Held.refl w).own [.slice A s.length n, .slice B c.length m, .int .i64 f, .bool x, .int .i64 b.n, .int .u64 b.c, .int .u64 b.b, .int .u64 b.o, .int .u64 b.p, .bool b.i, .bool b.r, .bool b.d, .int .u32 k] 34 (n := 13) rfl).own [.slice none 0 0, .slice none 0 0, .int .i64 0, .bool false, .int .i64 0, .int .u64 0, .int .u64 0, .int .u64 0, .int .u64 0, .bool false, .bool false, .bool false, .int .u32 0] 34 (n := 13) rfl)
  have BL0 := Lib.hid ((Box.new w [.slice A s.length n, .slice B c.length m, .int .i64 f, .bool x, .int .i64 b.n, .int .u64 b.c, .int .u64 b.b, .int .u64 b.o, .int .u64 b.p, .bool b.i, .bool b.r, .bool b.d, .int .u32 k] 34).alloc (.cells ([.slice none 0 0, .slice none 0 0, .int .i64 0, .bool false, .int .i64 0, .int .u64 0, .int .u64 0, .int .u64 0, .int .u64 0, .bool false, .bool false, .bool false, .int .u32 0] : List Value).toArray 34))
  have BR0 := Lib.hid (Box.new2 w (.cells ([.slice A s.length n, .slice B c.length m, .int .i64 f, .bool x, .int .i64 b.n, .int .u64 b.c, .int .u64 b.b, .int .u64 b.o, .int .u64 b.p, .bool b.i, .bool b.r, .bool b.d, .int .u32 k] : List Value).toArray 34) [.slice none 0 0, .slice none 0 0, .int .i64 0, .bool false, .int .i64 0, .int .u64 0, .int .u64 0, .int .u64 0, .int .u64 0, .bool false, .bool false, .bool false, .int .u32 0] 34)
  rw [World.size_alloc] at H0
  have kl := BL0.out.cell
  go_enter Tryz.func38, Tryz.ntmps38
  go_upto_region 3 with fail
  generalize (w.alloc (.cells #[.slice A s.length n, .slice B c.length m, .int .i64 f, .bool x, .int .i64 b.n, .int .u64 b.c, .int .u64 b.b, .int .u64 b.o, .int .u64 b.p, .bool b.i, .bool b.r, .bool b.d, .int .u32 k] 34)).alloc (.cells #[.slice none 0 0, .slice none 0 0, .int .i64 0, .bool false, .int .i64 0, .int .u64 0, .int .u64 0, .int .u64 0, .int .u64 0, .bool false, .bool false, .bool false, .int .u32 0] 34) = wa at *
  have kl := BL0.out.cell
  go_wp2_with fail
  refine (HC.out _).mono ?_
  rintro e wx ⟨rfl, hw⟩
  rw [hw]
  clear hw kl HC
  have hb : Below wa.heap.size wa (wa.alloc (.cells ([.int .i64 i] : List Value).toArray 3)) := below1
  have Hb := Lib.hid (H0.out.up hb)
  have BLb := Lib.hid (BL0.out.below hb)
  have BRb := Lib.hid (BR0.out.below hb)
  generalize wa.alloc (.cells #[.int .i64 i] 3) = wb at *
  clear hb H0 BL0 BR0
  have kl := BLb.out.cell
  go_wp2_with fail
  refine (HR.out _ Hb.out.below).mono ?_
  rintro e w1 ⟨A1, B1, n1, m1, rfl, hm1, hb⟩
  have hm1 := Lib.hid hm1
  have H1 := Lib.hid (Hb.out.up hb)
  have BL1 := Lib.hid (BLb.out.below hb)
  have BR1 := Lib.hid (BRb.out.below hb)
  clear hb kl Hb BLb BRb
  have kl := BL1.out.cell
  have fl := BL1.out.frozen
  have hlt := BL1.out.lt
  have hlt2 := BR1.out.lt
  go_upto_region 7 with fail
  have hm2 := Lib.hid (hm1.out.up (below1 (o := .cells ([.slice A1 s1.length n1, .slice B1 c1.length m1, .int .i64 f1, .bool x1] : List Value).toArray 25)))
  have BD2 := Lib.hid (Box.new w1 [.slice A1 s1.length n1, .slice B1 c1.length m1, .int .i64 f1, .bool x1] 25)
  have hb : Below w1.heap.size w1 (w1.alloc (.cells ([.slice A1 s1.length n1, .slice B1 c1.length m1, .int .i64 f1, .bool x1] : List Value).toArray 25)) := below1
  have H2 := Lib.hid (H1.out.up hb)
  have BL2 := Lib.hid (BL1.out.below hb)
  have BR2 := Lib.hid (BR1.out.below hb)
  have hd := BD2.out.lt
  generalize w1.alloc (.cells #[.slice A1 s1.length n1, .slice B1 c1.length m1, .int .i64 f1, .bool x1] 25) = w2 at *
  clear hb hm1 kl fl H1 BL1 BR1
  have kd := BD2.out.cell
  have kl := BL2.out.cell
  have fl := BL2.out.frozen
  go_upto_region 8 with fail
  have hm3 := Lib.hid (hm2.out.setL [.slice A1 s1.length n1, .slice B1 c1.length m1, .int .i64 f1, .bool x1] 0 BL2.out (noText_st s.length c.length f x b k A n B m) (noText_four A1 B1 s1.length n1 c1.length m1 f1 x1))
  have BL3 := Lib.hid (show Box _ w.heap.size [.slice A1 s1.length n1, .slice B1 c1.length m1, .int .i64 f1, .bool x1, .int .i64 b.n, .int .u64 b.c, .int .u64 b.b, .int .u64 b.o, .int .u64 b.p, .bool b.i, .bool b.r, .bool b.d, .int .u32 k] from BL2.out.setL [.slice A1 s1.length n1, .slice B1 c1.length m1, .int .i64 f1, .bool x1] 0)
  have BR3 := Lib.hid (BR2.out.setO (b := w.heap.size) (by omega) [.slice A1 s1.length n1, .slice B1 c1.length m1, .int .i64 f1, .bool x1] 0)
  have H3 := Lib.hid (H2.out.setL (b := w.heap.size) ⟨13, by simp⟩ [.slice A1 s1.length n1, .slice B1 c1.length m1, .int .i64 f1, .bool x1] 0)
  generalize hW3 : setL w2 w.heap.size 0 [.slice A1 s1.length n1, .slice B1 c1.length m1, .int .i64 f1, .bool x1] = w3 at *
  simp only [setL, Nat.zero_add, Nat.reduceAdd] at hW3
  simp only [hW3]
  clear hW3 kd kl fl hm2 BD2 H2 BL2 BR2 hd hlt hlt2
  have kl := BL3.out.cell
  have fl := BL3.out.frozen
  go_upto_region 10 with fail
  have hm4 := Lib.hid (hm3.out.setL [.int .u32 k2] 12 BL3.out (noText_st s1.length c1.length f1 x1 b k A1 n1 B1 m1) (noText_nil.cons (by intro t q; cases q)))
  have BL4 := Lib.hid (show Box _ w.heap.size [.slice A1 s1.length n1, .slice B1 c1.length m1, .int .i64 f1, .bool x1, .int .i64 b.n, .int .u64 b.c, .int .u64 b.b, .int .u64 b.o, .int .u64 b.p, .bool b.i, .bool b.r, .bool b.d, .int .u32 k2] from BL3.out.setL [.int .u32 k2] 12)
  have BR4 := Lib.hid (BR3.out.setO (b := w.heap.size) (by omega) [.int .u32 k2] 12)
  have H4 := Lib.hid (H3.out.setL (b := w.heap.size) ⟨13, by simp⟩ [.int .u32 k2] 12)
  generalize hW4 : setL w3 w.heap.size 12 [.int .u32 k2] = w4 at *
  simp only [setL] at hW4
  simp only [hW4]
  clear hW4 kl fl hm3 H3 BL3 BR3
  have kl := BL4.out.cell
  have kr := BR4.out.cell
  have fr := BR4.out.frozen
  go_wp2_with fail
  refine bodyPost_ret (v := .tuple #[.agg #[.slice A1 s1.length n1, .slice B1 c1.length m1, .int .i64 f1, .bool x1, .int .i64 b.n, .int .u64 b.c, .int .u64 b.b, .int .u64 b.o, .int .u64 b.p, .bool b.i, .bool b.r, .bool b.d, .int .u32 k2], .int .i64 0]) (by simp [results, Tryz.results38, go_sem, kr]) rfl ?_
  exact ⟨A1, B1, n1, m1, rfl, hm4.out.setL [.slice A1 s1.length n1, .slice B1 c1.length m1, .int .i64 f1, .bool x1, .int .i64 b.n, .int .u64 b.c, .int .u64 b.b, .int .u64 b.o, .int .u64 b.p, .bool b.i, .bool b.r, .bool b.d, .int .u32 k2] 0 BR4.out (noText_st 0 0 0 false Sup.zero 0 none 0 none 0) (noText_st s1.length c1.length f1 x1 b k2 A1 n1 B1 m1), (H4.out.setL (b := w.heap.size + 1) ⟨13, by simp⟩ [.slice A1 s1.length n1, .slice B1 c1.length m1, .int .i64 f1, .bool x1, .int .i64 b.n, .int .u64 b.c, .int .u64 b.b, .int .u64 b.o, .int .u64 b.p, .bool b.i, .bool b.r, .bool b.d, .int .u32 k2] 0).below⟩

set_option maxRecDepth 100000 in
set_option maxHeartbeats 4000000 in
theorem rzwipe_no (A B : Option Addr) (n m : Nat) (s : List ByteArray) (c : List Wr) (f : Int) (x : Bool) (b : Sup) (k : Nat) (i : Int) (w : World) (h0 : ¬ i < 0) (h1 : ¬ b.n ≤ i) (hk : k < 4294967296) (hq : clrB k [i] ≠ k) (R : Ans) (he : R.e ≠ 0) (hR : ∀ v, Below w.heap.size w v → Calls Tryz.prog 77 #[.agg #[.slice A s.length n, .slice B c.length m, .int .i64 f, .bool x], .int .u32 (clrB k [i] : Nat)] v (GivesD R.s R.c R.f R.x R.e v)) :
    Calls Tryz.prog 38 #[.agg #[.slice A s.length n, .slice B c.length m, .int .i64 f, .bool x, .int .i64 b.n, .int .u64 b.c, .int .u64 b.b, .int .u64 b.o, .int .u64 b.p, .bool b.i, .bool b.r, .bool b.d, .int .u32 k], .int .i64 i] w fun e w' => ∃ A1 B1 n1 m1, e = .returned (.tuple #[.agg #[.slice A1 R.s.length n1, .slice B1 R.c.length m1, .int .i64 R.f, .bool R.x, .int .i64 b.n, .int .u64 b.c, .int .u64 b.b, .int .u64 b.o, .int .u64 b.p, .bool b.i, .bool b.r, .bool b.d, .int .u32 k], .int .i64 R.e]) ∧ Mem w' A1 n1 B1 m1 R.s R.c ∧ Below w.heap.size w w' := by
  have HK := Lib.hid hk; clear hk
  have HC := Lib.hid (fun v => rclear_any k (some ⟨v.heap.size, 0, none⟩) 1 [i] (v.alloc (.cells #[.int .i64 i] 3)) (v.heap.size + 1) HK.out (cs_new .i64 v [i] 3) (by simp [maxLen]))
  generalize clrB k [i] = k2 at *
  have hkk : ((k2 : Int) == (k : Int)) = false := by rw [beq_eq_false_iff_ne]; omega
  clear hq
  obtain ⟨s1, c1, f1, x1, e1⟩ := R
  dsimp only at *
  have hne : (e1 == 0) = false := beq_eq_false_iff_ne.2 he
  clear he
  have HR := Lib.hid hR; clear hR
  have H0 := Lib.hid (((Held.refl w).own [.slice A s.length n, .slice B c.length m, .int .i64 f, .bool x, .int .i64 b.n, .int .u64 b.c, .int .u64 b.b, .int .u64 b.o, .int .u64 b.p, .bool b.i, .bool b.r, .bool b.d, .int .u32 k] 34 (n := 13) rfl).own [.slice none 0 0, .slice none 0 0, .int .i64 0, .bool false, .int .i64 0, .int .u64 0, .int .u64 0, .int .u64 0, .int .u64 0, .bool false, .bool false, .bool false, .int .u32 0] 34 (n := 13) rfl)
  have BL0 := Lib.hid ((Box.new w [.slice A s.length n, .slice B c.length m, .int .i64 f, .bool x, .int .i64 b.n, .int .u64 b.c, .int .u64 b.b, .int .u64 b.o, .int .u64 b.p, .bool b.i, .bool b.r, .bool b.d, .int .u32 k] 34).alloc (.cells ([.slice none 0 0, .slice none 0 0, .int .i64 0, .bool false, .int .i64 0, .int .u64 0, .int .u64 0, .int .u64 0, .int .u64 0, .bool false, .bool false, .bool false, .int .u32 0] : List Value).toArray 34))
  have BR0 := Lib.hid (Box.new2 w (.cells ([.slice A s.length n, .slice B c.length m, .int .i64 f, .bool x, .int .i64 b.n, .int .u64 b.c, .int .u64 b.b, .int .u64 b.o, .int .u64 b.p, .bool b.i, .bool b.r, .bool b.d, .int .u32 k] : List Value).toArray 34) [.slice none 0 0, .slice none 0 0, .int .i64 0, .bool false, .int .i64 0, .int .u64 0, .int .u64 0, .int .u64 0, .int .u64 0, .bool false, .bool false, .bool false, .int .u32 0] 34)
  rw [World.size_alloc] at H0
  have kl := BL0.out.cell
  go_enter Tryz.func38, Tryz.ntmps38
  go_upto_region 3 with fail
  generalize (w.alloc (.cells #[.slice A s.length n, .slice B c.length m, .int .i64 f, .bool x, .int .i64 b.n, .int .u64 b.c, .int .u64 b.b, .int .u64 b.o, .int .u64 b.p, .bool b.i, .bool b.r, .bool b.d, .int .u32 k] 34)).alloc (.cells #[.slice none 0 0, .slice none 0 0, .int .i64 0, .bool false, .int .i64 0, .int .u64 0, .int .u64 0, .int .u64 0, .int .u64 0, .bool false, .bool false, .bool false, .int .u32 0] 34) = wa at *
  have kl := BL0.out.cell
  go_wp2_with fail
  refine (HC.out _).mono ?_
  rintro e wx ⟨rfl, hw⟩
  rw [hw]
  clear hw kl HC
  have hb : Below wa.heap.size wa (wa.alloc (.cells ([.int .i64 i] : List Value).toArray 3)) := below1
  have Hb := Lib.hid (H0.out.up hb)
  have BLb := Lib.hid (BL0.out.below hb)
  have BRb := Lib.hid (BR0.out.below hb)
  generalize wa.alloc (.cells #[.int .i64 i] 3) = wb at *
  clear hb H0 BL0 BR0
  have kl := BLb.out.cell
  go_wp2_with fail
  refine (HR.out _ Hb.out.below).mono ?_
  rintro e w1 ⟨A1, B1, n1, m1, rfl, hm1, hb⟩
  have hm1 := Lib.hid hm1
  have H1 := Lib.hid (Hb.out.up hb)
  have BL1 := Lib.hid (BLb.out.below hb)
  have BR1 := Lib.hid (BRb.out.below hb)
  clear hb kl Hb BLb BRb
  have kl := BL1.out.cell
  have fl := BL1.out.frozen
  have hlt := BL1.out.lt
  have hlt2 := BR1.out.lt
  go_upto_region 7 with fail
  have hm2 := Lib.hid (hm1.out.up (below1 (o := .cells ([.slice A1 s1.length n1, .slice B1 c1.length m1, .int .i64 f1, .bool x1] : List Value).toArray 25)))
  have BD2 := Lib.hid (Box.new w1 [.slice A1 s1.length n1, .slice B1 c1.length m1, .int .i64 f1, .bool x1] 25)
  have hb : Below w1.heap.size w1 (w1.alloc (.cells ([.slice A1 s1.length n1, .slice B1 c1.length m1, .int .i64 f1, .bool x1] : List Value).toArray 25)) := below1
  have H2 := Lib.hid (H1.out.up hb)
  have BL2 := Lib.hid (BL1.out.below hb)
  have BR2 := Lib.hid (BR1.out.below hb)
  have hd := BD2.out.lt
  generalize w1.alloc (.cells #[.slice A1 s1.length n1, .slice B1 c1.length m1, .int .i64 f1, .bool x1] 25) = w2 at *
  clear hb hm1 kl fl H1 BL1 BR1
  have kd := BD2.out.cell
  have kl := BL2.out.cell
  have fl := BL2.out.frozen
  go_upto_region 8 with fail
  have hm3 := Lib.hid (hm2.out.setL [.slice A1 s1.length n1, .slice B1 c1.length m1, .int .i64 f1, .bool x1] 0 BL2.out (noText_st s.length c.length f x b k A n B m) (noText_four A1 B1 s1.length n1 c1.length m1 f1 x1))
  have BL3 := Lib.hid (show Box _ w.heap.size [.slice A1 s1.length n1, .slice B1 c1.length m1, .int .i64 f1, .bool x1, .int .i64 b.n, .int .u64 b.c, .int .u64 b.b, .int .u64 b.o, .int .u64 b.p, .bool b.i, .bool b.r, .bool b.d, .int .u32 k] from BL2.out.setL [.slice A1 s1.length n1, .slice B1 c1.length m1, .int .i64 f1, .bool x1] 0)
  have BR3 := Lib.hid (BR2.out.setO (b := w.heap.size) (by omega) [.slice A1 s1.length n1, .slice B1 c1.length m1, .int .i64 f1, .bool x1] 0)
  have H3 := Lib.hid (H2.out.setL (b := w.heap.size) ⟨13, by simp⟩ [.slice A1 s1.length n1, .slice B1 c1.length m1, .int .i64 f1, .bool x1] 0)
  generalize hW3 : setL w2 w.heap.size 0 [.slice A1 s1.length n1, .slice B1 c1.length m1, .int .i64 f1, .bool x1] = w3 at *
  simp only [setL, Nat.zero_add, Nat.reduceAdd] at hW3
  simp only [hW3]
  clear hW3 kd kl fl hm2 BD2 H2 BL2 BR2 hd hlt hlt2
  go_upto_region 10 with fail
  have kl := BL3.out.cell
  have kr := BR3.out.cell
  have fr := BR3.out.frozen
  go_wp2_with fail
  refine bodyPost_ret (v := .tuple #[.agg #[.slice A1 s1.length n1, .slice B1 c1.length m1, .int .i64 f1, .bool x1, .int .i64 b.n, .int .u64 b.c, .int .u64 b.b, .int .u64 b.o, .int .u64 b.p, .bool b.i, .bool b.r, .bool b.d, .int .u32 k], .int .i64 e1]) (by simp [results, Tryz.results38, go_sem, kr]) rfl ?_
  exact ⟨A1, B1, n1, m1, rfl, hm3.out.setL [.slice A1 s1.length n1, .slice B1 c1.length m1, .int .i64 f1, .bool x1, .int .i64 b.n, .int .u64 b.c, .int .u64 b.b, .int .u64 b.o, .int .u64 b.p, .bool b.i, .bool b.r, .bool b.d, .int .u32 k] 0 BR3.out (noText_st 0 0 0 false Sup.zero 0 none 0 none 0) (noText_st s1.length c1.length f1 x1 b k A1 n1 B1 m1), (H3.out.setL (b := w.heap.size + 1) ⟨13, by simp⟩ [.slice A1 s1.length n1, .slice B1 c1.length m1, .int .i64 f1, .bool x1, .int .i64 b.n, .int .u64 b.c, .int .u64 b.b, .int .u64 b.o, .int .u64 b.p, .bool b.i, .bool b.r, .bool b.d, .int .u32 k] 0).below⟩

end Go.Proofs.YtjkgellkkjjnbaaGreatDoor
