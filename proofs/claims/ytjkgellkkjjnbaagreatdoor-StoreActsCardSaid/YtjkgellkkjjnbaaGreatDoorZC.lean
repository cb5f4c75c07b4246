/- Stores: whether two superblocks are the same; what the document's Commit, save and Wipe answer, for every disk within what they ask. -/
import Derived.Test.YtjkgellkkjjnbaaGreatDoorZX
namespace Go.Proofs.YtjkgellkkjjnbaaGreatDoor
open Go.RowKit

theorem sup_struct : Tryz.prog.underlying 31 = some (.struct (Tryz.prog.fieldsOf 31)) := by kernel_rfl
theorem sup_held : Tryz.prog.stoodInHeld 31 = false := by kernel_rfl
theorem sup_eql (a b : Sup) (w : World) : (binOp .eql 31 (.agg #[.int .i64 a.n, .int .u64 a.c, .int .u64 a.b, .int .u64 a.o, .int .u64 a.p, .bool a.i, .bool a.r, .bool a.d]) (.agg #[.int .i64 b.n, .int .u64 b.c, .int .u64 b.b, .int .u64 b.o, .int .u64 b.p, .bool b.i, .bool b.r, .bool b.d])).run Tryz.prog w = .ok (.bool (a.same b)) w := by
  have ea := eql_two 9996 a.o a.p b.o b.p w
  rw [run_eql_struct, show (10000 : Nat) = 9999 + 1 from rfl, run_equalIn_agg w 9999 31 _ _ sup_struct sup_held]
  simp only [Program.fieldsOf, Tryz.underlying31]
  go_simp
  unfold Sup.same
  by_cases h0 : a.n = b.n
  rotate_left
  · simp [h0]
  by_cases h1 : a.c = b.c
  rotate_left
  · simp [h0, h1]
  by_cases h2 : a.b = b.b
  rotate_left
  · simp [h0, h1, h2]
  by_cases h3 : a.o = b.o
  rotate_left
  · simp [h0, h1, h2, h3]
  by_cases h4 : a.p = b.p
  rotate_left
  · simp [h0, h1, h2, h3, h4]
  by_cases h5 : a.i = b.i
  rotate_left
  · simp [h0, h1, h2, h3, h4, h5]
  by_cases h6 : a.r = b.r
  rotate_left
  · simp [h0, h1, h2, h3, h4, h5, h6]
  by_cases h7 : a.d = b.d
  rotate_left
  · simp [h0, h1, h2, h3, h4, h5, h6, h7]
  simp [h0, h1, h2, h3, h4, h5, h6, h7]

set_option maxRecDepth 100000 in
set_option maxHeartbeats 4000000 in
theorem rzcommit_same (A B : Option Addr) (n m : Nat) (s : List ByteArray) (c : List Wr) (f : Int) (x : Bool) (b : Sup) (k : Nat) (q : Sup) (w : World) (hq : q.same b = true) : Calls Tryz.prog 41 #[.agg #[.slice A s.length n, .slice B c.length m, .int .i64 f, .bool x, .int .i64 b.n, .int .u64 b.c, .int .u64 b.b, .int .u64 b.o, .int .u64 b.p, .bool b.i, .bool b.r, .bool b.d, .int .u32 k], .agg #[.int .i64 q.n, .int .u64 q.c, .int .u64 q.b, .int .u64 q.o, .int .u64 q.p, .bool q.i, .bool q.r, .bool q.d]] w fun e w' => e = .returned (.tuple #[.agg #[.slice A s.length n, .slice B c.length m, .int .i64 f, .bool x, .int .i64 b.n, .int .u64 b.c, .int .u64 b.b, .int .u64 b.o, .int .u64 b.p, .bool b.i, .bool b.r, .bool b.d, .int .u32 k], .int .i64 0]) ∧ Below w.heap.size w w' := by
  have hs := fun w => sup_eql q b w
  rw [hq] at hs
  clear hq
  have H0 := Lib.hid ((((Held.refl w).own [.slice A s.length n, .slice B c.length m, .int .i64 f, .bool x, .int .i64 b.n, .int .u64 b.c, .int .u64 b.b, .int .u64 b.o, .int .u64 b.p, .bool b.i, .bool b.r, .bool b.d, .int .u32 k] 34 (n := 13) rfl).lay [.int .i64 q.n, .int .u64 q.c, .int .u64 q.b, .int .u64 q.o, .int .u64 q.p, .bool q.i, .bool q.r, .bool q.d] 31).own [.slice none 0 0, .slice none 0 0, .int .i64 0, .bool false, .int .i64 0, .int .u64 0, .int .u64 0, .int .u64 0, .int .u64 0, .bool false, .bool false, .bool false, .int .u32 0] 34 (n := 13) rfl)
  have BL0 := Lib.hid (((Box.new w [.slice A s.length n, .slice B c.length m, .int .i64 f, .bool x, .int .i64 b.n, .int .u64 b.c, .int .u64 b.b, .int .u64 b.o, .int .u64 b.p, .bool b.i, .bool b.r, .bool b.d, .int .u32 k] 34).alloc (.cells ([.int .i64 q.n, .int .u64 q.c, .int .u64 q.b, .int .u64 q.o, .int .u64 q.p, .bool q.i, .bool q.r, .bool q.d] : List Value).toArray 31)).alloc (.cells ([.slice none 0 0, .slice none 0 0, .int .i64 0, .bool false, .int .i64 0, .int .u64 0, .int .u64 0, .int .u64 0, .int .u64 0, .bool false, .bool false, .bool false, .int .u32 0] : List Value).toArray 34))
  have BR0 := Lib.hid (Box.new ((w.alloc (.cells ([.slice A s.length n, .slice B c.length m, .int .i64 f, .bool x, .int .i64 b.n, .int .u64 b.c, .int .u64 b.b, .int .u64 b.o, .int .u64 b.p, .bool b.i, .bool b.r, .bool b.d, .int .u32 k] : List Value).toArray 34)).alloc (.cells ([.int .i64 q.n, .int .u64 q.c, .int .u64 q.b, .int .u64 q.o, .int .u64 q.p, .bool q.i, .bool q.r, .bool q.d] : List Value).toArray 31)) [.slice none 0 0, .slice none 0 0, .int .i64 0, .bool false, .int .i64 0, .int .u64 0, .int .u64 0, .int .u64 0, .int .u64 0, .bool false, .bool false, .bool false, .int .u32 0] 34)
  simp only [World.size_alloc] at H0 BR0
  have kl := BL0.out.cell
  have ks := H0.out.b0.cell
  go_enter Tryz.func41, Tryz.ntmps41
  go_wp2_with fail
  refine bodyPost_ret (v := .tuple #[.agg #[.slice A s.length n, .slice B c.length m, .int .i64 f, .bool x, .int .i64 b.n, .int .u64 b.c, .int .u64 b.b, .int .u64 b.o, .int .u64 b.p, .bool b.i, .bool b.r, .bool b.d, .int .u32 k], .int .i64 0]) (by simp [results, Tryz.results41, go_sem]) rfl ⟨rfl, ?_⟩
  exact ext_alloc below2 _

set_option maxRecDepth 100000 in
set_option maxHeartbeats 4000000 in
theorem rzcommit_yes (A B : Option Addr) (n m : Nat) (s : List ByteArray) (c : List Wr) (f : Int) (x : Bool) (b : Sup) (k : Nat) (q : Sup) (w : World) (hq : q.same b = false) (R : Ans) (he : R.e = 0) (hR : ∀ v, Below w.heap.size w v → Calls Tryz.prog 80 #[.agg #[.slice A s.length n, .slice B c.length m, .int .i64 f, .bool x], .agg #[.int .i64 q.n, .int .u64 q.c, .int .u64 q.b, .int .u64 q.o, .int .u64 q.p, .bool q.i, .bool q.r, .bool q.d]] v (GivesD R.s R.c R.f R.x R.e v)) :
    Calls Tryz.prog 41 #[.agg #[.slice A s.length n, .slice B c.length m, .int .i64 f, .bool x, .int .i64 b.n, .int .u64 b.c, .int .u64 b.b, .int .u64 b.o, .int .u64 b.p, .bool b.i, .bool b.r, .bool b.d, .int .u32 k], .agg #[.int .i64 q.n, .int .u64 q.c, .int .u64 q.b, .int .u64 q.o, .int .u64 q.p, .bool q.i, .bool q.r, .bool q.d]] w fun e w' => ∃ A1 B1 n1 m1, e = .returned (.tuple #[.agg #[.slice A1 R.s.length n1, .slice B1 R.c.length m1, .int .i64 R.f, .bool R.x, .int .i64 q.n, .int .u64 q.c, .int .u64 q.b, .int .u64 q.o, .int .u64 q.p, .bool q.i, .bool q.r, .bool q.d, .int .u32 k], .int .i64 R.e]) ∧ Mem w' A1 n1 B1 m1 R.s R.c ∧ Below w.heap.size w w' := by
  have hs := fun w => sup_eql q b w
  rw [hq] at hs
  clear hq
  obtain ⟨s1, c1, f1, x1, e1⟩ := R
  dsimp only at *
  subst he
  have HR := Lib.hid hR; clear hR
  have H0 := Lib.hid ((((Held.refl w).own [.slice A s.length n, .slice B c.length m, .int .i64 f, .bool x, .int .i64 b.n, .int .u64 b.c, .int .u64 b.b, .int .u64 b.o, .int .u64 b.p, .bool b.i, .bool b.r, .bool b.d, .int .u32 k] 34 (n := 13) rfl).lay [.int .i64 q.n, .int .u64 q.c, .int .u64 q.b, .int .u64 q.o, .int .u64 q.p, .bool q.i, .bool q.r, .bool q.d] 31).own [.slice none 0 0, .slice none 0 0, .int .i64 0, .bool false, .int .i64 0, .int .u64 0, .int .u64 0, .int .u64 0, .int .u64 0, .bool false, .bool false, .bool false, .int .u32 0] 34 (n := 13) rfl)
  have BL0 := Lib.hid (((Box.new w [.slice A s.length n, .slice B c.length m, .int .i64 f, .bool x, .int .i64 b.n, .int .u64 b.c, .int .u64 b.b, .int .u64 b.o, .int .u64 b.p, .bool b.i, .bool b.r, .bool b.d, .int .u32 k] 34).alloc (.cells ([.int .i64 q.n, .int .u64 q.c, .int .u64 q.b, .int .u64 q.o, .int .u64 q.p, .bool q.i, .bool q.r, .bool q.d] : List Value).toArray 31)).alloc (.cells ([.slice none 0 0, .slice none 0 0, .int .i64 0, .bool false, .int .i64 0, .int .u64 0, .int .u64 0, .int .u64 0, .int .u64 0, .bool false, .bool false, .bool false, .int .u32 0] : List Value).toArray 34))
  have BR0 := Lib.hid (Box.new ((w.alloc (.cells ([.slice A s.length n, .slice B c.length m, .int .i64 f, .bool x, .int .i64 b.n, .int .u64 b.c, .int .u64 b.b, .int .u64 b.o, .int .u64 b.p, .bool b.i, .bool b.r, .bool b.d, .int .u32 k] : List Value).toArray 34)).alloc (.cells ([.int .i64 q.n, .int .u64 q.c, .int .u64 q.b, .int .u64 q.o, .int .u64 q.p, .bool q.i, .bool q.r, .bool q.d] : List Value).toArray 31)) [.slice none 0 0, .slice none 0 0, .int .i64 0, .bool false, .int .i64 0, .int .u64 0, .int .u64 0, .int .u64 0, .int .u64 0, .bool false, .bool false, .bool false, .int .u32 0] 34)
  simp only [World.size_alloc] at H0 BR0
  have kl := BL0.out.cell
  have ks := H0.out.b0.cell
  go_enter Tryz.func41, Tryz.ntmps41
  go_wp2_with fail
  refine (HR.out _ H0.out.below).mono ?_
  rintro e w1 ⟨A1, B1, n1, m1, rfl, hm1, hb⟩
  have hm1 := Lib.hid hm1
  have H1 := Lib.hid (H0.out.up hb)
  have BL1 := Lib.hid (BL0.out.below hb)
  have BR1 := Lib.hid (BR0.out.below hb)
  clear hb kl ks hs H0 BL0 BR0
  have kl := BL1.out.cell
  have fl := BL1.out.frozen
  have hlt := BL1.out.lt
  have hlt2 := BR1.out.lt
  go_upto_region 4 with fail
  have hm2 := Lib.hid (hm1.out.up (below1 (o := .cells ([.slice A1 s1.length n1, .slice B1 c1.length m1, .int .i64 f1, .bool x1] : List Value).toArray 25)))
  have BD2 := Lib.hid (Box.new w1 [.slice A1 s1.length n1, .slice B1 c1.length m1, .int .i64 f1, .bool x1] 25)
  have hb : Below w1.heap.size w1 (w1.alloc (.cells ([.slice A1 s1.length n1, .slice B1 c1.length m1, .int .i64 f1, .bool x1] : List Value).toArray 25)) := below1
  have H2 := Lib.hid (H1.out.up hb)
  have BL2 := Lib.hid (BL1.out.below hb)
  have BR2 := Lib.hid (BR1.out.below hb)
  have hd := BD2.out.lt
  generalize w1.alloc (.cells #[.slice A1 s1.length n1, .slice B1 c1.length m1, .int .i64 f1, .bool x1] 25) = w2 at *
  clear hb hm1 kl fl H1 BL1 BR1
  have kd := BD2.out.cell
  have kl := BL2.out.cell
  have fl := BL2.out.frozen
  go_upto_region 5 with fail
  have hm3 := Lib.hid (hm2.out.setL [.slice A1 s1.length n1, .slice B1 c1.length m1, .int .i64 f1, .bool x1] 0 BL2.out (noText_st s.length c.length f x b k A n B m) (noText_four A1 B1 s1.length n1 c1.length m1 f1 x1))
  have BL3 := Lib.hid (show Box _ w.heap.size [.slice A1 s1.length n1, .slice B1 c1.length m1, .int .i64 f1, .bool x1, .int .i64 b.n, .int .u64 b.c, .int .u64 b.b, .int .u64 b.o, .int .u64 b.p, .bool b.i, .bool b.r, .bool b.d, .int .u32 k] from BL2.out.setL [.slice A1 s1.length n1, .slice B1 c1.length m1, .int .i64 f1, .bool x1] 0)
  have BR3 := Lib.hid (BR2.out.setO (b := w.heap.size) (by omega) [.slice A1 s1.length n1, .slice B1 c1.length m1, .int .i64 f1, .bool x1] 0)
  have H3 := Lib.hid (H2.out.setL (b := w.heap.size) ⟨13, by simp⟩ [.slice A1 s1.length n1, .slice B1 c1.length m1, .int .i64 f1, .bool x1] 0)
  generalize hW3 : setL w2 w.heap.size 0 [.slice A1 s1.length n1, .slice B1 c1.length m1, .int .i64 f1, .bool x1] = w3 at *
  simp only [setL, Nat.zero_add, Nat.reduceAdd] at hW3
  simp only [hW3]
  clear hW3 kd kl fl hm2 BD2 H2 BL2 BR2 hd hlt hlt2
  have ks := H3.out.b0.cell
  have kl := BL3.out.cell
  have fl := BL3.out.frozen
  go_upto_region 7 with fail
  have hm4 := Lib.hid (hm3.out.setL [.int .i64 q.n, .int .u64 q.c, .int .u64 q.b, .int .u64 q.o, .int .u64 q.p, .bool q.i, .bool q.r, .bool q.d] 4 BL3.out (noText_st s1.length c1.length f1 x1 b k A1 n1 B1 m1) (noText_sup q))
  have BL4 := Lib.hid (show Box _ w.heap.size [.slice A1 s1.length n1, .slice B1 c1.length m1, .int .i64 f1, .bool x1, .int .i64 q.n, .int .u64 q.c, .int .u64 q.b, .int .u64 q.o, .int .u64 q.p, .bool q.i, .bool q.r, .bool q.d, .int .u32 k] from BL3.out.setL [.int .i64 q.n, .int .u64 q.c, .int .u64 q.b, .int .u64 q.o, .int .u64 q.p, .bool q.i, .bool q.r, .bool q.d] 4)
  have BR4 := Lib.hid (BR3.out.setO (b := w.heap.size) (by omega) [.int .i64 q.n, .int .u64 q.c, .int .u64 q.b, .int .u64 q.o, .int .u64 q.p, .bool q.i, .bool q.r, .bool q.d] 4)
  have H4 := Lib.hid (H3.out.setL (b := w.heap.size) ⟨13, by simp⟩ [.int .i64 q.n, .int .u64 q.c, .int .u64 q.b, .int .u64 q.o, .int .u64 q.p, .bool q.i, .bool q.r, .bool q.d] 4)
  generalize hW4 : setL w3 w.heap.size 4 [.int .i64 q.n, .int .u64 q.c, .int .u64 q.b, .int .u64 q.o, .int .u64 q.p, .bool q.i, .bool q.r, .bool q.d] = w4 at *
  simp only [setL, Nat.reduceAdd] at hW4
  simp only [hW4]
  clear hW4 ks kl fl hm3 H3 BL3 BR3
  have kl := BL4.out.cell
  have kr := BR4.out.cell
  have fr := BR4.out.frozen
  go_wp2_with fail
  refine bodyPost_ret (v := .tuple #[.agg #[.slice A1 s1.length n1, .slice B1 c1.length m1, .int .i64 f1, .bool x1, .int .i64 q.n, .int .u64 q.c, .int .u64 q.b, .int .u64 q.o, .int .u64 q.p, .bool q.i, .bool q.r, .bool q.d, .int .u32 k], .int .i64 0]) (by simp [results, Tryz.results41, go_sem, kr]) rfl ?_
  exact ⟨A1, B1, n1, m1, rfl, hm4.out.setL [.slice A1 s1.length n1, .slice B1 c1.length m1, .int .i64 f1, .bool x1, .int .i64 q.n, .int .u64 q.c, .int .u64 q.b, .int .u64 q.o, .int .u64 q.p, .bool q.i, .bool q.r, .bool q.d, .int .u32 k] 0 BR4.out (noText_st 0 0 0 false Sup.zero 0 none 0 none 0) (noText_st s1.length c1.length f1 x1 q k A1 n1 B1 m1), (H4.out.setL (b := w.heap.size + 2) ⟨13, by simp⟩ [.slice A1 s1.length n1, .slice B1 c1.length m1, .int .i64 f1, .bool x1, .int .i64 q.n, .int .u64 q.c, .int .u64 q.b, .int .u64 q.o, .int .u64 q.p, .bool q.i, .bool q.r, .bool q.d, .int .u32 k] 0).below⟩

set_option maxRecDepth 100000 in
set_option maxHeartbeats 4000000 in
theorem rzcommit_no (A B : Option Addr) (n m : Nat) (s : List ByteArray) (c : List Wr) (f : Int) (x : Bool) (b : Sup) (k : Nat) (q : Sup) (w : World) (hq : q.same b = false) (R : Ans) (he : R.e ≠ 0) (hR : ∀ v, Below w.heap.size w v → Calls Tryz.prog 80 #[.agg #[.slice A s.length n, .slice B c.length m, .int .i64 f, .bool x], .agg #[.int .i64 q.n, .int .u64 q.c, .int .u64 q.b, .int .u64 q.o, .int .u64 q.p, .bool q.i, .bool q.r, .bool q.d]] v (GivesD R.s R.c R.f R.x R.e v)) :
    Calls Tryz.prog 41 #[.agg #[.slice A s.length n, .slice B c.length m, .int .i64 f, .bool x, .int .i64 b.n, .int .u64 b.c, .int .u64 b.b, .int .u64 b.o, .int .u64 b.p, .bool b.i, .bool b.r, .bool b.d, .int .u32 k], .agg #[.int .i64 q.n, .int .u64 q.c, .int .u64 q.b, .int .u64 q.o, .int .u64 q.p, .bool q.i, .bool q.r, .bool q.d]] w fun e w' => ∃ A1 B1 n1 m1, e = .returned (.tuple #[.agg #[.slice A1 R.s.length n1, .slice B1 R.c.length m1, .int .i64 R.f, .bool R.x, .int .i64 b.n, .int .u64 b.c, .int .u64 b.b, .int .u64 b.o, .int .u64 b.p, .bool b.i, .bool b.r, .bool b.d, .int .u32 k], .int .i64 R.e]) ∧ Mem w' A1 n1 B1 m1 R.s R.c ∧ Below w.heap.size w w' := by
  have hs := fun w => sup_eql q b w
  rw [hq] at hs
  clear hq
  obtain ⟨s1, c1, f1, x1, e1⟩ := R
  dsimp only at *
  have hne : (e1 == 0) = false := beq_eq_false_iff_ne.2 he
  clear he
  have HR := Lib.hid hR; clear hR
  have H0 := Lib.hid ((((Held.refl w).own [.slice A s.length n, .slice B c.length m, .int .i64 f, .bool x, .int .i64 b.n, .int .u64 b.c, .int .u64 b.b, .int .u64 b.o, .int .u64 b.p, .bool b.i, .bool b.r, .bool b.d, .int .u32 k] 34 (n := 13) rfl).lay [.int .i64 q.n, .int .u64 q.c, .int .u64 q.b, .int .u64 q.o, .int .u64 q.p, .bool q.i, .bool q.r, .bool q.d] 31).own [.slice none 0 0, .slice none 0 0, .int .i64 0, .bool false, .int .i64 0, .int .u64 0, .int .u64 0, .int .u64 0, .int .u64 0, .bool false, .bool false, .bool false, .int .u32 0] 34 (n := 13) rfl)
  have BL0 := Lib.hid (((Box.new w [.slice A s.length n, .slice B c.length m, .int .i64 f, .bool x, .int .i64 b.n, .int .u64 b.c, .int .u64 b.b, .int .u64 b.o, .int .u64 b.p, .bool b.i, .bool b.r, .bool b.d, .int .u32 k] 34).alloc (.cells ([.int .i64 q.n, .int .u64 q.c, .int .u64 q.b, .int .u64 q.o, .int .u64 q.p, .bool q.i, .bool q.r, .bool q.d] : List Value).toArray 31)).alloc (.cells ([.slice none 0 0, .slice none 0 0, .int .i64 0, .bool false, .int .i64 0, .int .u64 0, .int .u64 0, .int .u64 0, .int .u64 0, .bool false, .bool false, .bool false, .int .u32 0] : List Value).toArray 34))
  have BR0 := Lib.hid (Box.new ((w.alloc (.cells ([.slice A s.length n, .slice B c.length m, .int .i64 f, .bool x, .int .i64 b.n, .int .u64 b.c, .int .u64 b.b, .int .u64 b.o, .int .u64 b.p, .bool b.i, .bool b.r, .bool b.d, .int .u32 k] : List Value).toArray 34)).alloc (.cells ([.int .i64 q.n, .int .u64 q.c, .int .u64 q.b, .int .u64 q.o, .int .u64 q.p, .bool q.i, .bool q.r, .bool q.d] : List Value).toArray 31)) [.slice none 0 0, .slice none 0 0, .int .i64 0, .bool false, .int .i64 0, .int .u64 0, .int .u64 0, .int .u64 0, .int .u64 0, .bool false, .bool false, .bool false, .int .u32 0] 34)
  simp only [World.size_alloc] at H0 BR0
  have kl := BL0.out.cell
  have ks := H0.out.b0.cell
  go_enter Tryz.func41, Tryz.ntmps41
  go_wp2_with fail
  refine (HR.out _ H0.out.below).mono ?_
  rintro e w1 ⟨A1, B1, n1, m1, rfl, hm1, hb⟩
  have hm1 := Lib.hid hm1
  have H1 := Lib.hid (H0.out.up hb)
  have BL1 := Lib.hid (BL0.out.below hb)
  have BR1 := Lib.hid (BR0.out.below hb)
  clear hb kl ks hs H0 BL0 BR0
  have kl := BL1.out.cell
  have fl := BL1.out.frozen
  have hlt := BL1.out.lt
  have hlt2 := BR1.out.lt
  go_upto_region 4 with fail
  have hm2 := Lib.hid (hm1.out.up (below1 (o := .cells ([.slice A1 s1.length n1, .slice B1 c1.length m1, .int .i64 f1, .bool x1] : List Value).toArray 25)))
  have BD2 := Lib.hid (Box.new w1 [.slice A1 s1.length n1, .slice B1 c1.length m1, .int .i64 f1, .bool x1] 25)
  have hb : Below w1.heap.size w1 (w1.alloc (.cells ([.slice A1 s1.length n1, .slice B1 c1.length m1, .int .i64 f1, .bool x1] : List Value).toArray 25)) := below1
  have H2 := Lib.hid (H1.out.up hb)
  have BL2 := Lib.hid (BL1.out.below hb)
  have BR2 := Lib.hid (BR1.out.below hb)
  have hd := BD2.out.lt
  generalize w1.alloc (.cells #[.slice A1 s1.length n1, .slice B1 c1.length m1, .int .i64 f1, .bool x1] 25) = w2 at *
  clear hb hm1 kl fl H1 BL1 BR1
  have kd := BD2.out.cell
  have kl := BL2.out.cell
  have fl := BL2.out.frozen
  go_upto_region 5 with fail
  have hm3 := Lib.hid (hm2.out.setL [.slice A1 s1.length n1, .slice B1 c1.length m1, .int .i64 f1, .bool x1] 0 BL2.out (noText_st s.length c.length f x b k A n B m) (noText_four A1 B1 s1.length n1 c1.length m1 f1 x1))
  have BL3 := Lib.hid (show Box _ w.heap.size [.slice A1 s1.length n1, .slice B1 c1.length m1, .int .i64 f1, .bool x1, .int .i64 b.n, .int .u64 b.c, .int .u64 b.b, .int .u64 b.o, .int .u64 b.p, .bool b.i, .bool b.r, .bool b.d, .int .u32 k] from BL2.out.setL [.slice A1 s1.length n1, .slice B1 c1.length m1, .int .i64 f1, .bool x1] 0)
  have BR3 := Lib.hid (BR2.out.setO (b := w.heap.size) (by omega) [.slice A1 s1.length n1, .slice B1 c1.length m1, .int .i64 f1, .bool x1] 0)
  have H3 := Lib.hid (H2.out.setL (b := w.heap.size) ⟨13, by simp⟩ [.slice A1 s1.length n1, .slice B1 c1.length m1, .int .i64 f1, .bool x1] 0)
  generalize hW3 : setL w2 w.heap.size 0 [.slice A1 s1.length n1, .slice B1 c1.length m1, .int .i64 f1, .bool x1] = w3 at *
  simp only [setL, Nat.zero_add, Nat.reduceAdd] at hW3
  simp only [hW3]
  clear hW3 kd kl fl hm2 BD2 H2 BL2 BR2 hd hlt hlt2
  go_upto_region 7 with fail
  have kl := BL3.out.cell
  have kr := BR3.out.cell
  have fr := BR3.out.frozen
  go_wp2_with fail
  refine bodyPost_ret (v := .tuple #[.agg #[.slice A1 s1.length n1, .slice B1 c1.length m1, .int .i64 f1, .bool x1, .int .i64 b.n, .int .u64 b.c, .int .u64 b.b, .int .u64 b.o, .int .u64 b.p, .bool b.i, .bool b.r, .bool b.d, .int .u32 k], .int .i64 e1]) (by simp [results, Tryz.results41, go_sem, kr]) rfl ?_
  exact ⟨A1, B1, n1, m1, rfl, hm3.out.setL [.slice A1 s1.length n1, .slice B1 c1.length m1, .int .i64 f1, .bool x1, .int .i64 b.n, .int .u64 b.c, .int .u64 b.b, .int .u64 b.o, .int .u64 b.p, .bool b.i, .bool b.r, .bool b.d, .int .u32 k] 0 BR3.out (noText_st 0 0 0 false Sup.zero 0 none 0 none 0) (noText_st s1.length c1.length f1 x1 b k A1 n1 B1 m1), (H3.out.setL (b := w.heap.size + 2) ⟨13, by simp⟩ [.slice A1 s1.length n1, .slice B1 c1.length m1, .int .i64 f1, .bool x1, .int .i64 b.n, .int .u64 b.c, .int .u64 b.b, .int .u64 b.o, .int .u64 b.p, .bool b.i, .bool b.r, .bool b.d, .int .u32 k] 0).below⟩

set_option maxRecDepth 100000 in
set_option maxHeartbeats 4000000 in
theorem rzsave_same (A B : Option Addr) (n m : Nat) (s : List ByteArray) (c : List Wr) (f : Int) (x : Bool) (b : Sup) (k : Nat) (w : World) : Calls Tryz.prog 74 #[.agg #[.slice A s.length n, .slice B c.length m, .int .i64 f, .bool x, .int .i64 b.n, .int .u64 b.c, .int .u64 b.b, .int .u64 b.o, .int .u64 b.p, .bool b.i, .bool b.r, .bool b.d, .int .u32 k], .int .u32 k] w fun e w' => e = .returned (.tuple #[.agg #[.slice A s.length n, .slice B c.length m, .int .i64 f, .bool x, .int .i64 b.n, .int .u64 b.c, .int .u64 b.b, .int .u64 b.o, .int .u64 b.p, .bool b.i, .bool b.r, .bool b.d, .int .u32 k], .int .i64 0]) ∧ Below w.heap.size w w' := by
  have H0 := Lib.hid (((Held.refl w).own [.slice A s.length n, .slice B c.length m, .int .i64 f, .bool x, .int .i64 b.n, .int .u64 b.c, .int .u64 b.b, .int .u64 b.o, .int .u64 b.p, .bool b.i, .bool b.r, .bool b.d, .int .u32 k] 34 (n := 13) rfl).own [.slice none 0 0, .slice none 0 0, .int .i64 0, .bool false, .int .i64 0, .int .u64 0, .int .u64 0, .int .u64 0, .int .u64 0, .bool false, .bool false, .bool false, .int .u32 0] 34 (n := 13) rfl)
  have BL0 := Lib.hid ((Box.new w [.slice A s.length n, .slice B c.length m, .int .i64 f, .bool x, .int .i64 b.n, .int .u64 b.c, .int .u64 b.b, .int .u64 b.o, .int .u64 b.p, .bool b.i, .bool b.r, .bool b.d, .int .u32 k] 34).alloc (.cells ([.slice none 0 0, .slice none 0 0, .int .i64 0, .bool false, .int .i64 0, .int .u64 0, .int .u64 0, .int .u64 0, .int .u64 0, .bool false, .bool false, .bool false, .int .u32 0] : List Value).toArray 34))
  have BR0 := Lib.hid (Box.new2 w (.cells ([.slice A s.length n, .slice B c.length m, .int .i64 f, .bool x, .int .i64 b.n, .int .u64 b.c, .int .u64 b.b, .int .u64 b.o, .int .u64 b.p, .bool b.i, .bool b.r, .bool b.d, .int .u32 k] : List Value).toArray 34) [.slice none 0 0, .slice none 0 0, .int .i64 0, .bool false, .int .i64 0, .int .u64 0, .int .u64 0, .int .u64 0, .int .u64 0, .bool false, .bool false, .bool false, .int .u32 0] 34)
  rw [World.size_alloc] at H0
  have kl := BL0.out.cell
  go_enter Tryz.func74, Tryz.ntmps74
  go_wp2_with fail
  refine bodyPost_ret (v := .tuple #[.agg #[.slice A s.length n, .slice B c.length m, .int .i64 f, .bool x, .int .i64 b.n, .int .u64 b.c, .int .u64 b.b, .int .u64 b.o, .int .u64 b.p, .bool b.i, .bool b.r, .bool b.d, .int .u32 k], .int .i64 0]) (by simp [results, Tryz.results74, go_sem]) rfl ⟨rfl, ?_⟩
  exact below2

set_option maxRecDepth 100000 in
set_option maxHeartbeats 4000000 in
theorem rzsave_yes (A B : Option Addr) (n m : Nat) (s : List ByteArray) (c : List Wr) (f : Int) (x : Bool) (b : Sup) (k : Nat) (k2 : Nat) (w : World) (hk : k2 ≠ k) (R : Ans) (he : R.e = 0) (hR : ∀ v, Below w.heap.size w v → Calls Tryz.prog 105 #[.agg #[.slice A s.length n, .slice B c.length m, .int .i64 f, .bool x], .int .u32 k2] v (GivesD R.s R.c R.f R.x R.e v)) :
    Calls Tryz.prog 74 #[.agg #[.slice A s.length n, .slice B c.length m, .int .i64 f, .bool x, .int .i64 b.n, .int .u64 b.c, .int .u64 b.b, .int .u64 b.o, .int .u64 b.p, .bool b.i, .bool b.r, .bool b.d, .int .u32 k], .int .u32 k2] w fun e w' => ∃ A1 B1 n1 m1, e = .returned (.tuple #[.agg #[.slice A1 R.s.length n1, .slice B1 R.c.length m1, .int .i64 R.f, .bool R.x, .int .i64 b.n, .int .u64 b.c, .int .u64 b.b, .int .u64 b.o, .int .u64 b.p, .bool b.i, .bool b.r, .bool b.d, .int .u32 k2], .int .i64 R.e]) ∧ Mem w' A1 n1 B1 m1 R.s R.c ∧ Below w.heap.size w w' := by
  have hkk : ((k2 : Int) == (k : Int)) = false := by rw [beq_eq_false_iff_ne]; omega
  clear hk
  obtain ⟨s1, c1, f1, x1, e1⟩ := R
  dsimp only at *
  subst he
  have HR := Lib.hid hR; clear hR
  have H0 := Lib.hid (((Held.refl w).own [.slice A s.length n, .slice B c.length m, .int .i64 f, .bool x, .int .i64 b.n, .int .u64 b.c, .int .u64 b.b, .int .u64 b.o, .int .u64 b.p, .bool b.i, .bool b.r, .bool b.d, .int .u32 k] 34 (n := 13) rfl).own [.slice none 0 0, .slice none 0 0, .int .i64 0, .bool false, .int .i64 0, .int .u64 0, .int .u64 0, .int .u64 0, .int .u64 0, .bool false, .bool false, .bool false, .int .u32 0] 34 (n := 13) rfl)
  have BL0 := Lib.hid ((Box.new w [.slice A s.length n, .slice B c.length m, .int .i64 f, .bool x, .int .i64 b.n, .int .u64 b.c, .int .u64 b.b, .int .u64 b.o, .int .u64 b.p, .bool b.i, .bool b.r, .bool b.d, .int .u32 k] 34).alloc (.cells ([.slice none 0 0, .slice none 0 0, .int .i64 0, .bool false, .int .i64 0, .int .u64 0, .int .u64 0, .int .u64 0, .int .u64 0, .bool false, .bool false, .bool false, .int .u32 0] : List Value).toArray 34))
  have BR0 := Lib.hid (Box.new2 w (.cells ([.slice A s.length n, .slice B c.length m, .int .i64 f, .bool x, .int .i64 b.n, .int .u64 b.c, .int .u64 b.b, .int .u64 b.o, .int .u64 b.p, .bool b.i, .bool b.r, .bool b.d, .int .u32 k] : List Value).toArray 34) [.slice none 0 0, .slice none 0 0, .int .i64 0, .bool false, .int .i64 0, .int .u64 0, .int .u64 0, .int .u64 0, .int .u64 0, .bool false, .bool false, .bool false, .int .u32 0] 34)
  rw [World.size_alloc] at H0
  have kl := BL0.out.cell
  go_enter Tryz.func74, Tryz.ntmps74
  go_wp2_with fail
  refine (HR.out _ H0.out.below).mono ?_
  rintro e w1 ⟨A1, B1, n1, m1, rfl, hm1, hb⟩
  have hm1 := Lib.hid hm1
  have H1 := Lib.hid (H0.out.up hb)
  have BL1 := Lib.hid (BL0.out.below hb)
  have BR1 := Lib.hid (BR0.out.below hb)
  clear hb kl H0 BL0 BR0
  have kl := BL1.out.cell
  have fl := BL1.out.frozen
  have hlt := BL1.out.lt
  have hlt2 := BR1.out.lt
  go_upto_region 4 with fail
  have hm2 := Lib.hid (hm1.out.up (below1 (o := .cells ([.slice A1 s1.length n1, .slice B1 c1.length m1, .int .i64 f1, .bool x1] : List Value).toArray 25)))
  have BD2 := Lib.hid (Box.new w1 [.slice A1 s1.length n1, .slice B1 c1.length m1, .int .i64 f1, .bool x1] 25)
  have hb : Below w1.heap.size w1 (w1.alloc (.cells ([.slice A1 s1.length n1, .slice B1 c1.length m1, .int .i64 f1, .bool x1] : List Value).toArray 25)) := below1
  have H2 := Lib.hid (H1.out.up hb)
  have BL2 := Lib.hid (BL1.out.below hb)
  have BR2 := Lib.hid (BR1.out.below hb)
  have hd := BD2.out.lt
  generalize w1.alloc (.cells #[.slice A1 s1.length n1, .slice B1 c1.length m1, .int .i64 f1, .bool x1] 25) = w2 at *
  clear hb hm1 kl fl H1 BL1 BR1
  have kd := BD2.out.cell
  have kl := BL2.out.cell
  have fl := BL2.out.frozen
  go_upto_region 5 with fail
  have hm3 := Lib.hid (hm2.out.setL [.slice A1 s1.length n1, .slice B1 c1.length m1, .int .i64 f1, .bool x1] 0 BL2.out (noText_st s.length c.length f x b k A n B m) (noText_four A1 B1 s1.length n1 c1.length m1 f1 x1))
  have BL3 := Lib.hid (show Box _ w.heap.size [.slice A1 s1.length n1, .slice B1 c1.length m1, .int .i64 f1, .bool x1, .int .i64 b.n, .int .u64 b.c, .int .u64 b.b, .int .u64 b.o, .int .u64 b.p, .bool b.i, .bool b.r, .bool b.d, .int .u32 k] from BL2.out.setL [.slice A1 s1.length n1, .slice B1 c1.length m1, .int .i64 f1, .bool x1] 0)
  have BR3 := Lib.hid (BR2.out.setO (b := w.heap.size) (by omega) [.slice A1 s1.length n1, .slice B1 c1.length m1, .int .i64 f1, .bool x1] 0)
  have H3 := Lib.hid (H2.out.setL (b := w.heap.size) ⟨13, by simp⟩ [.slice A1 s1.length n1, .slice B1 c1.length m1, .int .i64 f1, .bool x1] 0)
  generalize hW3 : setL w2 w.heap.size 0 [.slice A1 s1.length n1, .slice B1 c1.length m1, .int .i64 f1, .bool x1] = w3 at *
  simp only [setL, Nat.zero_add, Nat.reduceAdd] at hW3
  simp only [hW3]
  clear hW3 kd kl fl hm2 BD2 H2 BL2 BR2 hd hlt hlt2
  have kl := BL3.out.cell
  have fl := BL3.out.frozen
  go_upto_region 7 with fail
  have hm4 := Lib.hid (hm3.out.setL [.int .u32 k2] 12 BL3.out (noText_st s1.length c1.length f1 x1 b k A1 n1 B1 m1) (noText_nil.cons (by intro t q; cases q)))
  have BL4 := Lib.hid (show Box _ w.heap.size [.slice A1 s1.length n1, .slice B1 c1.length m1, .int .i64 f1, .bool x1, .int .i64 b.n, .int .u64 b.c, .int .u64 b.b, .int .u64 b.o, .int .u64 b.p, .bool b.i, .bool b.r, .bool b.d, .int .u32 k2] from BL3.out.setL [.int .u32 k2] 12)
  have BR4 := Lib.hid (BR3.out.setO (b := w.heap.size) (by omega) [.int .u32 k2] 12)
  have H4 := Lib.hid (H3.out.setL (b := w.heap.size) ⟨13, by simp⟩ [.int .u32 k2] 12)
  generalize hW4 : setL w3 w.heap.size 12 [.int .u32 k2] = w4 at *
  simp only [setL] at hW4
  simp only [hW4]
  clear hW4 kl fl hm3 H3 BL3 BR3
  have kl := BL4.out.cell
  have kr := BR4.out.cell
  have fr := BR4.out.frozen
  go_wp2_with fail
  refine bodyPost_ret (v := .tuple #[.agg #[.slice A1 s1.length n1, .slice B1 c1.length m1, .int .i64 f1, .bool x1, .int .i64 b.n, .int .u64 b.c, .int .u64 b.b, .int .u64 b.o, .int .u64 b.p, .bool b.i, .bool b.r, .bool b.d, .int .u32 k2], .int .i64 0]) (by simp [results, Tryz.results74, go_sem, kr]) rfl ?_
  exact ⟨A1, B1, n1, m1, rfl, hm4.out.setL [.slice A1 s1.length n1, .slice B1 c1.length m1, .int .i64 f1, .bool x1, .int .i64 b.n, .int .u64 b.c, .int .u64 b.b, .int .u64 b.o, .int .u64 b.p, .bool b.i, .bool b.r, .bool b.d, .int .u32 k2] 0 BR4.out (noText_st 0 0 0 false Sup.zero 0 none 0 none 0) (noText_st s1.length c1.length f1 x1 b k2 A1 n1 B1 m1), (H4.out.setL (b := w.heap.size + 1) ⟨13, by simp⟩ [.slice A1 s1.length n1, .slice B1 c1.length m1, .int .i64 f1, .bool x1, .int .i64 b.n, .int .u64 b.c, .int .u64 b.b, .int .u64 b.o, .int .u64 b.p, .bool b.i, .bool b.r, .bool b.d, .int .u32 k2] 0).below⟩

set_option maxRecDepth 100000 in
set_option maxHeartbeats 4000000 in
theorem rzsave_no (A B : Option Addr) (n m : Nat) (s : List ByteArray) (c : List Wr) (f : Int) (x : Bool) (b : Sup) (k : Nat) (k2 : Nat) (w : World) (hk : k2 ≠ k) (R : Ans) (he : R.e ≠ 0) (hR : ∀ v, Below w.heap.size w v → Calls Tryz.prog 105 #[.agg #[.slice A s.length n, .slice B c.length m, .int .i64 f, .bool x], .int .u32 k2] v (GivesD R.s R.c R.f R.x R.e v)) :
    Calls Tryz.prog 74 #[.agg #[.slice A s.length n, .slice B c.length m, .int .i64 f, .bool x, .int .i64 b.n, .int .u64 b.c, .int .u64 b.b, .int .u64 b.o, .int .u64 b.p, .bool b.i, .bool b.r, .bool b.d, .int .u32 k], .int .u32 k2] w fun e w' => ∃ A1 B1 n1 m1, e = .returned (.tuple #[.agg #[.slice A1 R.s.length n1, .slice B1 R.c.length m1, .int .i64 R.f, .bool R.x, .int .i64 b.n, .int .u64 b.c, .int .u64 b.b, .int .u64 b.o, .int .u64 b.p, .bool b.i, .bool b.r, .bool b.d, .int .u32 k], .int .i64 R.e]) ∧ Mem w' A1 n1 B1 m1 R.s R.c ∧ Below w.heap.size w w' := by
  have hkk : ((k2 : Int) == (k : Int)) = false := by rw [beq_eq_false_iff_ne]; omega
  clear hk
  obtain ⟨s1, c1, f1, x1, e1⟩ := R
  dsimp only at *
  have hne : (e1 == 0) = false := beq_eq_false_iff_ne.2 he
  clear he
  have HR := Lib.hid hR; clear hR
  have H0 := Lib.hid (((Held.refl w).own [.slice A s.length n, .slice B c.length m, .int .i64 f, .bool x, .int .i64 b.n, .int .u64 b.c, .int .u64 b.b, .int .u64 b.o, .int .u64 b.p, .bool b.i, .bool b.r, .bool b.d, .int .u32 k] 34 (n := 13) rfl).own [.slice none 0 0, .slice none 0 0, .int .i64 0, .bool false, .int .i64 0, .int .u64 0, .int .u64 0, .int .u64 0, .int .u64 0, .bool false, .bool false, .bool false, .int .u32 0] 34 (n := 13) rfl)
  have BL0 := Lib.hid ((Box.new w [.slice A s.length n, .slice B c.length m, .int .i64 f, .bool x, .int .i64 b.n, .int .u64 b.c, .int .u64 b.b, .int .u64 b.o, .int .u64 b.p, .bool b.i, .bool b.r, .bool b.d, .int .u32 k] 34).alloc (.cells ([.slice none 0 0, .slice none 0 0, .int .i64 0, .bool false, .int .i64 0, .int .u64 0, .int .u64 0, .int .u64 0, .int .u64 0, .bool false, .bool false, .bool false, .int .u32 0] : List Value).toArray 34))
  have BR0 := Lib.hid (Box.new2 w (.cells ([.slice A s.length n, .slice B c.length m, .int .i64 f, .bool x, .int .i64 b.n, .int .u64 b.c, .int .u64 b.b, .int .u64 b.o, .int .u64 b.p, .bool b.i, .bool b.r, .bool b.d, .int .u32 k] : List Value).toArray 34) [.slice none 0 0, .slice none 0 0, .int .i64 0, .bool false, .int .i64 0, .int .u64 0, .int .u64 0, .int .u64 0, .int .u64 0, .bool false, .bool false, .bool false, .int .u32 0] 34)
  rw [World.size_alloc] at H0
  have kl := BL0.out.cell
  go_enter Tryz.func74, Tryz.ntmps74
  go_wp2_with fail
  refine (HR.out _ H0.out.below).mono ?_
  rintro e w1 ⟨A1, B1, n1, m1, rfl, hm1, hb⟩
  have hm1 := Lib.hid hm1
  have H1 := Lib.hid (H0.out.up hb)
  have BL1 := Lib.hid (BL0.out.below hb)
  have BR1 := Lib.hid (BR0.out.below hb)
  clear hb kl H0 BL0 BR0
  have kl := BL1.out.cell
  have fl := BL1.out.frozen
  have hlt := BL1.out.lt
  have hlt2 := BR1.out.lt
  go_upto_region 4 with fail
  have hm2 := Lib.hid (hm1.out.up (below1 (o := .cells ([.slice A1 s1.length n1, .slice B1 c1.length m1, .int .i64 f1, .bool x1] : List Value).toArray 25)))
  have BD2 := Lib.hid (Box.new w1 [.slice A1 s1.length n1, .slice B1 c1.length m1, .int .i64 f1, .bool x1] 25)
  have hb : Below w1.heap.size w1 (w1.alloc (.cells ([.slice A1 s1.length n1, .slice B1 c1.length m1, .int .i64 f1, .bool x1] : List Value).toArray 25)) := below1
  have H2 := Lib.hid (H1.out.up hb)
  have BL2 := Lib.hid (BL1.out.below hb)
  have BR2 := Lib.hid (BR1.out.below hb)
  have hd := BD2.out.lt
  generalize w1.alloc (.cells #[.slice A1 s1.length n1, .slice B1 c1.length m1, .int .i64 f1, .bool x1] 25) = w2 at *
  clear hb hm1 kl fl H1 BL1 BR1
  have kd := BD2.out.cell
  have kl := BL2.out.cell
  have fl := BL2.out.frozen
  go_upto_region 5 with fail
  have hm3 := Lib.hid (hm2.out.setL [.slice A1 s1.length n1, .slice B1 c1.length m1, .int .i64 f1, .bool x1] 0 BL2.out (noText_st s.length c.length f x b k A n B m) (noText_four A1 B1 s1.length n1 c1.length m1 f1 x1))
  have BL3 := Lib.hid (show Box _ w.heap.size [.slice A1 s1.length n1, .slice B1 c1.length m1, .int .i64 f1, .bool x1, .int .i64 b.n, .int .u64 b.c, .int .u64 b.b, .int .u64 b.o, .int .u64 b.p, .bool b.i, .bool b.r, .bool b.d, .int .u32 k] from BL2.out.setL [.slice A1 s1.length n1, .slice B1 c1.length m1, .int .i64 f1, .bool x1] 0)
  have BR3 := Lib.hid (BR2.out.setO (b := w.heap.size) (by omega) [.slice A1 s1.length n1, .slice B1 c1.length m1, .int .i64 f1, .bool x1] 0)
  have H3 := Lib.hid (H2.out.setL (b := w.heap.size) ⟨13, by simp⟩ [.slice A1 s1.length n1, .slice B1 c1.length m1, .int .i64 f1, .bool x1] 0)
  generalize hW3 : setL w2 w.heap.size 0 [.slice A1 s1.length n1, .slice B1 c1.length m1, .int .i64 f1, .bool x1] = w3 at *
  simp only [setL, Nat.zero_add, Nat.reduceAdd] at hW3
  simp only [hW3]
  clear hW3 kd kl fl hm2 BD2 H2 BL2 BR2 hd hlt hlt2
  go_upto_region 7 with fail
  have kl := BL3.out.cell
  have kr := BR3.out.cell
  have fr := BR3.out.frozen
  go_wp2_with fail
  refine bodyPost_ret (v := .tuple #[.agg #[.slice A1 s1.length n1, .slice B1 c1.length m1, .int .i64 f1, .bool x1, .int .i64 b.n, .int .u64 b.c, .int .u64 b.b, .int .u64 b.o, .int .u64 b.p, .bool b.i, .bool b.r, .bool b.d, .int .u32 k], .int .i64 e1]) (by simp [results, Tryz.results74, go_sem, kr]) rfl ?_
  exact ⟨A1, B1, n1, m1, rfl, hm3.out.setL [.slice A1 s1.length n1, .slice B1 c1.length m1, .int .i64 f1, .bool x1, .int .i64 b.n, .int .u64 b.c, .int .u64 b.b, .int .u64 b.o, .int .u64 b.p, .bool b.i, .bool b.r, .bool b.d, .int .u32 k] 0 BR3.out (noText_st 0 0 0 false Sup.zero 0 none 0 none 0) (noText_st s1.length c1.length f1 x1 b k A1 n1 B1 m1), (H3.out.setL (b := w.heap.size + 1) ⟨13, by simp⟩ [.slice A1 s1.length n1, .slice B1 c1.length m1, .int .i64 f1, .bool x1, .int .i64 b.n, .int .u64 b.c, .int .u64 b.b, .int .u64 b.o, .int .u64 b.p, .bool b.i, .bool b.r, .bool b.d, .int .u32 k] 0).below⟩

end Go.Proofs.YtjkgellkkjjnbaaGreatDoor
