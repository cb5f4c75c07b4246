/- Stores: what the code's has, remask, Read, Put, Commit, Attach and Same answer, over what they call, for every disk within what they ask. -/
import Derived.Test.YtjkgellkkjjnbaaGreatDoorZC
namespace Go.Proofs.YtjkgellkkjjnbaaGreatDoor
open Go.RowKit

set_option maxRecDepth 100000 in
set_option maxHeartbeats 4000000 in
theorem zread_any (A B : Option Addr) (n m : Nat) (s : List ByteArray) (c : List Wr) (f : Int) (x : Bool) (b : Sup) (k : Nat) (i : Int) (w : World) (hm : Mem w A n B m s c) (hF : Fit s c f) : Calls Tryz.prog 25 #[.agg #[.slice A s.length n, .slice B c.length m, .int .i64 f, .bool x, .int .i64 b.n, .int .u64 b.c, .int .u64 b.b, .int .u64 b.o, .int .u64 b.p, .bool b.i, .bool b.r, .bool b.d, .int .u32 k], .int .i64 i] w fun e w' => e = .returned (.tuple #[.string (readA s c x i).1, .int .i64 (readA s c x i).2]) ∧ Below w.heap.size w w' := by
  have HR := Lib.hid (fun (v : World) (hb : Below w.heap.size w v) => aread_any A B n m s c f x i v (hm.up hb) hF.l64 (by have := hF.c9; omega))
  generalize readA s c x i = R at *
  have H0 := Lib.hid ((Held.refl w).lay [.slice A s.length n, .slice B c.length m, .int .i64 f, .bool x, .int .i64 b.n, .int .u64 b.c, .int .u64 b.b, .int .u64 b.o, .int .u64 b.p, .bool b.i, .bool b.r, .bool b.d, .int .u32 k] 34)
  have kl := H0.out.b0.cell
  go_enter Tryz.func25, Tryz.ntmps25
  go_wp2_with fail
  refine (HR.out _ H0.out.below).mono ?_
  rintro e w1 ⟨rfl, hb⟩
  have H1 := Lib.hid (H0.out.up hb)
  clear hb kl H0
  go_wp2_with fail
  go_ret2
  exact ⟨rfl, H1.out.below⟩

set_option maxRecDepth 100000 in
set_option maxHeartbeats 4000000 in
theorem zput_at (A B : Option Addr) (n m : Nat) (s : List ByteArray) (c : List Wr) (f : Int) (x : Bool) (b : Sup) (k : Nat) (i : Int) (d : ByteArray) (w : World) (R : Ans) (hR : ∀ v, Below w.heap.size w v → Calls Tryz.prog 49 #[.agg #[.slice A s.length n, .slice B c.length m, .int .i64 f, .bool x], .int .i64 i, .string d] v (GivesD R.s R.c R.f R.x R.e v)) :
    Calls Tryz.prog 24 #[.agg #[.slice A s.length n, .slice B c.length m, .int .i64 f, .bool x, .int .i64 b.n, .int .u64 b.c, .int .u64 b.b, .int .u64 b.o, .int .u64 b.p, .bool b.i, .bool b.r, .bool b.d, .int .u32 k], .int .i64 i, .string d] w fun e w' => ∃ A1 B1 n1 m1, e = .returned (.tuple #[.agg #[.slice A1 R.s.length n1, .slice B1 R.c.length m1, .int .i64 R.f, .bool R.x, .int .i64 b.n, .int .u64 b.c, .int .u64 b.b, .int .u64 b.o, .int .u64 b.p, .bool b.i, .bool b.r, .bool b.d, .int .u32 k], .int .i64 R.e]) ∧ Mem w' A1 n1 B1 m1 R.s R.c ∧ Below w.heap.size w w' := by
  obtain ⟨s1, c1, f1, x1, e1⟩ := R
  dsimp only at *
  have HR := Lib.hid hR; clear hR
  have H0 := Lib.hid (((Held.refl w).own [.slice A s.length n, .slice B c.length m, .int .i64 f, .bool x, .int .i64 b.n, .int .u64 b.c, .int .u64 b.b, .int .u64 b.o, .int .u64 b.p, .bool b.i, .bool b.r, .bool b.d, .int .u32 k] 34 (n := 13) rfl).own [.slice none 0 0, .slice none 0 0, .int .i64 0, .bool false, .int .i64 0, .int .u64 0, .int .u64 0, .int .u64 0, .int .u64 0, .bool false, .bool false, .bool false, .int .u32 0] 34 (n := 13) rfl)
  have BL0 := Lib.hid ((Box.new w [.slice A s.length n, .slice B c.length m, .int .i64 f, .bool x, .int .i64 b.n, .int .u64 b.c, .int .u64 b.b, .int .u64 b.o, .int .u64 b.p, .bool b.i, .bool b.r, .bool b.d, .int .u32 k] 34).alloc (.cells ([.slice none 0 0, .slice none 0 0, .int .i64 0, .bool false, .int .i64 0, .int .u64 0, .int .u64 0, .int .u64 0, .int .u64 0, .bool false, .bool false, .bool false, .int .u32 0] : List Value).toArray 34))
  have BR0 := Lib.hid (Box.new2 w (.cells ([.slice A s.length n, .slice B c.length m, .int .i64 f, .bool x, .int .i64 b.n, .int .u64 b.c, .int .u64 b.b, .int .u64 b.o, .int .u64 b.p, .bool b.i, .bool b.r, .bool b.d, .int .u32 k] : List Value).toArray 34) [.slice none 0 0, .slice none 0 0, .int .i64 0, .bool false, .int .i64 0, .int .u64 0, .int .u64 0, .int .u64 0, .int .u64 0, .bool false, .bool false, .bool false, .int .u32 0] 34)
  rw [World.size_alloc] at H0
  have kl := BL0.out.cell
  go_enter Tryz.func24, Tryz.ntmps24
  go_wp2_with fail
  refine (HR.out _ H0.out.below).mono ?_
  rintro e w1 ⟨A1, B1, n1, m1, rfl, hm1, hb⟩
  have hm1 := Lib.hid hm1
  have H1 := Lib.hid (H0.out.up hb)
  have BL1 := Lib.hid (BL0.out.below hb)
  have BR1 := Lib.hid (BR0.out.below hb)
  clear hb kl H0 BL0 BR0
  have kl := BL1.out.cell
  have fl := BL1.out.frozen
  have hlt := BL1.out.lt
  have hlt2 := BR1.out.lt
  go_upto_region 2 with fail
  have hm2 := Lib.hid (hm1.out.up (below1 (o := .cells ([.slice A1 s1.length n1, .slice B1 c1.length m1, .int .i64 f1, .bool x1] : List Value).toArray 25)))
  have BD2 := Lib.hid (Box.new w1 [.slice A1 s1.length n1, .slice B1 c1.length m1, .int .i64 f1, .bool x1] 25)
  have hb : Below w1.heap.size w1 (w1.alloc (.cells ([.slice A1 s1.length n1, .slice B1 c1.length m1, .int .i64 f1, .bool x1] : List Value).toArray 25)) := below1
  have H2 := Lib.hid (H1.out.up hb)
  have BL2 := Lib.hid (BL1.out.below hb)
  have BR2 := Lib.hid (BR1.out.below hb)
  have hd := BD2.out.lt
  generalize w1.alloc (.cells #[.slice A1 s1.length n1, .slice B1 c1.length m1, .int .i64 f1, .bool x1] 25) = w2 at *
  clear hb hm1 kl fl H1 BL1 BR1
  have kd := BD2.out.cell
  have kl := BL2.out.cell
  have fl := BL2.out.frozen
  go_upto_region 3 with fail
  have hm3 := Lib.hid (hm2.out.setL [.slice A1 s1.length n1, .slice B1 c1.length m1, .int .i64 f1, .bool x1] 0 BL2.out (noText_st s.length c.length f x b k A n B m) (noText_four A1 B1 s1.length n1 c1.length m1 f1 x1))
  have BL3 := Lib.hid (show Box _ w.heap.size [.slice A1 s1.length n1, .slice B1 c1.length m1, .int .i64 f1, .bool x1, .int .i64 b.n, .int .u64 b.c, .int .u64 b.b, .int .u64 b.o, .int .u64 b.p, .bool b.i, .bool b.r, .bool b.d, .int .u32 k] from BL2.out.setL [.slice A1 s1.length n1, .slice B1 c1.length m1, .int .i64 f1, .bool x1] 0)
  have BR3 := Lib.hid (BR2.out.setO (b := w.heap.size) (by omega) [.slice A1 s1.length n1, .slice B1 c1.length m1, .int .i64 f1, .bool x1] 0)
  have H3 := Lib.hid (H2.out.setL (b := w.heap.size) ⟨13, by simp⟩ [.slice A1 s1.length n1, .slice B1 c1.length m1, .int .i64 f1, .bool x1] 0)
  generalize hW3 : setL w2 w.heap.size 0 [.slice A1 s1.length n1, .slice B1 c1.length m1, .int .i64 f1, .bool x1] = w3 at *
  simp only [setL, Nat.zero_add, Nat.reduceAdd] at hW3
  simp only [hW3]
  clear hW3 kd kl fl hm2 BD2 H2 BL2 BR2 hd hlt hlt2
  have kl := BL3.out.cell
  have kr := BR3.out.cell
  have fr := BR3.out.frozen
  go_wp2_with fail
  refine bodyPost_ret (v := .tuple #[.agg #[.slice A1 s1.length n1, .slice B1 c1.length m1, .int .i64 f1, .bool x1, .int .i64 b.n, .int .u64 b.c, .int .u64 b.b, .int .u64 b.o, .int .u64 b.p, .bool b.i, .bool b.r, .bool b.d, .int .u32 k], .int .i64 e1]) (by simp [results, Tryz.results24, go_sem, kr]) rfl ?_
  exact ⟨A1, B1, n1, m1, rfl, hm3.out.setL [.slice A1 s1.length n1, .slice B1 c1.length m1, .int .i64 f1, .bool x1, .int .i64 b.n, .int .u64 b.c, .int .u64 b.b, .int .u64 b.o, .int .u64 b.p, .bool b.i, .bool b.r, .bool b.d, .int .u32 k] 0 BR3.out (noText_st 0 0 0 false Sup.zero 0 none 0 none 0) (noText_st s1.length c1.length f1 x1 b k A1 n1 B1 m1), (H3.out.setL (b := w.heap.size + 1) ⟨13, by simp⟩ [.slice A1 s1.length n1, .slice B1 c1.length m1, .int .i64 f1, .bool x1, .int .i64 b.n, .int .u64 b.c, .int .u64 b.b, .int .u64 b.o, .int .u64 b.p, .bool b.i, .bool b.r, .bool b.d, .int .u32 k] 0).below⟩

set_option maxRecDepth 100000 in
set_option maxHeartbeats 4000000 in
theorem zcommit_same (A B : Option Addr) (n m : Nat) (s : List ByteArray) (c : List Wr) (f : Int) (x : Bool) (b : Sup) (k : Nat) (q : Sup) (w : World) (hq : q.same b = true) : Calls Tryz.prog 26 #[.agg #[.slice A s.length n, .slice B c.length m, .int .i64 f, .bool x, .int .i64 b.n, .int .u64 b.c, .int .u64 b.b, .int .u64 b.o, .int .u64 b.p, .bool b.i, .bool b.r, .bool b.d, .int .u32 k], .agg #[.int .i64 q.n, .int .u64 q.c, .int .u64 q.b, .int .u64 q.o, .int .u64 q.p, .bool q.i, .bool q.r, .bool q.d]] w fun e w' => e = .returned (.tuple #[.agg #[.slice A s.length n, .slice B c.length m, .int .i64 f, .bool x, .int .i64 b.n, .int .u64 b.c, .int .u64 b.b, .int .u64 b.o, .int .u64 b.p, .bool b.i, .bool b.r, .bool b.d, .int .u32 k], .int .i64 0]) ∧ Below w.heap.size w w' := by
  have hs := fun w => sup_eql q b w
  rw [hq] at hs
  clear hq
  have H0 := Lib.hid ((((Held.refl w).own [.slice A s.length n, .slice B c.length m, .int .i64 f, .bool x, .int .i64 b.n, .int .u64 b.c, .int .u64 b.b, .int .u64 b.o, .int .u64 b.p, .bool b.i, .bool b.r, .bool b.d, .int .u32 k] 34 (n := 13) rfl).lay [.int .i64 q.n, .int .u64 q.c, .int .u64 q.b, .int .u64 q.o, .int .u64 q.p, .bool q.i, .bool q.r, .bool q.d] 31).own [.slice none 0 0, .slice none 0 0, .int .i64 0, .bool false, .int .i64 0, .int .u64 0, .int .u64 0, .int .u64 0, .int .u64 0, .bool false, .bool false, .bool false, .int .u32 0] 34 (n := 13) rfl)
  have BL0 := Lib.hid (((Box.new w [.slice A s.length n, .slice B c.length m, .int .i64 f, .bool x, .int .i64 b.n, .int .u64 b.c, .int .u64 b.b, .int .u64 b.o, .int .u64 b.p, .bool b.i, .bool b.r, .bool b.d, .int .u32 k] 34).alloc (.cells ([.int .i64 q.n, .int .u64 q.c, .int .u64 q.b, .int .u64 q.o, .int .u64 q.p, .bool q.i, .bool q.r, .bool q.d] : List Value).toArray 31)).alloc (.cells ([.slice none 0 0, .slice none 0 0, .int .i64 0, .bool false, .int .i64 0, .int .u64 0, .int .u64 0, .int .u64 0, .int .u64 0, .bool false, .bool false, .bool false, .int .u32 0] : List Value).toArray 34))
  have BR0 := Lib.hid (Box.new ((w.alloc (.cells ([.slice A s.length n, .slice B c.length m, .int .i64 f, .bool x, .int .i64 b.n, .int .u64 b.c, .int .u64 b.b, .int .u64 b.o, .int .u64 b.p, .bool b.i, .bool b.r, .bool b.d, .int .u32 k] : List Value).toArray 34)).alloc (.cells ([.int .i64 q.n, .int .u64 q.c, .int .u64 q.b, .int .u64 q.o, .int .u64 q.p, .bool q.i, .bool q.r, .bool q.d] : List Value).toArray 31)) [.slice none 0 0, .slice none 0 0, .int .i64 0, .bool false, .int .i64 0, .int .u64 0, .int .u64 0, .int .u64 0, .int .u64 0, .bool false, .bool false, .bool false, .int .u32 0] 34)
  simp only [World.size_alloc] at H0 BR0
  have kl := BL0.out.cell
  have ks := H0.out.b0.cell
  go_enter Tryz.func26, Tryz.ntmps26
  go_wp2_with fail
  refine bodyPost_ret (v := .tuple #[.agg #[.slice A s.length n, .slice B c.length m, .int .i64 f, .bool x, .int .i64 b.n, .int .u64 b.c, .int .u64 b.b, .int .u64 b.o, .int .u64 b.p, .bool b.i, .bool b.r, .bool b.d, .int .u32 k], .int .i64 0]) (by simp [results, Tryz.results26, go_sem]) rfl ⟨rfl, ?_⟩
  exact ext_alloc below2 _

set_option maxRecDepth 100000 in
set_option maxHeartbeats 4000000 in
theorem zcommit_yes (A B : Option Addr) (n m : Nat) (s : List ByteArray) (c : List Wr) (f : Int) (x : Bool) (b : Sup) (k : Nat) (q : Sup) (w : World) (hq : q.same b = false) (R : Ans) (he : R.e = 0) (hR : ∀ v, Below w.heap.size w v → Calls Tryz.prog 51 #[.agg #[.slice A s.length n, .slice B c.length m, .int .i64 f, .bool x], .agg #[.int .i64 q.n, .int .u64 q.c, .int .u64 q.b, .int .u64 q.o, .int .u64 q.p, .bool q.i, .bool q.r, .bool q.d]] v (GivesD R.s R.c R.f R.x R.e v)) :
    Calls Tryz.prog 26 #[.agg #[.slice A s.length n, .slice B c.length m, .int .i64 f, .bool x, .int .i64 b.n, .int .u64 b.c, .int .u64 b.b, .int .u64 b.o, .int .u64 b.p, .bool b.i, .bool b.r, .bool b.d, .int .u32 k], .agg #[.int .i64 q.n, .int .u64 q.c, .int .u64 q.b, .int .u64 q.o, .int .u64 q.p, .bool q.i, .bool q.r, .bool q.d]] w fun e w' => ∃ A1 B1 n1 m1, e = .returned (.tuple #[.agg #[.slice A1 R.s.length n1, .slice B1 R.c.length m1, .int .i64 R.f, .bool R.x, .int .i64 q.n, .int .u64 q.c, .int .u64 q.b, .int .u64 q.o, .int .u64 q.p, .bool q.i, .bool q.r, .bool q.d, .int .u32 k], .int .i64 R.e]) ∧ Mem w' A1 n1 B1 m1 R.s R.c ∧ Below w.heap.size w w' := by
  have hs := fun w => sup_eql q b w
  rw [hq] at hs
  clear hq
  obtain ⟨s1, c1, f1, x1, e1⟩ := R
  dsimp only at *
  subst he
  have HR := Lib.hid hR; clear hR
  have H0 := Lib.hid ((((Held.refl w).own [.slice A s.length n, .slice B c.length m, .int .i64 f, .bool x, .int .i64 b.n, .int .u64 b.c, .int .u64 b.b, .int .u64 b.o, .int .u64 b.p, .bool b.i, .bool b.r, .bool b.d, .int .u32 k] 34 (n := 13) rfl).lay [.int .i64 q.n, .int .u64 q.c, .int .u64 q.b, .int .u64 q.o, .int .u64 q.p, .bool q.i, .bool q.r, .bool q.d] 31).own [.slice none 0 0, .slice none 0 0, .int .i64 0, .bool false, .int .i64 0, .int .u64 0, .int .u64 0, .int .u64 0, .int .u64 0, .bool false, .bool false, .bool false, .int .u32 0] 34 (n := 13) rfl)
  have BL0 := Lib.hid (((Box.new w [.slice A s.length n, .slice B c.length m, .int .i64 f, .bool x, .int .i64 b.n, .int .u64 b.c, .int .u64 b.b, .int .u64 b.o, .int .u64 b.p, .bool b.i, .bool b.r, .bool b.d, .int .u32 k] 34).alloc (.cells ([.int .i64 q.n, .int .u64 q.c, .int .u64 q.b, .int .u64 q.o, .int .u64 q.p, .bool q.i, .bool q.r, .bool q.d] : List Value).toArray 31)).alloc (.cells ([.slice none 0 0, .slice none 0 0, .int .i64 0, .bool false, .int .i64 0, .int .u64 0, .int .u64 0, .int .u64 0, .int .u64 0, .bool false, .bool false, .bool false, .int .u32 0] : List Value).toArray 34))
  have BR0 := Lib.hid (Box.new ((w.alloc (.cells ([.slice A s.length n, .slice B c.length m, .int .i64 f, .bool x, .int .i64 b.n, .int .u64 b.c, .int .u64 b.b, .int .u64 b.o, .int .u64 b.p, .bool b.i, .bool b.r, .bool b.d, .int .u32 k] : List Value).toArray 34)).alloc (.cells ([.int .i64 q.n, .int .u64 q.c, .int .u64 q.b, .int .u64 q.o, .int .u64 q.p, .bool q.i, .bool q.r, .bool q.d] : List Value).toArray 31)) [.slice none 0 0, .slice none 0 0, .int .i64 0, .bool false, .int .i64 0, .int .u64 0, .int .u64 0, .int .u64 0, .int .u64 0, .bool false, .bool false, .bool false, .int .u32 0] 34)
  simp only [World.size_alloc] at H0 BR0
  have kl := BL0.out.cell
  have ks := H0.out.b0.cell
  go_enter Tryz.func26, Tryz.ntmps26
  go_wp2_with fail
  refine (HR.out _ H0.out.below).mono ?_
  rintro e w1 ⟨A1, B1, n1, m1, rfl, hm1, hb⟩
  have hm1 := Lib.hid hm1
  have H1 := Lib.hid (H0.out.up hb)
  have BL1 := Lib.hid (BL0.out.below hb)
  have BR1 := Lib.hid (BR0.out.below hb)
  clear hb kl ks hs H0 BL0 BR0
  have kl := BL1.out.cell
  have fl := BL1.out.frozen
  have hlt := BL1.out.lt
  have hlt2 := BR1.out.lt
  go_upto_region 4 with fail
  have hm2 := Lib.hid (hm1.out.up (below1 (o := .cells ([.slice A1 s1.length n1, .slice B1 c1.length m1, .int .i64 f1, .bool x1] : List Value).toArray 25)))
  have BD2 := Lib.hid (Box.new w1 [.slice A1 s1.length n1, .slice B1 c1.length m1, .int .i64 f1, .bool x1] 25)
  have hb : Below w1.heap.size w1 (w1.alloc (.cells ([.slice A1 s1.length n1, .slice B1 c1.length m1, .int .i64 f1, .bool x1] : List Value).toArray 25)) := below1
  have H2 := Lib.hid (H1.out.up hb)
  have BL2 := Lib.hid (BL1.out.below hb)
  have BR2 := Lib.hid (BR1.out.below hb)
  have hd := BD2.out.lt
  generalize w1.alloc (.cells #[.slice A1 s1.length n1, .slice B1 c1.length m1, .int .i64 f1, .bool x1] 25) = w2 at *
  clear hb hm1 kl fl H1 BL1 BR1
  have kd := BD2.out.cell
  have kl := BL2.out.cell
  have fl := BL2.out.frozen
  go_upto_region 5 with fail
  have hm3 := Lib.hid (hm2.out.setL [.slice A1 s1.length n1, .slice B1 c1.length m1, .int .i64 f1, .bool x1] 0 BL2.out (noText_st s.length c.length f x b k A n B m) (noText_four A1 B1 s1.length n1 c1.length m1 f1 x1))
  have BL3 := Lib.hid (show Box _ w.heap.size [.slice A1 s1.length n1, .slice B1 c1.length m1, .int .i64 f1, .bool x1, .int .i64 b.n, .int .u64 b.c, .int .u64 b.b, .int .u64 b.o, .int .u64 b.p, .bool b.i, .bool b.r, .bool b.d, .int .u32 k] from BL2.out.setL [.slice A1 s1.length n1, .slice B1 c1.length m1, .int .i64 f1, .bool x1] 0)
  have BR3 := Lib.hid (BR2.out.setO (b := w.heap.size) (by omega) [.slice A1 s1.length n1, .slice B1 c1.length m1, .int .i64 f1, .bool x1] 0)
  have H3 := Lib.hid (H2.out.setL (b := w.heap.size) ⟨13, by simp⟩ [.slice A1 s1.length n1, .slice B1 c1.length m1, .int .i64 f1, .bool x1] 0)
  generalize hW3 : setL w2 w.heap.size 0 [.slice A1 s1.length n1, .slice B1 c1.length m1, .int .i64 f1, .bool x1] = w3 at *
  simp only [setL, Nat.zero_add, Nat.reduceAdd] at hW3
  simp only [hW3]
  clear hW3 kd kl fl hm2 BD2 H2 BL2 BR2 hd hlt hlt2
  have ks := H3.out.b0.cell
  have kl := BL3.out.cell
  have fl := BL3.out.frozen
  go_upto_region 7 with fail
  have hm4 := Lib.hid (hm3.out.setL [.int .i64 q.n, .int .u64 q.c, .int .u64 q.b, .int .u64 q.o, .int .u64 q.p, .bool q.i, .bool q.r, .bool q.d] 4 BL3.out (noText_st s1.length c1.length f1 x1 b k A1 n1 B1 m1) (noText_sup q))
  have BL4 := Lib.hid (show Box _ w.heap.size [.slice A1 s1.length n1, .slice B1 c1.length m1, .int .i64 f1, .bool x1, .int .i64 q.n, .int .u64 q.c, .int .u64 q.b, .int .u64 q.o, .int .u64 q.p, .bool q.i, .bool q.r, .bool q.d, .int .u32 k] from BL3.out.setL [.int .i64 q.n, .int .u64 q.c, .int .u64 q.b, .int .u64 q.o, .int .u64 q.p, .bool q.i, .bool q.r, .bool q.d] 4)
  have BR4 := Lib.hid (BR3.out.setO (b := w.heap.size) (by omega) [.int .i64 q.n, .int .u64 q.c, .int .u64 q.b, .int .u64 q.o, .int .u64 q.p, .bool q.i, .bool q.r, .bool q.d] 4)
  have H4 := Lib.hid (H3.out.setL (b := w.heap.size) ⟨13, by simp⟩ [.int .i64 q.n, .int .u64 q.c, .int .u64 q.b, .int .u64 q.o, .int .u64 q.p, .bool q.i, .bool q.r, .bool q.d] 4)
  generalize hW4 : setL w3 w.heap.size 4 [.int .i64 q.n, .int .u64 q.c, .int .u64 q.b, .int .u64 q.o, .int .u64 q.p, .bool q.i, .bool q.r, .bool q.d] = w4 at *
  simp only [setL, Nat.reduceAdd] at hW4
  simp only [hW4]
  clear hW4 ks kl fl hm3 H3 BL3 BR3
  have kl := BL4.out.cell
  have kr := BR4.out.cell
  have fr := BR4.out.frozen
  go_wp2_with fail
  refine bodyPost_ret (v := .tuple #[.agg #[.slice A1 s1.length n1, .slice B1 c1.length m1, .int .i64 f1, .bool x1, .int .i64 q.n, .int .u64 q.c, .int .u64 q.b, .int .u64 q.o, .int .u64 q.p, .bool q.i, .bool q.r, .bool q.d, .int .u32 k], .int .i64 0]) (by simp [results, Tryz.results26, go_sem, kr]) rfl ?_
  exact ⟨A1, B1, n1, m1, rfl, hm4.out.setL [.slice A1 s1.length n1, .slice B1 c1.length m1, .int .i64 f1, .bool x1, .int .i64 q.n, .int .u64 q.c, .int .u64 q.b, .int .u64 q.o, .int .u64 q.p, .bool q.i, .bool q.r, .bool q.d, .int .u32 k] 0 BR4.out (noText_st 0 0 0 false Sup.zero 0 none 0 none 0) (noText_st s1.length c1.length f1 x1 q k A1 n1 B1 m1), (H4.out.setL (b := w.heap.size + 2) ⟨13, by simp⟩ [.slice A1 s1.length n1, .slice B1 c1.length m1, .int .i64 f1, .bool x1, .int .i64 q.n, .int .u64 q.c, .int .u64 q.b, .int .u64 q.o, .int .u64 q.p, .bool q.i, .bool q.r, .bool q.d, .int .u32 k] 0).below⟩

set_option maxRecDepth 100000 in
set_option maxHeartbeats 4000000 in
theorem zcommit_no (A B : Option Addr) (n m : Nat) (s : List ByteArray) (c : List Wr) (f : Int) (x : Bool) (b : Sup) (k : Nat) (q : Sup) (w : World) (hq : q.same b = false) (R : Ans) (he : R.e ≠ 0) (hR : ∀ v, Below w.heap.size w v → Calls Tryz.prog 51 #[.agg #[.slice A s.length n, .slice B c.length m, .int .i64 f, .bool x], .agg #[.int .i64 q.n, .int .u64 q.c, .int .u64 q.b, .int .u64 q.o, .int .u64 q.p, .bool q.i, .bool q.r, .bool q.d]] v (GivesD R.s R.c R.f R.x R.e v)) :
    Calls Tryz.prog 26 #[.agg #[.slice A s.length n, .slice B c.length m, .int .i64 f, .bool x, .int .i64 b.n, .int .u64 b.c, .int .u64 b.b, .int .u64 b.o, .int .u64 b.p, .bool b.i, .bool b.r, .bool b.d, .int .u32 k], .agg #[.int .i64 q.n, .int .u64 q.c, .int .u64 q.b, .int .u64 q.o, .int .u64 q.p, .bool q.i, .bool q.r, .bool q.d]] w fun e w' => ∃ A1 B1 n1 m1, e = .returned (.tuple #[.agg #[.slice A1 R.s.length n1, .slice B1 R.c.length m1, .int .i64 R.f, .bool R.x, .int .i64 b.n, .int .u64 b.c, .int .u64 b.b, .int .u64 b.o, .int .u64 b.p, .bool b.i, .bool b.r, .bool b.d, .int .u32 k], .int .i64 R.e]) ∧ Mem w' A1 n1 B1 m1 R.s R.c ∧ Below w.heap.size w w' := by
  have hs := fun w => sup_eql q b w
  rw [hq] at hs
  clear hq
  obtain ⟨s1, c1, f1, x1, e1⟩ := R
  dsimp only at *
  have hne : (e1 == 0) = false := beq_eq_false_iff_ne.2 he
  clear he
  have HR := Lib.hid hR; clear hR
  have H0 := Lib.hid ((((Held.refl w).own [.slice A s.length n, .slice B c.length m, .int .i64 f, .bool x, .int .i64 b.n, .int .u64 b.c, .int .u64 b.b, .int .u64 b.o, .int .u64 b.p, .bool b.i, .bool b.r, .bool b.d, .int .u32 k] 34 (n := 13) rfl).lay [.int .i64 q.n, .int .u64 q.c, .int .u64 q.b, .int .u64 q.o, .int .u64 q.p, .bool q.i, .bool q.r, .bool q.d] 31).own [.slice none 0 0, .slice none 0 0, .int .i64 0, .bool false, .int .i64 0, .int .u64 0, .int .u64 0, .int .u64 0, .int .u64 0, .bool false, .bool false, .bool false, .int .u32 0] 34 (n := 13) rfl)
  have BL0 := Lib.hid (((Box.new w [.slice A s.length n, .slice B c.length m, .int .i64 f, .bool x, .int .i64 b.n, .int .u64 b.c, .int .u64 b.b, .int .u64 b.o, .int .u64 b.p, .bool b.i, .bool b.r, .bool b.d, .int .u32 k] 34).alloc (.cells ([.int .i64 q.n, .int .u64 q.c, .int .u64 q.b, .int .u64 q.o, .int .u64 q.p, .bool q.i, .bool q.r, .bool q.d] : List Value).toArray 31)).alloc (.cells ([.slice none 0 0, .slice none 0 0, .int .i64 0, .bool false, .int .i64 0, .int .u64 0, .int .u64 0, .int .u64 0, .int .u64 0, .bool false, .bool false, .bool false, .int .u32 0] : List Value).toArray 34))
  have BR0 := Lib.hid (Box.new ((w.alloc (.cells ([.slice A s.length n, .slice B c.length m, .int .i64 f, .bool x, .int .i64 b.n, .int .u64 b.c, .int .u64 b.b, .int .u64 b.o, .int .u64 b.p, .bool b.i, .bool b.r, .bool b.d, .int .u32 k] : List Value).toArray 34)).alloc (.cells ([.int .i64 q.n, .int .u64 q.c, .int .u64 q.b, .int .u64 q.o, .int .u64 q.p, .bool q.i, .bool q.r, .bool q.d] : List Value).toArray 31)) [.slice none 0 0, .slice none 0 0, .int .i64 0, .bool false, .int .i64 0, .int .u64 0, .int .u64 0, .int .u64 0, .int .u64 0, .bool false, .bool false, .bool false, .int .u32 0] 34)
  simp only [World.size_alloc] at H0 BR0
  have kl := BL0.out.cell
  have ks := H0.out.b0.cell
  go_enter Tryz.func26, Tryz.ntmps26
  go_wp2_with fail
  refine (HR.out _ H0.out.below).mono ?_
  rintro e w1 ⟨A1, B1, n1, m1, rfl, hm1, hb⟩
  have hm1 := Lib.hid hm1
  have H1 := Lib.hid (H0.out.up hb)
  have BL1 := Lib.hid (BL0.out.below hb)
  have BR1 := Lib.hid (BR0.out.below hb)
  clear hb kl ks hs H0 BL0 BR0
  have kl := BL1.out.cell
  have fl := BL1.out.frozen
  have hlt := BL1.out.lt
  have hlt2 := BR1.out.lt
  go_upto_region 4 with fail
  have hm2 := Lib.hid (hm1.out.up (below1 (o := .cells ([.slice A1 s1.length n1, .slice B1 c1.length m1, .int .i64 f1, .bool x1] : List Value).toArray 25)))
  have BD2 := Lib.hid (Box.new w1 [.slice A1 s1.length n1, .slice B1 c1.length m1, .int .i64 f1, .bool x1] 25)
  have hb : Below w1.heap.size w1 (w1.alloc (.cells ([.slice A1 s1.length n1, .slice B1 c1.length m1, .int .i64 f1, .bool x1] : List Value).toArray 25)) := below1
  have H2 := Lib.hid (H1.out.up hb)
  have BL2 := Lib.hid (BL1.out.below hb)
  have BR2 := Lib.hid (BR1.out.below hb)
  have hd := BD2.out.lt
  generalize w1.alloc (.cells #[.slice A1 s1.length n1, .slice B1 c1.length m1, .int .i64 f1, .bool x1] 25) = w2 at *
  clear hb hm1 kl fl H1 BL1 BR1
  have kd := BD2.out.cell
  have kl := BL2.out.cell
  have fl := BL2.out.frozen
  go_upto_region 5 with fail
  have hm3 := Lib.hid (hm2.out.setL [.slice A1 s1.length n1, .slice B1 c1.length m1, .int .i64 f1, .bool x1] 0 BL2.out (noText_st s.length c.length f x b k A n B m) (noText_four A1 B1 s1.length n1 c1.length m1 f1 x1))
  have BL3 := Lib.hid (show Box _ w.heap.size [.slice A1 s1.length n1, .slice B1 c1.length m1, .int .i64 f1, .bool x1, .int .i64 b.n, .int .u64 b.c, .int .u64 b.b, .int .u64 b.o, .int .u64 b.p, .bool b.i, .bool b.r, .bool b.d, .int .u32 k] from BL2.out.setL [.slice A1 s1.length n1, .slice B1 c1.length m1, .int .i64 f1, .bool x1] 0)
  have BR3 := Lib.hid (BR2.out.setO (b := w.heap.size) (by omega) [.slice A1 s1.length n1, .slice B1 c1.length m1, .int .i64 f1, .bool x1] 0)
  have H3 := Lib.hid (H2.out.setL (b := w.heap.size) ⟨13, by simp⟩ [.slice A1 s1.length n1, .slice B1 c1.length m1, .int .i64 f1, .bool x1] 0)
  generalize hW3 : setL w2 w.heap.size 0 [.slice A1 s1.length n1, .slice B1 c1.length m1, .int .i64 f1, .bool x1] = w3 at *
  simp only [setL, Nat.zero_add, Nat.reduceAdd] at hW3
  simp only [hW3]
  clear hW3 kd kl fl hm2 BD2 H2 BL2 BR2 hd hlt hlt2
  go_upto_region 7 with fail
  have kl := BL3.out.cell
  have kr := BR3.out.cell
  have fr := BR3.out.frozen
  go_wp2_with fail
  refine bodyPost_ret (v := .tuple #[.agg #[.slice A1 s1.length n1, .slice B1 c1.length m1, .int .i64 f1, .bool x1, .int .i64 b.n, .int .u64 b.c, .int .u64 b.b, .int .u64 b.o, .int .u64 b.p, .bool b.i, .bool b.r, .bool b.d, .int .u32 k], .int .i64 e1]) (by simp [results, Tryz.results26, go_sem, kr]) rfl ?_
  exact ⟨A1, B1, n1, m1, rfl, hm3.out.setL [.slice A1 s1.length n1, .slice B1 c1.length m1, .int .i64 f1, .bool x1, .int .i64 b.n, .int .u64 b.c, .int .u64 b.b, .int .u64 b.o, .int .u64 b.p, .bool b.i, .bool b.r, .bool b.d, .int .u32 k] 0 BR3.out (noText_st 0 0 0 false Sup.zero 0 none 0 none 0) (noText_st s1.length c1.length f1 x1 b k A1 n1 B1 m1), (H3.out.setL (b := w.heap.size + 2) ⟨13, by simp⟩ [.slice A1 s1.length n1, .slice B1 c1.length m1, .int .i64 f1, .bool x1, .int .i64 b.n, .int .u64 b.c, .int .u64 b.b, .int .u64 b.o, .int .u64 b.p, .bool b.i, .bool b.r, .bool b.d, .int .u32 k] 0).below⟩

set_option maxRecDepth 100000 in
set_option maxHeartbeats 4000000 in
theorem zattach_bad1 (A B : Option Addr) (n m : Nat) (s : List ByteArray) (c : List Wr) (f : Int) (x : Bool) (b : Sup) (e1 : Int) (w : World) (hR1 : (∀ v, Below w.heap.size w v → Calls Tryz.prog 28 #[.agg #[.slice A s.length n, .slice B c.length m, .int .i64 f, .bool x]] v fun e v' => e = .returned (.tuple #[.agg #[.int .i64 b.n, .int .u64 b.c, .int .u64 b.b, .int .u64 b.o, .int .u64 b.p, .bool b.i, .bool b.r, .bool b.d], .int .i64 e1]) ∧ Below v.heap.size v v')) (h1 : e1 ≠ 0) :
    Calls Tryz.prog 10 #[.agg #[.slice A s.length n, .slice B c.length m, .int .i64 f, .bool x]] w fun e w' => e = .returned (.tuple #[.agg #[.slice none 0 0, .slice none 0 0, .int .i64 0, .bool false, .int .i64 0, .int .u64 0, .int .u64 0, .int .u64 0, .int .u64 0, .bool false, .bool false, .bool false, .int .u32 0], .int .i64 e1]) ∧ Below w.heap.size w w' := by
  have HR1 := Lib.hid hR1; clear hR1
  have hne : (e1 == 0) = false := beq_eq_false_iff_ne.2 h1
  have hnb : (e1 != 0) = true := by simp [bne, hne]
  clear h1
  have H0 := Lib.hid (((Held.refl w).lay [.slice A s.length n, .slice B c.length m, .int .i64 f, .bool x] 25).own [.slice none 0 0, .slice none 0 0, .int .i64 0, .bool false, .int .i64 0, .int .u64 0, .int .u64 0, .int .u64 0, .int .u64 0, .bool false, .bool false, .bool false, .int .u32 0] 34 (n := 13) rfl)
  have BR0 := Lib.hid (Box.new2 w (.cells ([.slice A s.length n, .slice B c.length m, .int .i64 f, .bool x] : List Value).toArray 25) [.slice none 0 0, .slice none 0 0, .int .i64 0, .bool false, .int .i64 0, .int .u64 0, .int .u64 0, .int .u64 0, .int .u64 0, .bool false, .bool false, .bool false, .int .u32 0] 34)
  rw [World.size_alloc] at H0
  have kd := ((Box.new w [.slice A s.length n, .slice B c.length m, .int .i64 f, .bool x] 25).alloc (.cells ([.slice none 0 0, .slice none 0 0, .int .i64 0, .bool false, .int .i64 0, .int .u64 0, .int .u64 0, .int .u64 0, .int .u64 0, .bool false, .bool false, .bool false, .int .u32 0] : List Value).toArray 34)).cell
  go_enter Tryz.func10, Tryz.ntmps10
  go_wp2_with fail
  refine (HR1.out _ H0.out.below).mono ?_
  rintro e w1 ⟨rfl, hb⟩
  have H1 := Lib.hid (H0.out.up hb)
  have BR1 := Lib.hid (BR0.out.below hb)
  have hlt := BR1.out.lt
  clear hb kd H0 BR0
  go_upto_region 2 with fail
  have BS2 := Lib.hid (Box.new w1 [.int .i64 b.n, .int .u64 b.c, .int .u64 b.b, .int .u64 b.o, .int .u64 b.p, .bool b.i, .bool b.r, .bool b.d] 31)
  have hb : Below w1.heap.size w1 (w1.alloc (.cells ([.int .i64 b.n, .int .u64 b.c, .int .u64 b.b, .int .u64 b.o, .int .u64 b.p, .bool b.i, .bool b.r, .bool b.d] : List Value).toArray 31)) := below1
  have H2 := Lib.hid (H1.out.up hb)
  have BR2 := Lib.hid (BR1.out.below hb)
  generalize w1.alloc (.cells #[.int .i64 b.n, .int .u64 b.c, .int .u64 b.b, .int .u64 b.o, .int .u64 b.p, .bool b.i, .bool b.r, .bool b.d] 31) = w2 at *
  clear hb H1 BR1
  have kr := BR2.out.cell
  have fr := BR2.out.frozen
  go_wp2_with fail
  refine bodyPost_ret (v := .tuple #[.agg #[.slice none 0 0, .slice none 0 0, .int .i64 0, .bool false, .int .i64 0, .int .u64 0, .int .u64 0, .int .u64 0, .int .u64 0, .bool false, .bool false, .bool false, .int .u32 0], .int .i64 e1]) (by simp [results, Tryz.results10, go_sem, kr]) rfl ⟨rfl, ?_⟩
  exact (H2.out.setL (b := w.heap.size + 1) ⟨13, by simp⟩ [.slice none 0 0, .slice none 0 0, .int .i64 0, .bool false, .int .i64 0, .int .u64 0, .int .u64 0, .int .u64 0, .int .u64 0, .bool false, .bool false, .bool false, .int .u32 0] 0).below

set_option maxRecDepth 100000 in
set_option maxHeartbeats 4000000 in
theorem zattach_bad2 (A B : Option Addr) (n m : Nat) (s : List ByteArray) (c : List Wr) (f : Int) (x : Bool) (b : Sup) (k : Nat) (e1 e2 : Int) (w : World) (hR1 : (∀ v, Below w.heap.size w v → Calls Tryz.prog 28 #[.agg #[.slice A s.length n, .slice B c.length m, .int .i64 f, .bool x]] v fun e v' => e = .returned (.tuple #[.agg #[.int .i64 b.n, .int .u64 b.c, .int .u64 b.b, .int .u64 b.o, .int .u64 b.p, .bool b.i, .bool b.r, .bool b.d], .int .i64 e1]) ∧ Below v.heap.size v v')) (hR2 : (∀ v, Below w.heap.size w v → Calls Tryz.prog 29 #[.agg #[.slice A s.length n, .slice B c.length m, .int .i64 f, .bool x]] v fun e v' => e = .returned (.tuple #[.int .u32 k, .int .i64 e2]) ∧ Below v.heap.size v v')) (h1 : e1 = 0) (h2 : e2 ≠ 0) :
    Calls Tryz.prog 10 #[.agg #[.slice A s.length n, .slice B c.length m, .int .i64 f, .bool x]] w fun e w' => e = .returned (.tuple #[.agg #[.slice none 0 0, .slice none 0 0, .int .i64 0, .bool false, .int .i64 0, .int .u64 0, .int .u64 0, .int .u64 0, .int .u64 0, .bool false, .bool false, .bool false, .int .u32 0], .int .i64 e2]) ∧ Below w.heap.size w w' := by
  have HR1 := Lib.hid hR1; clear hR1
  subst h1
  have HR2 := Lib.hid hR2; clear hR2
  have hne : (e2 == 0) = false := beq_eq_false_iff_ne.2 h2
  have hnb : (e2 != 0) = true := by simp [bne, hne]
  clear h2
  have H0 := Lib.hid (((Held.refl w).lay [.slice A s.length n, .slice B c.length m, .int .i64 f, .bool x] 25).own [.slice none 0 0, .slice none 0 0, .int .i64 0, .bool false, .int .i64 0, .int .u64 0, .int .u64 0, .int .u64 0, .int .u64 0, .bool false, .bool false, .bool false, .int .u32 0] 34 (n := 13) rfl)
  have BR0 := Lib.hid (Box.new2 w (.cells ([.slice A s.length n, .slice B c.length m, .int .i64 f, .bool x] : List Value).toArray 25) [.slice none 0 0, .slice none 0 0, .int .i64 0, .bool false, .int .i64 0, .int .u64 0, .int .u64 0, .int .u64 0, .int .u64 0, .bool false, .bool false, .bool false, .int .u32 0] 34)
  rw [World.size_alloc] at H0
  have kd := ((Box.new w [.slice A s.length n, .slice B c.length m, .int .i64 f, .bool x] 25).alloc (.cells ([.slice none 0 0, .slice none 0 0, .int .i64 0, .bool false, .int .i64 0, .int .u64 0, .int .u64 0, .int .u64 0, .int .u64 0, .bool false, .bool false, .bool false, .int .u32 0] : List Value).toArray 34)).cell
  go_enter Tryz.func10, Tryz.ntmps10
  go_wp2_with fail
  refine (HR1.out _ H0.out.below).mono ?_
  rintro e w1 ⟨rfl, hb⟩
  have H1 := Lib.hid (H0.out.up hb)
  have BR1 := Lib.hid (BR0.out.below hb)
  have hlt := BR1.out.lt
  clear hb kd H0 BR0
  go_upto_region 2 with fail
  have BS2 := Lib.hid (Box.new w1 [.int .i64 b.n, .int .u64 b.c, .int .u64 b.b, .int .u64 b.o, .int .u64 b.p, .bool b.i, .bool b.r, .bool b.d] 31)
  have hb : Below w1.heap.size w1 (w1.alloc (.cells ([.int .i64 b.n, .int .u64 b.c, .int .u64 b.b, .int .u64 b.o, .int .u64 b.p, .bool b.i, .bool b.r, .bool b.d] : List Value).toArray 31)) := below1
  have H2 := Lib.hid (H1.out.up hb)
  have BR2 := Lib.hid (BR1.out.below hb)
  generalize w1.alloc (.cells #[.int .i64 b.n, .int .u64 b.c, .int .u64 b.b, .int .u64 b.o, .int .u64 b.p, .bool b.i, .bool b.r, .bool b.d] 31) = w2 at *
  clear hb H1 BR1
  have kd := H2.out.b0.cell
  go_wp2_with fail
  refine (HR2.out _ H2.out.below).mono ?_
  rintro e w3 ⟨rfl, hb⟩
  have H3 := Lib.hid (H2.out.up hb)
  have BR3 := Lib.hid (BR2.out.below hb)
  have BS3 := Lib.hid (BS2.out.below hb)
  clear hb kd H2 BR2 BS2
  have kr := BR3.out.cell
  have fr := BR3.out.frozen
  go_wp2_with fail
  refine bodyPost_ret (v := .tuple #[.agg #[.slice none 0 0, .slice none 0 0, .int .i64 0, .bool false, .int .i64 0, .int .u64 0, .int .u64 0, .int .u64 0, .int .u64 0, .bool false, .bool false, .bool false, .int .u32 0], .int .i64 e2]) (by simp [results, Tryz.results10, go_sem, kr]) rfl ⟨rfl, ?_⟩
  exact (H3.out.setL (b := w.heap.size + 1) ⟨13, by simp⟩ [.slice none 0 0, .slice none 0 0, .int .i64 0, .bool false, .int .i64 0, .int .u64 0, .int .u64 0, .int .u64 0, .int .u64 0, .bool false, .bool false, .bool false, .int .u32 0] 0).below

set_option maxRecDepth 100000 in
set_option maxHeartbeats 4000000 in
theorem zattach_bad3 (A B : Option Addr) (n m : Nat) (s : List ByteArray) (c : List Wr) (f : Int) (x : Bool) (b : Sup) (k : Nat) (e1 e2 e3 : Int) (l : List ByteArray) (w : World) (hR1 : (∀ v, Below w.heap.size w v → Calls Tryz.prog 28 #[.agg #[.slice A s.length n, .slice B c.length m, .int .i64 f, .bool x]] v fun e v' => e = .returned (.tuple #[.agg #[.int .i64 b.n, .int .u64 b.c, .int .u64 b.b, .int .u64 b.o, .int .u64 b.p, .bool b.i, .bool b.r, .bool b.d], .int .i64 e1]) ∧ Below v.heap.size v v')) (hR2 : (∀ v, Below w.heap.size w v → Calls Tryz.prog 29 #[.agg #[.slice A s.length n, .slice B c.length m, .int .i64 f, .bool x]] v fun e v' => e = .returned (.tuple #[.int .u32 k, .int .i64 e2]) ∧ Below v.heap.size v v')) (hR3 : (∀ v, Below w.heap.size w v → Calls Tryz.prog 30 #[.agg #[.slice A s.length n, .slice B c.length m, .int .i64 f, .bool x]] v (GivesT l e3 v))) (h1 : e1 = 0) (h2 : e2 = 0) (h3 : e3 ≠ 0) :
    Calls Tryz.prog 10 #[.agg #[.slice A s.length n, .slice B c.length m, .int .i64 f, .bool x]] w fun e w' => e = .returned (.tuple #[.agg #[.slice none 0 0, .slice none 0 0, .int .i64 0, .bool false, .int .i64 0, .int .u64 0, .int .u64 0, .int .u64 0, .int .u64 0, .bool false, .bool false, .bool false, .int .u32 0], .int .i64 e3]) ∧ Below w.heap.size w w' := by
  have HR1 := Lib.hid hR1; clear hR1
  subst h1
  have HR2 := Lib.hid hR2; clear hR2
  subst h2
  have HR3 := Lib.hid hR3; clear hR3
  have hne : (e3 == 0) = false := beq_eq_false_iff_ne.2 h3
  have hnb : (e3 != 0) = true := by simp [bne, hne]
  clear h3
  have H0 := Lib.hid (((Held.refl w).lay [.slice A s.length n, .slice B c.length m, .int .i64 f, .bool x] 25).own [.slice none 0 0, .slice none 0 0, .int .i64 0, .bool false, .int .i64 0, .int .u64 0, .int .u64 0, .int .u64 0, .int .u64 0, .bool false, .bool false, .bool false, .int .u32 0] 34 (n := 13) rfl)
  have BR0 := Lib.hid (Box.new2 w (.cells ([.slice A s.length n, .slice B c.length m, .int .i64 f, .bool x] : List Value).toArray 25) [.slice none 0 0, .slice none 0 0, .int .i64 0, .bool false, .int .i64 0, .int .u64 0, .int .u64 0, .int .u64 0, .int .u64 0, .bool false, .bool false, .bool false, .int .u32 0] 34)
  rw [World.size_alloc] at H0
  have kd := ((Box.new w [.slice A s.length n, .slice B c.length m, .int .i64 f, .bool x] 25).alloc (.cells ([.slice none 0 0, .slice none 0 0, .int .i64 0, .bool false, .int .i64 0, .int .u64 0, .int .u64 0, .int .u64 0, .int .u64 0, .bool false, .bool false, .bool false, .int .u32 0] : List Value).toArray 34)).cell
  go_enter Tryz.func10, Tryz.ntmps10
  go_wp2_with fail
  refine (HR1.out _ H0.out.below).mono ?_
  rintro e w1 ⟨rfl, hb⟩
  have H1 := Lib.hid (H0.out.up hb)
  have BR1 := Lib.hid (BR0.out.below hb)
  have hlt := BR1.out.lt
  clear hb kd H0 BR0
  go_upto_region 2 with fail
  have BS2 := Lib.hid (Box.new w1 [.int .i64 b.n, .int .u64 b.c, .int .u64 b.b, .int .u64 b.o, .int .u64 b.p, .bool b.i, .bool b.r, .bool b.d] 31)
  have hb : Below w1.heap.size w1 (w1.alloc (.cells ([.int .i64 b.n, .int .u64 b.c, .int .u64 b.b, .int .u64 b.o, .int .u64 b.p, .bool b.i, .bool b.r, .bool b.d] : List Value).toArray 31)) := below1
  have H2 := Lib.hid (H1.out.up hb)
  have BR2 := Lib.hid (BR1.out.below hb)
  generalize w1.alloc (.cells #[.int .i64 b.n, .int .u64 b.c, .int .u64 b.b, .int .u64 b.o, .int .u64 b.p, .bool b.i, .bool b.r, .bool b.d] 31) = w2 at *
  clear hb H1 BR1
  have kd := H2.out.b0.cell
  go_wp2_with fail
  refine (HR2.out _ H2.out.below).mono ?_
  rintro e w3 ⟨rfl, hb⟩
  have H3 := Lib.hid (H2.out.up hb)
  have BR3 := Lib.hid (BR2.out.below hb)
  have BS3 := Lib.hid (BS2.out.below hb)
  clear hb kd H2 BR2 BS2
  have kd := H3.out.b0.cell
  go_wp2_with fail
  refine (HR3.out _ H3.out.below).mono ?_
  rintro e w4 ⟨A9, n9, rfl, _, hb⟩
  have H4 := Lib.hid (H3.out.up hb)
  have BR4 := Lib.hid (BR3.out.below hb)
  have BS4 := Lib.hid (BS3.out.below hb)
  clear hb kd H3 BR3 BS3
  have kr := BR4.out.cell
  have fr := BR4.out.frozen
  go_wp2_with fail
  refine bodyPost_ret (v := .tuple #[.agg #[.slice none 0 0, .slice none 0 0, .int .i64 0, .bool false, .int .i64 0, .int .u64 0, .int .u64 0, .int .u64 0, .int .u64 0, .bool false, .bool false, .bool false, .int .u32 0], .int .i64 e3]) (by simp [results, Tryz.results10, go_sem, kr]) rfl ⟨rfl, ?_⟩
  exact (H4.out.setL (b := w.heap.size + 1) ⟨13, by simp⟩ [.slice none 0 0, .slice none 0 0, .int .i64 0, .bool false, .int .i64 0, .int .u64 0, .int .u64 0, .int .u64 0, .int .u64 0, .bool false, .bool false, .bool false, .int .u32 0] 0).below

set_option maxRecDepth 100000 in
set_option maxHeartbeats 4000000 in
theorem zattach_yes (A B : Option Addr) (n m : Nat) (s : List ByteArray) (c : List Wr) (f : Int) (x : Bool) (b : Sup) (k : Nat) (e1 e2 e3 : Int) (l : List ByteArray) (w : World) (hR1 : (∀ v, Below w.heap.size w v → Calls Tryz.prog 28 #[.agg #[.slice A s.length n, .slice B c.length m, .int .i64 f, .bool x]] v fun e v' => e = .returned (.tuple #[.agg #[.int .i64 b.n, .int .u64 b.c, .int .u64 b.b, .int .u64 b.o, .int .u64 b.p, .bool b.i, .bool b.r, .bool b.d], .int .i64 e1]) ∧ Below v.heap.size v v')) (hR2 : (∀ v, Below w.heap.size w v → Calls Tryz.prog 29 #[.agg #[.slice A s.length n, .slice B c.length m, .int .i64 f, .bool x]] v fun e v' => e = .returned (.tuple #[.int .u32 k, .int .i64 e2]) ∧ Below v.heap.size v v')) (hR3 : (∀ v, Below w.heap.size w v → Calls Tryz.prog 30 #[.agg #[.slice A s.length n, .slice B c.length m, .int .i64 f, .bool x]] v (GivesT l e3 v))) (h1 : e1 = 0) (h2 : e2 = 0) (h3 : e3 = 0) :
    Calls Tryz.prog 10 #[.agg #[.slice A s.length n, .slice B c.length m, .int .i64 f, .bool x]] w fun e w' => e = .returned (.tuple #[.agg #[.slice A s.length n, .slice B c.length m, .int .i64 f, .bool x, .int .i64 b.n, .int .u64 b.c, .int .u64 b.b, .int .u64 b.o, .int .u64 b.p, .bool b.i, .bool b.r, .bool b.d, .int .u32 k], .int .i64 0]) ∧ Below w.heap.size w w' := by
  have HR1 := Lib.hid hR1; clear hR1
  subst h1
  have HR2 := Lib.hid hR2; clear hR2
  subst h2
  have HR3 := Lib.hid hR3; clear hR3
  subst h3
  have H0 := Lib.hid (((Held.refl w).lay [.slice A s.length n, .slice B c.length m, .int .i64 f, .bool x] 25).own [.slice none 0 0, .slice none 0 0, .int .i64 0, .bool false, .int .i64 0, .int .u64 0, .int .u64 0, .int .u64 0, .int .u64 0, .bool false, .bool false, .bool false, .int .u32 0] 34 (n := 13) rfl)
  have BR0 := Lib.hid (Box.new2 w (.cells ([.slice A s.length n, .slice B c.length m, .int .i64 f, .bool x] : List Value).toArray 25) [.slice none 0 0, .slice none 0 0, .int .i64 0, .bool false, .int .i64 0, .int .u64 0, .int .u64 0, .int .u64 0, .int .u64 0, .bool false, .bool false, .bool false, .int .u32 0] 34)
  rw [World.size_alloc] at H0
  have kd := ((Box.new w [.slice A s.length n, .slice B c.length m, .int .i64 f, .bool x] 25).alloc (.cells ([.slice none 0 0, .slice none 0 0, .int .i64 0, .bool false, .int .i64 0, .int .u64 0, .int .u64 0, .int .u64 0, .int .u64 0, .bool false, .bool false, .bool false, .int .u32 0] : List Value).toArray 34)).cell
  go_enter Tryz.func10, Tryz.ntmps10
  go_wp2_with fail
  refine (HR1.out _ H0.out.below).mono ?_
  rintro e w1 ⟨rfl, hb⟩
  have H1 := Lib.hid (H0.out.up hb)
  have BR1 := Lib.hid (BR0.out.below hb)
  have hlt := BR1.out.lt
  clear hb kd H0 BR0
  go_upto_region 2 with fail
  have BS2 := Lib.hid (Box.new w1 [.int .i64 b.n, .int .u64 b.c, .int .u64 b.b, .int .u64 b.o, .int .u64 b.p, .bool b.i, .bool b.r, .bool b.d] 31)
  have hb : Below w1.heap.size w1 (w1.alloc (.cells ([.int .i64 b.n, .int .u64 b.c, .int .u64 b.b, .int .u64 b.o, .int .u64 b.p, .bool b.i, .bool b.r, .bool b.d] : List Value).toArray 31)) := below1
  have H2 := Lib.hid (H1.out.up hb)
  have BR2 := Lib.hid (BR1.out.below hb)
  generalize w1.alloc (.cells #[.int .i64 b.n, .int .u64 b.c, .int .u64 b.b, .int .u64 b.o, .int .u64 b.p, .bool b.i, .bool b.r, .bool b.d] 31) = w2 at *
  clear hb H1 BR1
  have kd := H2.out.b0.cell
  go_wp2_with fail
  refine (HR2.out _ H2.out.below).mono ?_
  rintro e w3 ⟨rfl, hb⟩
  have H3 := Lib.hid (H2.out.up hb)
  have BR3 := Lib.hid (BR2.out.below hb)
  have BS3 := Lib.hid (BS2.out.below hb)
  clear hb kd H2 BR2 BS2
  have kd := H3.out.b0.cell
  go_wp2_with fail
  refine (HR3.out _ H3.out.below).mono ?_
  rintro e w4 ⟨A9, n9, rfl, _, hb⟩
  have H4 := Lib.hid (H3.out.up hb)
  have BR4 := Lib.hid (BR3.out.below hb)
  have BS4 := Lib.hid (BS3.out.below hb)
  clear hb kd H3 BR3 BS3
  have kd := H4.out.b0.cell
  have ks := BS4.out.cell
  have kr := BR4.out.cell
  have fr := BR4.out.frozen
  go_wp2_with fail
  refine bodyPost_ret (v := .tuple #[.agg #[.slice A s.length n, .slice B c.length m, .int .i64 f, .bool x, .int .i64 b.n, .int .u64 b.c, .int .u64 b.b, .int .u64 b.o, .int .u64 b.p, .bool b.i, .bool b.r, .bool b.d, .int .u32 k], .int .i64 0]) (by simp [results, Tryz.results10, go_sem, kr]) rfl ⟨rfl, ?_⟩
  exact (H4.out.setL (b := w.heap.size + 1) ⟨13, by simp⟩ [.slice A s.length n, .slice B c.length m, .int .i64 f, .bool x, .int .i64 b.n, .int .u64 b.c, .int .u64 b.b, .int .u64 b.o, .int .u64 b.p, .bool b.i, .bool b.r, .bool b.d, .int .u32 k] 0).below

set_option maxRecDepth 100000 in
set_option maxHeartbeats 4000000 in
theorem zsame_no1 (A B : Option Addr) (n m : Nat) (s : List ByteArray) (c : List Wr) (f : Int) (x : Bool) (b : Sup) (k : Nat) (A2 B2 : Option Addr) (n2 m2 : Nat) (s2 : List ByteArray) (c2 : List Wr) (f2 : Int) (x2 : Bool) (b2 : Sup) (k2 : Nat) (w : World) (hq : sameB s s2 c c2 f f2 x x2 = false)
    (hR : ∀ v, Below w.heap.size w v → Calls Tryz.prog 35 #[.agg #[.slice A s.length n, .slice B c.length m, .int .i64 f, .bool x], .agg #[.slice A2 s2.length n2, .slice B2 c2.length m2, .int .i64 f2, .bool x2]] v fun e v' => e = .returned (.bool (sameB s s2 c c2 f f2 x x2)) ∧ Below v.heap.size v v') :
    Calls Tryz.prog 13 #[.agg #[.slice A s.length n, .slice B c.length m, .int .i64 f, .bool x, .int .i64 b.n, .int .u64 b.c, .int .u64 b.b, .int .u64 b.o, .int .u64 b.p, .bool b.i, .bool b.r, .bool b.d, .int .u32 k], .agg #[.slice A2 s2.length n2, .slice B2 c2.length m2, .int .i64 f2, .bool x2, .int .i64 b2.n, .int .u64 b2.c, .int .u64 b2.b, .int .u64 b2.o, .int .u64 b2.p, .bool b2.i, .bool b2.r, .bool b2.d, .int .u32 k2]] w fun e w' => e = .returned (.bool (sameB s s2 c c2 f f2 x x2 && (b.same b2 && decide (k = k2)))) ∧ Below w.heap.size w w' := by
  rw [hq] at hR ⊢
  clear hq
  have HR := Lib.hid hR; clear hR
  have H0 := Lib.hid (((Held.refl w).lay [.slice A s.length n, .slice B c.length m, .int .i64 f, .bool x, .int .i64 b.n, .int .u64 b.c, .int .u64 b.b, .int .u64 b.o, .int .u64 b.p, .bool b.i, .bool b.r, .bool b.d, .int .u32 k] 34).lay [.slice A2 s2.length n2, .slice B2 c2.length m2, .int .i64 f2, .bool x2, .int .i64 b2.n, .int .u64 b2.c, .int .u64 b2.b, .int .u64 b2.o, .int .u64 b2.p, .bool b2.i, .bool b2.r, .bool b2.d, .int .u32 k2] 34)
  rw [World.size_alloc] at H0
  have k0 := H0.out.b0.cell
  have k1 := H0.out.b1.cell
  go_enter Tryz.func13, Tryz.ntmps13
  go_wp2_with fail
  refine (HR.out _ H0.out.below).mono ?_
  rintro e w1 ⟨rfl, hb⟩
  have H1 := Lib.hid (H0.out.up hb)
  clear hb k0 k1 H0
  have k0 := H1.out.b0.cell
  have k1 := H1.out.b1.cell
  go_wp2_with fail
  go_ret
  exact ⟨ret_bool (by simp), H1.out.below⟩

set_option maxRecDepth 100000 in
set_option maxHeartbeats 4000000 in
theorem zsame_no2 (A B : Option Addr) (n m : Nat) (s : List ByteArray) (c : List Wr) (f : Int) (x : Bool) (b : Sup) (k : Nat) (A2 B2 : Option Addr) (n2 m2 : Nat) (s2 : List ByteArray) (c2 : List Wr) (f2 : Int) (x2 : Bool) (b2 : Sup) (k2 : Nat) (w : World) (hq : sameB s s2 c c2 f f2 x x2 = true) (hs : b.same b2 = false)
    (hR : ∀ v, Below w.heap.size w v → Calls Tryz.prog 35 #[.agg #[.slice A s.length n, .slice B c.length m, .int .i64 f, .bool x], .agg #[.slice A2 s2.length n2, .slice B2 c2.length m2, .int .i64 f2, .bool x2]] v fun e v' => e = .returned (.bool (sameB s s2 c c2 f f2 x x2)) ∧ Below v.heap.size v v') :
    Calls Tryz.prog 13 #[.agg #[.slice A s.length n, .slice B c.length m, .int .i64 f, .bool x, .int .i64 b.n, .int .u64 b.c, .int .u64 b.b, .int .u64 b.o, .int .u64 b.p, .bool b.i, .bool b.r, .bool b.d, .int .u32 k], .agg #[.slice A2 s2.length n2, .slice B2 c2.length m2, .int .i64 f2, .bool x2, .int .i64 b2.n, .int .u64 b2.c, .int .u64 b2.b, .int .u64 b2.o, .int .u64 b2.p, .bool b2.i, .bool b2.r, .bool b2.d, .int .u32 k2]] w fun e w' => e = .returned (.bool (sameB s s2 c c2 f f2 x x2 && (b.same b2 && decide (k = k2)))) ∧ Below w.heap.size w w' := by
  rw [hq] at hR ⊢
  clear hq
  have hse := fun w => sup_eql b b2 w
  rw [hs] at hse ⊢
  clear hs
  have HR := Lib.hid hR; clear hR
  have H0 := Lib.hid (((Held.refl w).lay [.slice A s.length n, .slice B c.length m, .int .i64 f, .bool x, .int .i64 b.n, .int .u64 b.c, .int .u64 b.b, .int .u64 b.o, .int .u64 b.p, .bool b.i, .bool b.r, .bool b.d, .int .u32 k] 34).lay [.slice A2 s2.length n2, .slice B2 c2.length m2, .int .i64 f2, .bool x2, .int .i64 b2.n, .int .u64 b2.c, .int .u64 b2.b, .int .u64 b2.o, .int .u64 b2.p, .bool b2.i, .bool b2.r, .bool b2.d, .int .u32 k2] 34)
  rw [World.size_alloc] at H0
  have k0 := H0.out.b0.cell
  have k1 := H0.out.b1.cell
  go_enter Tryz.func13, Tryz.ntmps13
  go_wp2_with fail
  refine (HR.out _ H0.out.below).mono ?_
  rintro e w1 ⟨rfl, hb⟩
  have H1 := Lib.hid (H0.out.up hb)
  clear hb k0 k1 H0
  have k0 := H1.out.b0.cell
  have k1 := H1.out.b1.cell
  go_wp2_with fail
  go_ret
  exact ⟨ret_bool (by simp), H1.out.below⟩

set_option maxRecDepth 100000 in
set_option maxHeartbeats 4000000 in
theorem zsame_yes (A B : Option Addr) (n m : Nat) (s : List ByteArray) (c : List Wr) (f : Int) (x : Bool) (b : Sup) (k : Nat) (A2 B2 : Option Addr) (n2 m2 : Nat) (s2 : List ByteArray) (c2 : List Wr) (f2 : Int) (x2 : Bool) (b2 : Sup) (k2 : Nat) (w : World) (hq : sameB s s2 c c2 f f2 x x2 = true) (hs : b.same b2 = true)
    (hR : ∀ v, Below w.heap.size w v → Calls Tryz.prog 35 #[.agg #[.slice A s.length n, .slice B c.length m, .int .i64 f, .bool x], .agg #[.slice A2 s2.length n2, .slice B2 c2.length m2, .int .i64 f2, .bool x2]] v fun e v' => e = .returned (.bool (sameB s s2 c c2 f f2 x x2)) ∧ Below v.heap.size v v') :
    Calls Tryz.prog 13 #[.agg #[.slice A s.length n, .slice B c.length m, .int .i64 f, .bool x, .int .i64 b.n, .int .u64 b.c, .int .u64 b.b, .int .u64 b.o, .int .u64 b.p, .bool b.i, .bool b.r, .bool b.d, .int .u32 k], .agg #[.slice A2 s2.length n2, .slice B2 c2.length m2, .int .i64 f2, .bool x2, .int .i64 b2.n, .int .u64 b2.c, .int .u64 b2.b, .int .u64 b2.o, .int .u64 b2.p, .bool b2.i, .bool b2.r, .bool b2.d, .int .u32 k2]] w fun e w' => e = .returned (.bool (sameB s s2 c c2 f f2 x x2 && (b.same b2 && decide (k = k2)))) ∧ Below w.heap.size w w' := by
  rw [hq] at hR ⊢
  clear hq
  have hse := fun w => sup_eql b b2 w
  rw [hs] at hse ⊢
  clear hs
  have hkk : ((k : Int) == (k2 : Int)) = decide (k = k2) := by rw [Bool.beq_eq_decide_eq, decide_eq_decide]; omega
  generalize decide (k = k2) = y at *
  have HR := Lib.hid hR; clear hR
  have H0 := Lib.hid (((Held.refl w).lay [.slice A s.length n, .slice B c.length m, .int .i64 f, .bool x, .int .i64 b.n, .int .u64 b.c, .int .u64 b.b, .int .u64 b.o, .int .u64 b.p, .bool b.i, .bool b.r, .bool b.d, .int .u32 k] 34).lay [.slice A2 s2.length n2, .slice B2 c2.length m2, .int .i64 f2, .bool x2, .int .i64 b2.n, .int .u64 b2.c, .int .u64 b2.b, .int .u64 b2.o, .int .u64 b2.p, .bool b2.i, .bool b2.r, .bool b2.d, .int .u32 k2] 34)
  rw [World.size_alloc] at H0
  have k0 := H0.out.b0.cell
  have k1 := H0.out.b1.cell
  go_enter Tryz.func13, Tryz.ntmps13
  go_wp2_with fail
  refine (HR.out _ H0.out.below).mono ?_
  rintro e w1 ⟨rfl, hb⟩
  have H1 := Lib.hid (H0.out.up hb)
  clear hb k0 k1 H0
  have k0 := H1.out.b0.cell
  have k1 := H1.out.b1.cell
  go_wp2_with fail
  go_ret
  exact ⟨ret_bool (by simp), H1.out.below⟩

theorem out_lt {b : Sup} {i : Int} (s : List ByteArray) (c : List Wr) (f : Int) (x : Bool) (k : Nat) (h0 : 0 ≤ i) : (!(Sto.out ⟨s, c, f, x, b, k⟩ i)) = decide (i < b.n) := by
  unfold Sto.out
  have h1 : ¬ i < 0 := by omega
  by_cases h : i < b.n
  · have h2 : ¬ b.n ≤ i := by omega
    simp [h, h1, h2]
  · have h2 : b.n ≤ i := by omega
    simp [h, h2]
theorem out_neg {b : Sup} {i : Int} (s : List ByteArray) (c : List Wr) (f : Int) (x : Bool) (k : Nat) (h0 : ¬ 0 ≤ i) : (!(Sto.out ⟨s, c, f, x, b, k⟩ i)) = false := by
  unfold Sto.out
  have h1 : i < 0 := by omega
  simp [h1]

set_option maxRecDepth 100000 in
set_option maxHeartbeats 4000000 in
theorem zhas_any (A B : Option Addr) (n m : Nat) (s : List ByteArray) (c : List Wr) (f : Int) (x : Bool) (b : Sup) (k : Nat) (i : Int) (w : World) : Calls Tryz.prog 43 #[.agg #[.slice A s.length n, .slice B c.length m, .int .i64 f, .bool x, .int .i64 b.n, .int .u64 b.c, .int .u64 b.b, .int .u64 b.o, .int .u64 b.p, .bool b.i, .bool b.r, .bool b.d, .int .u32 k], .int .i64 i] w fun e w' => e = .returned (.bool (!(Sto.out ⟨s, c, f, x, b, k⟩ i))) ∧ Below w.heap.size w w' := by
  have H0 := Lib.hid ((Held.refl w).lay [.slice A s.length n, .slice B c.length m, .int .i64 f, .bool x, .int .i64 b.n, .int .u64 b.c, .int .u64 b.b, .int .u64 b.o, .int .u64 b.p, .bool b.i, .bool b.r, .bool b.d, .int .u32 k] 34)
  have k0 := H0.out.b0.cell
  by_cases h0 : 0 ≤ i
  · rw [out_lt s c f x k h0]
    have e0 : decide (0 ≤ i) = true := decide_eq_true h0
    clear h0
    generalize hy : decide (i < b.n) = y
    go_enter Tryz.func43, Tryz.ntmps43
    go_wp2_with fail
    go_ret
    exact ⟨rfl, H0.out.below⟩
  · rw [out_neg s c f x k h0]
    have e0 : decide (0 ≤ i) = false := decide_eq_false h0
    clear h0
    go_enter Tryz.func43, Tryz.ntmps43
    go_wp2_with fail
    go_ret
    exact ⟨rfl, H0.out.below⟩

set_option maxRecDepth 100000 in
set_option maxHeartbeats 4000000 in
theorem zrsave_yes (A B : Option Addr) (n m : Nat) (s : List ByteArray) (c : List Wr) (f : Int) (x : Bool) (b : Sup) (k : Nat) (k2 : Nat) (w : World) (R : Ans) (he : R.e = 0) (hR : ∀ v, Below w.heap.size w v → Calls Tryz.prog 53 #[.agg #[.slice A s.length n, .slice B c.length m, .int .i64 f, .bool x], .int .u32 k2] v (GivesD R.s R.c R.f R.x R.e v)) :
    Calls Tryz.prog 46 #[.agg #[.slice A s.length n, .slice B c.length m, .int .i64 f, .bool x, .int .i64 b.n, .int .u64 b.c, .int .u64 b.b, .int .u64 b.o, .int .u64 b.p, .bool b.i, .bool b.r, .bool b.d, .int .u32 k], .int .u32 k2, .func (.func 53) #[] #[]] w fun e w' => ∃ A1 B1 n1 m1, e = .returned (.tuple #[.agg #[.slice A1 R.s.length n1, .slice B1 R.c.length m1, .int .i64 R.f, .bool R.x, .int .i64 b.n, .int .u64 b.c, .int .u64 b.b, .int .u64 b.o, .int .u64 b.p, .bool b.i, .bool b.r, .bool b.d, .int .u32 k2], .int .i64 R.e]) ∧ Mem w' A1 n1 B1 m1 R.s R.c ∧ Below w.heap.size w w' := by
  obtain ⟨s1, c1, f1, x1, e1⟩ := R
  dsimp only at *
  subst he
  have HR := Lib.hid hR; clear hR
  have H0 := Lib.hid (((Held.refl w).own [.slice A s.length n, .slice B c.length m, .int .i64 f, .bool x, .int .i64 b.n, .int .u64 b.c, .int .u64 b.b, .int .u64 b.o, .int .u64 b.p, .bool b.i, .bool b.r, .bool b.d, .int .u32 k] 34 (n := 13) rfl).own [.slice none 0 0, .slice none 0 0, .int .i64 0, .bool false, .int .i64 0, .int .u64 0, .int .u64 0, .int .u64 0, .int .u64 0, .bool false, .bool false, .bool false, .int .u32 0] 34 (n := 13) rfl)
  have BL0 := Lib.hid ((Box.new w [.slice A s.length n, .slice B c.length m, .int .i64 f, .bool x, .int .i64 b.n, .int .u64 b.c, .int .u64 b.b, .int .u64 b.o, .int .u64 b.p, .bool b.i, .bool b.r, .bool b.d, .int .u32 k] 34).alloc (.cells ([.slice none 0 0, .slice none 0 0, .int .i64 0, .bool false, .int .i64 0, .int .u64 0, .int .u64 0, .int .u64 0, .int .u64 0, .bool false, .bool false, .bool false, .int .u32 0] : List Value).toArray 34))
  have BR0 := Lib.hid (Box.new2 w (.cells ([.slice A s.length n, .slice B c.length m, .int .i64 f, .bool x, .int .i64 b.n, .int .u64 b.c, .int .u64 b.b, .int .u64 b.o, .int .u64 b.p, .bool b.i, .bool b.r, .bool b.d, .int .u32 k] : List Value).toArray 34) [.slice none 0 0, .slice none 0 0, .int .i64 0, .bool false, .int .i64 0, .int .u64 0, .int .u64 0, .int .u64 0, .int .u64 0, .bool false, .bool false, .bool false, .int .u32 0] 34)
  rw [World.size_alloc] at H0
  have kl := BL0.out.cell
  go_enter Tryz.func46, Tryz.ntmps46
  go_wp2_with fail
  refine (HR.out _ H0.out.below).mono ?_
  rintro e w1 ⟨A1, B1, n1, m1, rfl, hm1, hb⟩
  have hm1 := Lib.hid hm1
  have H1 := Lib.hid (H0.out.up hb)
  have BL1 := Lib.hid (BL0.out.below hb)
  have BR1 := Lib.hid (BR0.out.below hb)
  clear hb kl H0 BL0 BR0
  have kl := BL1.out.cell
  have fl := BL1.out.frozen
  have hlt := BL1.out.lt
  have hlt2 := BR1.out.lt
  go_upto_region 2 with fail
  have hm2 := Lib.hid (hm1.out.up (below1 (o := .cells ([.slice A1 s1.length n1, .slice B1 c1.length m1, .int .i64 f1, .bool x1] : List Value).toArray 25)))
  have BD2 := Lib.hid (Box.new w1 [.slice A1 s1.length n1, .slice B1 c1.length m1, .int .i64 f1, .bool x1] 25)
  have hb : Below w1.heap.size w1 (w1.alloc (.cells ([.slice A1 s1.length n1, .slice B1 c1.length m1, .int .i64 f1, .bool x1] : List Value).toArray 25)) := below1
  have H2 := Lib.hid (H1.out.up hb)
  have BL2 := Lib.hid (BL1.out.below hb)
  have BR2 := Lib.hid (BR1.out.below hb)
  have hd := BD2.out.lt
  generalize w1.alloc (.cells #[.slice A1 s1.length n1, .slice B1 c1.length m1, .int .i64 f1, .bool x1] 25) = w2 at *
  clear hb hm1 kl fl H1 BL1 BR1
  have kd := BD2.out.cell
  have kl := BL2.out.cell
  have fl := BL2.out.frozen
  go_upto_region 3 with fail
  have hm3 := Lib.hid (hm2.out.setL [.slice A1 s1.length n1, .slice B1 c1.length m1, .int .i64 f1, .bool x1] 0 BL2.out (noText_st s.length c.length f x b k A n B m) (noText_four A1 B1 s1.length n1 c1.length m1 f1 x1))
  have BL3 := Lib.hid (show Box _ w.heap.size [.slice A1 s1.length n1, .slice B1 c1.length m1, .int .i64 f1, .bool x1, .int .i64 b.n, .int .u64 b.c, .int .u64 b.b, .int .u64 b.o, .int .u64 b.p, .bool b.i, .bool b.r, .bool b.d, .int .u32 k] from BL2.out.setL [.slice A1 s1.length n1, .slice B1 c1.length m1, .int .i64 f1, .bool x1] 0)
  have BR3 := Lib.hid (BR2.out.setO (b := w.heap.size) (by omega) [.slice A1 s1.length n1, .slice B1 c1.length m1, .int .i64 f1, .bool x1] 0)
  have H3 := Lib.hid (H2.out.setL (b := w.heap.size) ⟨13, by simp⟩ [.slice A1 s1.length n1, .slice B1 c1.length m1, .int .i64 f1, .bool x1] 0)
  generalize hW3 : setL w2 w.heap.size 0 [.slice A1 s1.length n1, .slice B1 c1.length m1, .int .i64 f1, .bool x1] = w3 at *
  simp only [setL, Nat.zero_add, Nat.reduceAdd] at hW3
  simp only [hW3]
  clear hW3 kd kl fl hm2 BD2 H2 BL2 BR2 hd hlt hlt2
  have kl := BL3.out.cell
  have fl := BL3.out.frozen
  go_upto_region 5 with fail
  have hm4 := Lib.hid (hm3.out.setL [.int .u32 k2] 12 BL3.out (noText_st s1.length c1.length f1 x1 b k A1 n1 B1 m1) (noText_nil.cons (by intro t q; cases q)))
  have BL4 := Lib.hid (show Box _ w.heap.size [.slice A1 s1.length n1, .slice B1 c1.length m1, .int .i64 f1, .bool x1, .int .i64 b.n, .int .u64 b.c, .int .u64 b.b, .int .u64 b.o, .int .u64 b.p, .bool b.i, .bool b.r, .bool b.d, .int .u32 k2] from BL3.out.setL [.int .u32 k2] 12)
  have BR4 := Lib.hid (BR3.out.setO (b := w.heap.size) (by omega) [.int .u32 k2] 12)
  have H4 := Lib.hid (H3.out.setL (b := w.heap.size) ⟨13, by simp⟩ [.int .u32 k2] 12)
  generalize hW4 : setL w3 w.heap.size 12 [.int .u32 k2] = w4 at *
  simp only [setL] at hW4
  simp only [hW4]
  clear hW4 kl fl hm3 H3 BL3 BR3
  have kl := BL4.out.cell
  have kr := BR4.out.cell
  have fr := BR4.out.frozen
  go_wp2_with fail
  refine bodyPost_ret (v := .tuple #[.agg #[.slice A1 s1.length n1, .slice B1 c1.length m1, .int .i64 f1, .bool x1, .int .i64 b.n, .int .u64 b.c, .int .u64 b.b, .int .u64 b.o, .int .u64 b.p, .bool b.i, .bool b.r, .bool b.d, .int .u32 k2], .int .i64 0]) (by simp [results, Tryz.results46, go_sem, kr]) rfl ?_
  exact ⟨A1, B1, n1, m1, rfl, hm4.out.setL [.slice A1 s1.length n1, .slice B1 c1.length m1, .int .i64 f1, .bool x1, .int .i64 b.n, .int .u64 b.c, .int .u64 b.b, .int .u64 b.o, .int .u64 b.p, .bool b.i, .bool b.r, .bool b.d, .int .u32 k2] 0 BR4.out (noText_st 0 0 0 false Sup.zero 0 none 0 none 0) (noText_st s1.length c1.length f1 x1 b k2 A1 n1 B1 m1), (H4.out.setL (b := w.heap.size + 1) ⟨13, by simp⟩ [.slice A1 s1.length n1, .slice B1 c1.length m1, .int .i64 f1, .bool x1, .int .i64 b.n, .int .u64 b.c, .int .u64 b.b, .int .u64 b.o, .int .u64 b.p, .bool b.i, .bool b.r, .bool b.d, .int .u32 k2] 0).below⟩

set_option maxRecDepth 100000 in
set_option maxHeartbeats 4000000 in
theorem zrsave_no (A B : Option Addr) (n m : Nat) (s : List ByteArray) (c : List Wr) (f : Int) (x : Bool) (b : Sup) (k : Nat) (k2 : Nat) (w : World) (R : Ans) (he : R.e ≠ 0) (hR : ∀ v, Below w.heap.size w v → Calls Tryz.prog 53 #[.agg #[.slice A s.length n, .slice B c.length m, .int .i64 f, .bool x], .int .u32 k2] v (GivesD R.s R.c R.f R.x R.e v)) :
    Calls Tryz.prog 46 #[.agg #[.slice A s.length n, .slice B c.length m, .int .i64 f, .bool x, .int .i64 b.n, .int .u64 b.c, .int .u64 b.b, .int .u64 b.o, .int .u64 b.p, .bool b.i, .bool b.r, .bool b.d, .int .u32 k], .int .u32 k2, .func (.func 53) #[] #[]] w fun e w' => ∃ A1 B1 n1 m1, e = .returned (.tuple #[.agg #[.slice A1 R.s.length n1, .slice B1 R.c.length m1, .int .i64 R.f, .bool R.x, .int .i64 b.n, .int .u64 b.c, .int .u64 b.b, .int .u64 b.o, .int .u64 b.p, .bool b.i, .bool b.r, .bool b.d, .int .u32 k], .int .i64 R.e]) ∧ Mem w' A1 n1 B1 m1 R.s R.c ∧ Below w.heap.size w w' := by
  obtain ⟨s1, c1, f1, x1, e1⟩ := R
  dsimp only at *
  have hne : (e1 == 0) = false := beq_eq_false_iff_ne.2 he
  clear he
  have HR := Lib.hid hR; clear hR
  have H0 := Lib.hid (((Held.refl w).own [.slice A s.length n, .slice B c.length m, .int .i64 f, .bool x, .int .i64 b.n, .int .u64 b.c, .int .u64 b.b, .int .u64 b.o, .int .u64 b.p, .bool b.i, .bool b.r, .bool b.d, .int .u32 k] 34 (n := 13) rfl).own [.slice none 0 0, .slice none 0 0, .int .i64 0, .bool false, .int .i64 0, .int .u64 0, .int .u64 0, .int .u64 0, .int .u64 0, .bool false, .bool false, .bool false, .int .u32 0] 34 (n := 13) rfl)
  have BL0 := Lib.hid ((Box.new w [.slice A s.length n, .slice B c.length m, .int .i64 f, .bool x, .int .i64 b.n, .int .u64 b.c, .int .u64 b.b, .int .u64 b.o, .int .u64 b.p, .bool b.i, .bool b.r, .bool b.d, .int .u32 k] 34).alloc (.cells ([.slice none 0 0, .slice none 0 0, .int .i64 0, .bool false, .int .i64 0, .int .u64 0, .int .u64 0, .int .u64 0, .int .u64 0, .bool false, .bool false, .bool false, .int .u32 0] : List Value).toArray 34))
  have BR0 := Lib.hid (Box.new2 w (.cells ([.slice A s.length n, .slice B c.length m, .int .i64 f, .bool x, .int .i64 b.n, .int .u64 b.c, .int .u64 b.b, .int .u64 b.o, .int .u64 b.p, .bool b.i, .bool b.r, .bool b.d, .int .u32 k] : List Value).toArray 34) [.slice none 0 0, .slice none 0 0, .int .i64 0, .bool false, .int .i64 0, .int .u64 0, .int .u64 0, .int .u64 0, .int .u64 0, .bool false, .bool false, .bool false, .int .u32 0] 34)
  rw [World.size_alloc] at H0
  have kl := BL0.out.cell
  go_enter Tryz.func46, Tryz.ntmps46
  go_wp2_with fail
  refine (HR.out _ H0.out.below).mono ?_
  rintro e w1 ⟨A1, B1, n1, m1, rfl, hm1, hb⟩
  have hm1 := Lib.hid hm1
  have H1 := Lib.hid (H0.out.up hb)
  have BL1 := Lib.hid (BL0.out.below hb)
  have BR1 := Lib.hid (BR0.out.below hb)
  clear hb kl H0 BL0 BR0
  have kl := BL1.out.cell
  have fl := BL1.out.frozen
  have hlt := BL1.out.lt
  have hlt2 := BR1.out.lt
  go_upto_region 2 with fail
  have hm2 := Lib.hid (hm1.out.up (below1 (o := .cells ([.slice A1 s1.length n1, .slice B1 c1.length m1, .int .i64 f1, .bool x1] : List Value).toArray 25)))
  have BD2 := Lib.hid (Box.new w1 [.slice A1 s1.length n1, .slice B1 c1.length m1, .int .i64 f1, .bool x1] 25)
  have hb : Below w1.heap.size w1 (w1.alloc (.cells ([.slice A1 s1.length n1, .slice B1 c1.length m1, .int .i64 f1, .bool x1] : List Value).toArray 25)) := below1
  have H2 := Lib.hid (H1.out.up hb)
  have BL2 := Lib.hid (BL1.out.below hb)
  have BR2 := Lib.hid (BR1.out.below hb)
  have hd := BD2.out.lt
  generalize w1.alloc (.cells #[.slice A1 s1.length n1, .slice B1 c1.length m1, .int .i64 f1, .bool x1] 25) = w2 at *
  clear hb hm1 kl fl H1 BL1 BR1
  have kd := BD2.out.cell
  have kl := BL2.out.cell
  have fl := BL2.out.frozen
  go_upto_region 3 with fail
  have hm3 := Lib.hid (hm2.out.setL [.slice A1 s1.length n1, .slice B1 c1.length m1, .int .i64 f1, .bool x1] 0 BL2.out (noText_st s.length c.length f x b k A n B m) (noText_four A1 B1 s1.length n1 c1.length m1 f1 x1))
  have BL3 := Lib.hid (show Box _ w.heap.size [.slice A1 s1.length n1, .slice B1 c1.length m1, .int .i64 f1, .bool x1, .int .i64 b.n, .int .u64 b.c, .int .u64 b.b, .int .u64 b.o, .int .u64 b.p, .bool b.i, .bool b.r, .bool b.d, .int .u32 k] from BL2.out.setL [.slice A1 s1.length n1, .slice B1 c1.length m1, .int .i64 f1, .bool x1] 0)
  have BR3 := Lib.hid (BR2.out.setO (b := w.heap.size) (by omega) [.slice A1 s1.length n1, .slice B1 c1.length m1, .int .i64 f1, .bool x1] 0)
  have H3 := Lib.hid (H2.out.setL (b := w.heap.size) ⟨13, by simp⟩ [.slice A1 s1.length n1, .slice B1 c1.length m1, .int .i64 f1, .bool x1] 0)
  generalize hW3 : setL w2 w.heap.size 0 [.slice A1 s1.length n1, .slice B1 c1.length m1, .int .i64 f1, .bool x1] = w3 at *
  simp only [setL, Nat.zero_add, Nat.reduceAdd] at hW3
  simp only [hW3]
  clear hW3 kd kl fl hm2 BD2 H2 BL2 BR2 hd hlt hlt2
  go_upto_region 5 with fail
  have kl := BL3.out.cell
  have kr := BR3.out.cell
  have fr := BR3.out.frozen
  go_wp2_with fail
  refine bodyPost_ret (v := .tuple #[.agg #[.slice A1 s1.length n1, .slice B1 c1.length m1, .int .i64 f1, .bool x1, .int .i64 b.n, .int .u64 b.c, .int .u64 b.b, .int .u64 b.o, .int .u64 b.p, .bool b.i, .bool b.r, .bool b.d, .int .u32 k], .int .i64 e1]) (by simp [results, Tryz.results46, go_sem, kr]) rfl ?_
  exact ⟨A1, B1, n1, m1, rfl, hm3.out.setL [.slice A1 s1.length n1, .slice B1 c1.length m1, .int .i64 f1, .bool x1, .int .i64 b.n, .int .u64 b.c, .int .u64 b.b, .int .u64 b.o, .int .u64 b.p, .bool b.i, .bool b.r, .bool b.d, .int .u32 k] 0 BR3.out (noText_st 0 0 0 false Sup.zero 0 none 0 none 0) (noText_st s1.length c1.length f1 x1 b k A1 n1 B1 m1), (H3.out.setL (b := w.heap.size + 1) ⟨13, by simp⟩ [.slice A1 s1.length n1, .slice B1 c1.length m1, .int .i64 f1, .bool x1, .int .i64 b.n, .int .u64 b.c, .int .u64 b.b, .int .u64 b.o, .int .u64 b.p, .bool b.i, .bool b.r, .bool b.d, .int .u32 k] 0).below⟩

set_option maxRecDepth 100000 in
set_option maxHeartbeats 4000000 in
theorem zrnote_yes (A B : Option Addr) (n m : Nat) (s : List ByteArray) (c : List Wr) (f : Int) (x : Bool) (b : Sup) (k : Nat) (k2 : Nat) (w : World) (R : Ans) (he : R.e = 0) (hR : ∀ v, Below w.heap.size w v → Calls Tryz.prog 48 #[.agg #[.slice A s.length n, .slice B c.length m, .int .i64 f, .bool x], .int .u32 k2] v (GivesD R.s R.c R.f R.x R.e v)) :
    Calls Tryz.prog 46 #[.agg #[.slice A s.length n, .slice B c.length m, .int .i64 f, .bool x, .int .i64 b.n, .int .u64 b.c, .int .u64 b.b, .int .u64 b.o, .int .u64 b.p, .bool b.i, .bool b.r, .bool b.d, .int .u32 k], .int .u32 k2, .func (.func 48) #[] #[]] w fun e w' => ∃ A1 B1 n1 m1, e = .returned (.tuple #[.agg #[.slice A1 R.s.length n1, .slice B1 R.c.length m1, .int .i64 R.f, .bool R.x, .int .i64 b.n, .int .u64 b.c, .int .u64 b.b, .int .u64 b.o, .int .u64 b.p, .bool b.i, .bool b.r, .bool b.d, .int .u32 k2], .int .i64 R.e]) ∧ Mem w' A1 n1 B1 m1 R.s R.c ∧ Below w.heap.size w w' := by
  obtain ⟨s1, c1, f1, x1, e1⟩ := R
  dsimp only at *
  subst he
  have HR := Lib.hid hR; clear hR
  have H0 := Lib.hid (((Held.refl w).own [.slice A s.length n, .slice B c.length m, .int .i64 f, .bool x, .int .i64 b.n, .int .u64 b.c, .int .u64 b.b, .int .u64 b.o, .int .u64 b.p, .bool b.i, .bool b.r, .bool b.d, .int .u32 k] 34 (n := 13) rfl).own [.slice none 0 0, .slice none 0 0, .int .i64 0, .bool false, .int .i64 0, .int .u64 0, .int .u64 0, .int .u64 0, .int .u64 0, .bool false, .bool false, .bool false, .int .u32 0] 34 (n := 13) rfl)
  have BL0 := Lib.hid ((Box.new w [.slice A s.length n, .slice B c.length m, .int .i64 f, .bool x, .int .i64 b.n, .int .u64 b.c, .int .u64 b.b, .int .u64 b.o, .int .u64 b.p, .bool b.i, .bool b.r, .bool b.d, .int .u32 k] 34).alloc (.cells ([.slice none 0 0, .slice none 0 0, .int .i64 0, .bool false, .int .i64 0, .int .u64 0, .int .u64 0, .int .u64 0, .int .u64 0, .bool false, .bool false, .bool false, .int .u32 0] : List Value).toArray 34))
  have BR0 := Lib.hid (Box.new2 w (.cells ([.slice A s.length n, .slice B c.length m, .int .i64 f, .bool x, .int .i64 b.n, .int .u64 b.c, .int .u64 b.b, .int .u64 b.o, .int .u64 b.p, .bool b.i, .bool b.r, .bool b.d, .int .u32 k] : List Value).toArray 34) [.slice none 0 0, .slice none 0 0, .int .i64 0, .bool false, .int .i64 0, .int .u64 0, .int .u64 0, .int .u64 0, .int .u64 0, .bool false, .bool false, .bool false, .int .u32 0] 34)
  rw [World.size_alloc] at H0
  have kl := BL0.out.cell
  go_enter Tryz.func46, Tryz.ntmps46
  go_wp2_with fail
  refine (HR.out _ H0.out.below).mono ?_
  rintro e w1 ⟨A1, B1, n1, m1, rfl, hm1, hb⟩
  have hm1 := Lib.hid hm1
  have H1 := Lib.hid (H0.out.up hb)
  have BL1 := Lib.hid (BL0.out.below hb)
  have BR1 := Lib.hid (BR0.out.below hb)
  clear hb kl H0 BL0 BR0
  have kl := BL1.out.cell
  have fl := BL1.out.frozen
  have hlt := BL1.out.lt
  have hlt2 := BR1.out.lt
  go_upto_region 2 with fail
  have hm2 := Lib.hid (hm1.out.up (below1 (o := .cells ([.slice A1 s1.length n1, .slice B1 c1.length m1, .int .i64 f1, .bool x1] : List Value).toArray 25)))
  have BD2 := Lib.hid (Box.new w1 [.slice A1 s1.length n1, .slice B1 c1.length m1, .int .i64 f1, .bool x1] 25)
  have hb : Below w1.heap.size w1 (w1.alloc (.cells ([.slice A1 s1.length n1, .slice B1 c1.length m1, .int .i64 f1, .bool x1] : List Value).toArray 25)) := below1
  have H2 := Lib.hid (H1.out.up hb)
  have BL2 := Lib.hid (BL1.out.below hb)
  have BR2 := Lib.hid (BR1.out.below hb)
  have hd := BD2.out.lt
  generalize w1.alloc (.cells #[.slice A1 s1.length n1, .slice B1 c1.length m1, .int .i64 f1, .bool x1] 25) = w2 at *
  clear hb hm1 kl fl H1 BL1 BR1
  have kd := BD2.out.cell
  have kl := BL2.out.cell
  have fl := BL2.out.frozen
  go_upto_region 3 with fail
  have hm3 := Lib.hid (hm2.out.setL [.slice A1 s1.length n1, .slice B1 c1.length m1, .int .i64 f1, .bool x1] 0 BL2.out (noText_st s.length c.length f x b k A n B m) (noText_four A1 B1 s1.length n1 c1.length m1 f1 x1))
  have BL3 := Lib.hid (show Box _ w.heap.size [.slice A1 s1.length n1, .slice B1 c1.length m1, .int .i64 f1, .bool x1, .int .i64 b.n, .int .u64 b.c, .int .u64 b.b, .int .u64 b.o, .int .u64 b.p, .bool b.i, .bool b.r, .bool b.d, .int .u32 k] from BL2.out.setL [.slice A1 s1.length n1, .slice B1 c1.length m1, .int .i64 f1, .bool x1] 0)
  have BR3 := Lib.hid (BR2.out.setO (b := w.heap.size) (by omega) [.slice A1 s1.length n1, .slice B1 c1.length m1, .int .i64 f1, .bool x1] 0)
  have H3 := Lib.hid (H2.out.setL (b := w.heap.size) ⟨13, by simp⟩ [.slice A1 s1.length n1, .slice B1 c1.length m1, .int .i64 f1, .bool x1] 0)
  generalize hW3 : setL w2 w.heap.size 0 [.slice A1 s1.length n1, .slice B1 c1.length m1, .int .i64 f1, .bool x1] = w3 at *
  simp only [setL, Nat.zero_add, Nat.reduceAdd] at hW3
  simp only [hW3]
  clear hW3 kd kl fl hm2 BD2 H2 BL2 BR2 hd hlt hlt2
  have kl := BL3.out.cell
  have fl := BL3.out.frozen
  go_upto_region 5 with fail
  have hm4 := Lib.hid (hm3.out.setL [.int .u32 k2] 12 BL3.out (noText_st s1.length c1.length f1 x1 b k A1 n1 B1 m1) (noText_nil.cons (by intro t q; cases q)))
  have BL4 := Lib.hid (show Box _ w.heap.size [.slice A1 s1.length n1, .slice B1 c1.length m1, .int .i64 f1, .bool x1, .int .i64 b.n, .int .u64 b.c, .int .u64 b.b, .int .u64 b.o, .int .u64 b.p, .bool b.i, .bool b.r, .bool b.d, .int .u32 k2] from BL3.out.setL [.int .u32 k2] 12)
  have BR4 := Lib.hid (BR3.out.setO (b := w.heap.size) (by omega) [.int .u32 k2] 12)
  have H4 := Lib.hid (H3.out.setL (b := w.heap.size) ⟨13, by simp⟩ [.int .u32 k2] 12)
  generalize hW4 : setL w3 w.heap.size 12 [.int .u32 k2] = w4 at *
  simp only [setL] at hW4
  simp only [hW4]
  clear hW4 kl fl hm3 H3 BL3 BR3
  have kl := BL4.out.cell
  have kr := BR4.out.cell
  have fr := BR4.out.frozen
  go_wp2_with fail
  refine bodyPost_ret (v := .tuple #[.agg #[.slice A1 s1.length n1, .slice B1 c1.length m1, .int .i64 f1, .bool x1, .int .i64 b.n, .int .u64 b.c, .int .u64 b.b, .int .u64 b.o, .int .u64 b.p, .bool b.i, .bool b.r, .bool b.d, .int .u32 k2], .int .i64 0]) (by simp [results, Tryz.results46, go_sem, kr]) rfl ?_
  exact ⟨A1, B1, n1, m1, rfl, hm4.out.setL [.slice A1 s1.length n1, .slice B1 c1.length m1, .int .i64 f1, .bool x1, .int .i64 b.n, .int .u64 b.c, .int .u64 b.b, .int .u64 b.o, .int .u64 b.p, .bool b.i, .bool b.r, .bool b.d, .int .u32 k2] 0 BR4.out (noText_st 0 0 0 false Sup.zero 0 none 0 none 0) (noText_st s1.length c1.length f1 x1 b k2 A1 n1 B1 m1), (H4.out.setL (b := w.heap.size + 1) ⟨13, by simp⟩ [.slice A1 s1.length n1, .slice B1 c1.length m1, .int .i64 f1, .bool x1, .int .i64 b.n, .int .u64 b.c, .int .u64 b.b, .int .u64 b.o, .int .u64 b.p, .bool b.i, .bool b.r, .bool b.d, .int .u32 k2] 0).below⟩

set_option maxRecDepth 100000 in
set_option maxHeartbeats 4000000 in
theorem zrnote_no (A B : Option Addr) (n m : Nat) (s : List ByteArray) (c : List Wr) (f : Int) (x : Bool) (b : Sup) (k : Nat) (k2 : Nat) (w : World) (R : Ans) (he : R.e ≠ 0) (hR : ∀ v, Below w.heap.size w v → Calls Tryz.prog 48 #[.agg #[.slice A s.length n, .slice B c.length m, .int .i64 f, .bool x], .int .u32 k2] v (GivesD R.s R.c R.f R.x R.e v)) :
    Calls Tryz.prog 46 #[.agg #[.slice A s.length n, .slice B c.length m, .int .i64 f, .bool x, .int .i64 b.n, .int .u64 b.c, .int .u64 b.b, .int .u64 b.o, .int .u64 b.p, .bool b.i, .bool b.r, .bool b.d, .int .u32 k], .int .u32 k2, .func (.func 48) #[] #[]] w fun e w' => ∃ A1 B1 n1 m1, e = .returned (.tuple #[.agg #[.slice A1 R.s.length n1, .slice B1 R.c.length m1, .int .i64 R.f, .bool R.x, .int .i64 b.n, .int .u64 b.c, .int .u64 b.b, .int .u64 b.o, .int .u64 b.p, .bool b.i, .bool b.r, .bool b.d, .int .u32 k], .int .i64 R.e]) ∧ Mem w' A1 n1 B1 m1 R.s R.c ∧ Below w.heap.size w w' := by
  obtain ⟨s1, c1, f1, x1, e1⟩ := R
  dsimp only at *
  have hne : (e1 == 0) = false := beq_eq_false_iff_ne.2 he
  clear he
  have HR := Lib.hid hR; clear hR
  have H0 := Lib.hid (((Held.refl w).own [.slice A s.length n, .slice B c.length m, .int .i64 f, .bool x, .int .i64 b.n, .int .u64 b.c, .int .u64 b.b, .int .u64 b.o, .int .u64 b.p, .bool b.i, .bool b.r, .bool b.d, .int .u32 k] 34 (n := 13) rfl).own [.slice none 0 0, .slice none 0 0, .int .i64 0, .bool false, .int .i64 0, .int .u64 0, .int .u64 0, .int .u64 0, .int .u64 0, .bool false, .bool false, .bool false, .int .u32 0] 34 (n := 13) rfl)
  have BL0 := Lib.hid ((Box.new w [.slice A s.length n, .slice B c.length m, .int .i64 f, .bool x, .int .i64 b.n, .int .u64 b.c, .int .u64 b.b, .int .u64 b.o, .int .u64 b.p, .bool b.i, .bool b.r, .bool b.d, .int .u32 k] 34).alloc (.cells ([.slice none 0 0, .slice none 0 0, .int .i64 0, .bool false, .int .i64 0, .int .u64 0, .int .u64 0, .int .u64 0, .int .u64 0, .bool false, .bool false, .bool false, .int .u32 0] : List Value).toArray 34))
  have BR0 := Lib.hid (Box.new2 w (.cells ([.slice A s.length n, .slice B c.length m, .int .i64 f, .bool x, .int .i64 b.n, .int .u64 b.c, .int .u64 b.b, .int .u64 b.o, .int .u64 b.p, .bool b.i, .bool b.r, .bool b.d, .int .u32 k] : List Value).toArray 34) [.slice none 0 0, .slice none 0 0, .int .i64 0, .bool false, .int .i64 0, .int .u64 0, .int .u64 0, .int .u64 0, .int .u64 0, .bool false, .bool false, .bool false, .int .u32 0] 34)
  rw [World.size_alloc] at H0
  have kl := BL0.out.cell
  go_enter Tryz.func46, Tryz.ntmps46
  go_wp2_with fail
  refine (HR.out _ H0.out.below).mono ?_
  rintro e w1 ⟨A1, B1, n1, m1, rfl, hm1, hb⟩
  have hm1 := Lib.hid hm1
  have H1 := Lib.hid (H0.out.up hb)
  have BL1 := Lib.hid (BL0.out.below hb)
  have BR1 := Lib.hid (BR0.out.below hb)
  clear hb kl H0 BL0 BR0
  have kl := BL1.out.cell
  have fl := BL1.out.frozen
  have hlt := BL1.out.lt
  have hlt2 := BR1.out.lt
  go_upto_region 2 with fail
  have hm2 := Lib.hid (hm1.out.up (below1 (o := .cells ([.slice A1 s1.length n1, .slice B1 c1.length m1, .int .i64 f1, .bool x1] : List Value).toArray 25)))
  have BD2 := Lib.hid (Box.new w1 [.slice A1 s1.length n1, .slice B1 c1.length m1, .int .i64 f1, .bool x1] 25)
  have hb : Below w1.heap.size w1 (w1.alloc (.cells ([.slice A1 s1.length n1, .slice B1 c1.length m1, .int .i64 f1, .bool x1] : List Value).toArray 25)) := below1
  have H2 := Lib.hid (H1.out.up hb)
  have BL2 := Lib.hid (BL1.out.below hb)
  have BR2 := Lib.hid (BR1.out.below hb)
  have hd := BD2.out.lt
  generalize w1.alloc (.cells #[.slice A1 s1.length n1, .slice B1 c1.length m1, .int .i64 f1, .bool x1] 25) = w2 at *
  clear hb hm1 kl fl H1 BL1 BR1
  have kd := BD2.out.cell
  have kl := BL2.out.cell
  have fl := BL2.out.frozen
  go_upto_region 3 with fail
  have hm3 := Lib.hid (hm2.out.setL [.slice A1 s1.length n1, .slice B1 c1.length m1, .int .i64 f1, .bool x1] 0 BL2.out (noText_st s.length c.length f x b k A n B m) (noText_four A1 B1 s1.length n1 c1.length m1 f1 x1))
  have BL3 := Lib.hid (show Box _ w.heap.size [.slice A1 s1.length n1, .slice B1 c1.length m1, .int .i64 f1, .bool x1, .int .i64 b.n, .int .u64 b.c, .int .u64 b.b, .int .u64 b.o, .int .u64 b.p, .bool b.i, .bool b.r, .bool b.d, .int .u32 k] from BL2.out.setL [.slice A1 s1.length n1, .slice B1 c1.length m1, .int .i64 f1, .bool x1] 0)
  have BR3 := Lib.hid (BR2.out.setO (b := w.heap.size) (by omega) [.slice A1 s1.length n1, .slice B1 c1.length m1, .int .i64 f1, .bool x1] 0)
  have H3 := Lib.hid (H2.out.setL (b := w.heap.size) ⟨13, by simp⟩ [.slice A1 s1.length n1, .slice B1 c1.length m1, .int .i64 f1, .bool x1] 0)
  generalize hW3 : setL w2 w.heap.size 0 [.slice A1 s1.length n1, .slice B1 c1.length m1, .int .i64 f1, .bool x1] = w3 at *
  simp only [setL, Nat.zero_add, Nat.reduceAdd] at hW3
  simp only [hW3]
  clear hW3 kd kl fl hm2 BD2 H2 BL2 BR2 hd hlt hlt2
  go_upto_region 5 with fail
  have kl := BL3.out.cell
  have kr := BR3.out.cell
  have fr := BR3.out.frozen
  go_wp2_with fail
  refine bodyPost_ret (v := .tuple #[.agg #[.slice A1 s1.length n1, .slice B1 c1.length m1, .int .i64 f1, .bool x1, .int .i64 b.n, .int .u64 b.c, .int .u64 b.b, .int .u64 b.o, .int .u64 b.p, .bool b.i, .bool b.r, .bool b.d, .int .u32 k], .int .i64 e1]) (by simp [results, Tryz.results46, go_sem, kr]) rfl ?_
  exact ⟨A1, B1, n1, m1, rfl, hm3.out.setL [.slice A1 s1.length n1, .slice B1 c1.length m1, .int .i64 f1, .bool x1, .int .i64 b.n, .int .u64 b.c, .int .u64 b.b, .int .u64 b.o, .int .u64 b.p, .bool b.i, .bool b.r, .bool b.d, .int .u32 k] 0 BR3.out (noText_st 0 0 0 false Sup.zero 0 none 0 none 0) (noText_st s1.length c1.length f1 x1 b k A1 n1 B1 m1), (H3.out.setL (b := w.heap.size + 1) ⟨13, by simp⟩ [.slice A1 s1.length n1, .slice B1 c1.length m1, .int .i64 f1, .bool x1, .int .i64 b.n, .int .u64 b.c, .int .u64 b.b, .int .u64 b.o, .int .u64 b.p, .bool b.i, .bool b.r, .bool b.d, .int .u32 k] 0).below⟩

end Go.Proofs.YtjkgellkkjjnbaaGreatDoor
