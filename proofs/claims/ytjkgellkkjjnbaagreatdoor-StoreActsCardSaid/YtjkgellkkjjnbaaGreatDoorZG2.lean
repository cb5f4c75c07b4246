/- Stores: what the code's Join, Mark and Wipe answer, over what they call, for every disk within what they ask. -/
import Derived.Test.YtjkgellkkjjnbaaGreatDoorZG
import Derived.Test.YtjkgellkkjjnbaaGreatDoorKG
import Derived.Test.YtjkgellkkjjnbaaGreatDoorKM
namespace Go.Proofs.YtjkgellkkjjnbaaGreatDoor
open Go.RowKit

set_option maxRecDepth 100000 in
set_option maxHeartbeats 4000000 in
theorem zjoin_same (A B : Option Addr) (n m : Nat) (s : List ByteArray) (c : List Wr) (f : Int) (x : Bool) (b : Sup) (k : Nat) (k2 : Nat) (w : World) (hk : k < 4294967296) (hk2 : k2 < 4294967296) (hq : uniB [k, k2] = k) :
    Calls Tryz.prog 27 #[.agg #[.slice A s.length n, .slice B c.length m, .int .i64 f, .bool x, .int .i64 b.n, .int .u64 b.c, .int .u64 b.b, .int .u64 b.o, .int .u64 b.p, .bool b.i, .bool b.r, .bool b.d, .int .u32 k], .int .u32 k2] w fun e w' => e = .returned (.tuple #[.agg #[.slice A s.length n, .slice B c.length m, .int .i64 f, .bool x, .int .i64 b.n, .int .u64 b.c, .int .u64 b.b, .int .u64 b.o, .int .u64 b.p, .bool b.i, .bool b.r, .bool b.d, .int .u32 k], .int .i64 0]) ∧ Below w.heap.size w w' := by
  have HC := Lib.hid (fun (v : World) => union_any (some ⟨v.heap.size, 0, none⟩) 2 [k, k2] (v.alloc (.cells #[.int .u32 k, .int .u32 k2] 32)) (v.heap.size + 1) (cs_new .u32 v [(k : Int), (k2 : Int)] 32) (by intro x hx; simp at hx; omega) (by simp [maxLen]))
  clear hk hk2
  rw [hq] at HC
  clear hq
  have H0 := Lib.hid (((Held.refl w).own [.slice A s.length n, .slice B c.length m, .int .i64 f, .bool x, .int .i64 b.n, .int .u64 b.c, .int .u64 b.b, .int .u64 b.o, .int .u64 b.p, .bool b.i, .bool b.r, .bool b.d, .int .u32 k] 34 (n := 13) rfl).own [.slice none 0 0, .slice none 0 0, .int .i64 0, .bool false, .int .i64 0, .int .u64 0, .int .u64 0, .int .u64 0, .int .u64 0, .bool false, .bool false, .bool false, .int .u32 0] 34 (n := 13) rfl)
  have BL0 := Lib.hid ((Box.new w [.slice A s.length n, .slice B c.length m, .int .i64 f, .bool x, .int .i64 b.n, .int .u64 b.c, .int .u64 b.b, .int .u64 b.o, .int .u64 b.p, .bool b.i, .bool b.r, .bool b.d, .int .u32 k] 34).alloc (.cells ([.slice none 0 0, .slice none 0 0, .int .i64 0, .bool false, .int .i64 0, .int .u64 0, .int .u64 0, .int .u64 0, .int .u64 0, .bool false, .bool false, .bool false, .int .u32 0] : List Value).toArray 34))
  have BR0 := Lib.hid (Box.new2 w (.cells ([.slice A s.length n, .slice B c.length m, .int .i64 f, .bool x, .int .i64 b.n, .int .u64 b.c, .int .u64 b.b, .int .u64 b.o, .int .u64 b.p, .bool b.i, .bool b.r, .bool b.d, .int .u32 k] : List Value).toArray 34) [.slice none 0 0, .slice none 0 0, .int .i64 0, .bool false, .int .i64 0, .int .u64 0, .int .u64 0, .int .u64 0, .int .u64 0, .bool false, .bool false, .bool false, .int .u32 0] 34)
  rw [World.size_alloc] at H0
  have kl := BL0.out.cell
  go_enter Tryz.func27, Tryz.ntmps27
  go_upto_region 1 with fail
  generalize (w.alloc (.cells #[.slice A s.length n, .slice B c.length m, .int .i64 f, .bool x, .int .i64 b.n, .int .u64 b.c, .int .u64 b.b, .int .u64 b.o, .int .u64 b.p, .bool b.i, .bool b.r, .bool b.d, .int .u32 k] 34)).alloc (.cells #[.slice none 0 0, .slice none 0 0, .int .i64 0, .bool false, .int .i64 0, .int .u64 0, .int .u64 0, .int .u64 0, .int .u64 0, .bool false, .bool false, .bool false, .int .u32 0] 34) = wa at *
  have kl := BL0.out.cell
  go_wp2_with fail
  refine (HC.out _).mono ?_
  rintro e wx ⟨rfl, hw⟩
  rw [hw]
  clear hw kl HC
  have hb : Below wa.heap.size wa (wa.alloc (.cells ([.int .u32 k, .int .u32 k2] : List Value).toArray 32)) := below1
  have Hb := Lib.hid (H0.out.up hb)
  have BLb := Lib.hid (BL0.out.below hb)
  have BRb := Lib.hid (BR0.out.below hb)
  generalize wa.alloc (.cells #[.int .u32 k, .int .u32 k2] 32) = wb at *
  clear hb H0 BL0 BR0
  have kl := BLb.out.cell
  have kr := BRb.out.cell
  have fr := BRb.out.frozen
  go_wp2_with fail
  refine bodyPost_ret (v := .tuple #[.agg #[.slice A s.length n, .slice B c.length m, .int .i64 f, .bool x, .int .i64 b.n, .int .u64 b.c, .int .u64 b.b, .int .u64 b.o, .int .u64 b.p, .bool b.i, .bool b.r, .bool b.d, .int .u32 k], .int .i64 0]) (by simp [results, Tryz.results27, go_sem, kr]) rfl ⟨rfl, ?_⟩
  exact (Hb.out.setL (b := w.heap.size + 1) ⟨13, by simp⟩ [.slice A s.length n, .slice B c.length m, .int .i64 f, .bool x, .int .i64 b.n, .int .u64 b.c, .int .u64 b.b, .int .u64 b.o, .int .u64 b.p, .bool b.i, .bool b.r, .bool b.d, .int .u32 k] 0).below

set_option maxRecDepth 100000 in
set_option maxHeartbeats 4000000 in
theorem zjoin_do (A B : Option Addr) (n m : Nat) (s : List ByteArray) (c : List Wr) (f : Int) (x : Bool) (b : Sup) (k : Nat) (k2 : Nat) (w : World) (hk : k < 4294967296) (hk2 : k2 < 4294967296) (hq : uniB [k, k2] ≠ k) (s1 : List ByteArray) (c1 : List Wr) (f1 : Int) (x1 : Bool) (k1 : Nat) (e1 : Int) (hR : ∀ v, Below w.heap.size w v → Calls Tryz.prog 46 #[.agg #[.slice A s.length n, .slice B c.length m, .int .i64 f, .bool x, .int .i64 b.n, .int .u64 b.c, .int .u64 b.b, .int .u64 b.o, .int .u64 b.p, .bool b.i, .bool b.r, .bool b.d, .int .u32 k], .int .u32 (uniB [k, k2] : Nat), .func (.func 53) #[] #[]] v fun e v' => ∃ A1 B1 n1 m1, e = .returned (.tuple #[.agg #[.slice A1 s1.length n1, .slice B1 c1.length m1, .int .i64 f1, .bool x1, .int .i64 b.n, .int .u64 b.c, .int .u64 b.b, .int .u64 b.o, .int .u64 b.p, .bool b.i, .bool b.r, .bool b.d, .int .u32 k1], .int .i64 e1]) ∧ Mem v' A1 n1 B1 m1 s1 c1 ∧ Below v.heap.size v v') :
    Calls Tryz.prog 27 #[.agg #[.slice A s.length n, .slice B c.length m, .int .i64 f, .bool x, .int .i64 b.n, .int .u64 b.c, .int .u64 b.b, .int .u64 b.o, .int .u64 b.p, .bool b.i, .bool b.r, .bool b.d, .int .u32 k], .int .u32 k2] w fun e w' => ∃ A1 B1 n1 m1, e = .returned (.tuple #[.agg #[.slice A1 s1.length n1, .slice B1 c1.length m1, .int .i64 f1, .bool x1, .int .i64 b.n, .int .u64 b.c, .int .u64 b.b, .int .u64 b.o, .int .u64 b.p, .bool b.i, .bool b.r, .bool b.d, .int .u32 k1], .int .i64 e1]) ∧ Mem w' A1 n1 B1 m1 s1 c1 ∧ Below w.heap.size w w' := by
  have HC := Lib.hid (fun (v : World) => union_any (some ⟨v.heap.size, 0, none⟩) 2 [k, k2] (v.alloc (.cells #[.int .u32 k, .int .u32 k2] 32)) (v.heap.size + 1) (cs_new .u32 v [(k : Int), (k2 : Int)] 32) (by intro x hx; simp at hx; omega) (by simp [maxLen]))
  clear hk hk2
  have HR := Lib.hid hR; clear hR
  generalize uniB [k, k2] = k3 at *
  have hkk : ((k3 : Int) == (k : Int)) = false := by rw [beq_eq_false_iff_ne]; omega
  clear hq
  have H0 := Lib.hid (((Held.refl w).own [.slice A s.length n, .slice B c.length m, .int .i64 f, .bool x, .int .i64 b.n, .int .u64 b.c, .int .u64 b.b, .int .u64 b.o, .int .u64 b.p, .bool b.i, .bool b.r, .bool b.d, .int .u32 k] 34 (n := 13) rfl).own [.slice none 0 0, .slice none 0 0, .int .i64 0, .bool false, .int .i64 0, .int .u64 0, .int .u64 0, .int .u64 0, .int .u64 0, .bool false, .bool false, .bool false, .int .u32 0] 34 (n := 13) rfl)
  have BL0 := Lib.hid ((Box.new w [.slice A s.length n, .slice B c.length m, .int .i64 f, .bool x, .int .i64 b.n, .int .u64 b.c, .int .u64 b.b, .int .u64 b.o, .int .u64 b.p, .bool b.i, .bool b.r, .bool b.d, .int .u32 k] 34).alloc (.cells ([.slice none 0 0, .slice none 0 0, .int .i64 0, .bool false, .int .i64 0, .int .u64 0, .int .u64 0, .int .u64 0, .int .u64 0, .bool false, .bool false, .bool false, .int .u32 0] : List Value).toArray 34))
  have BR0 := Lib.hid (Box.new2 w (.cells ([.slice A s.length n, .slice B c.length m, .int .i64 f, .bool x, .int .i64 b.n, .int .u64 b.c, .int .u64 b.b, .int .u64 b.o, .int .u64 b.p, .bool b.i, .bool b.r, .bool b.d, .int .u32 k] : List Value).toArray 34) [.slice none 0 0, .slice none 0 0, .int .i64 0, .bool false, .int .i64 0, .int .u64 0, .int .u64 0, .int .u64 0, .int .u64 0, .bool false, .bool false, .bool false, .int .u32 0] 34)
  rw [World.size_alloc] at H0
  have kl := BL0.out.cell
  go_enter Tryz.func27, Tryz.ntmps27
  go_upto_region 1 with fail
  generalize (w.alloc (.cells #[.slice A s.length n, .slice B c.length m, .int .i64 f, .bool x, .int .i64 b.n, .int .u64 b.c, .int .u64 b.b, .int .u64 b.o, .int .u64 b.p, .bool b.i, .bool b.r, .bool b.d, .int .u32 k] 34)).alloc (.cells #[.slice none 0 0, .slice none 0 0, .int .i64 0, .bool false, .int .i64 0, .int .u64 0, .int .u64 0, .int .u64 0, .int .u64 0, .bool false, .bool false, .bool false, .int .u32 0] 34) = wa at *
  have kl := BL0.out.cell
  go_wp2_with fail
  refine (HC.out _).mono ?_
  rintro e wx ⟨rfl, hw⟩
  rw [hw]
  clear hw kl HC
  have hb : Below wa.heap.size wa (wa.alloc (.cells ([.int .u32 k, .int .u32 k2] : List Value).toArray 32)) := below1
  have Hb := Lib.hid (H0.out.up hb)
  have BLb := Lib.hid (BL0.out.below hb)
  have BRb := Lib.hid (BR0.out.below hb)
  generalize wa.alloc (.cells #[.int .u32 k, .int .u32 k2] 32) = wb at *
  clear hb H0 BL0 BR0
  have kl := BLb.out.cell
  go_wp2_with fail
  refine (HR.out _ Hb.out.below).mono ?_
  rintro e w1 ⟨A1, B1, n1, m1, rfl, hm1, hb⟩
  have hm1 := Lib.hid hm1
  have H1 := Lib.hid (Hb.out.up hb)
  have BL1 := Lib.hid (BLb.out.below hb)
  have BR1 := Lib.hid (BRb.out.below hb)
  clear hb kl Hb BLb BRb
  have kr := BR1.out.cell
  have fr := BR1.out.frozen
  go_wp2_with fail
  refine bodyPost_ret (v := .tuple #[.agg #[.slice A1 s1.length n1, .slice B1 c1.length m1, .int .i64 f1, .bool x1, .int .i64 b.n, .int .u64 b.c, .int .u64 b.b, .int .u64 b.o, .int .u64 b.p, .bool b.i, .bool b.r, .bool b.d, .int .u32 k1], .int .i64 e1]) (by simp [results, Tryz.results27, go_sem, kr]) rfl ?_
  exact ⟨A1, B1, n1, m1, rfl, hm1.out.setL [.slice A1 s1.length n1, .slice B1 c1.length m1, .int .i64 f1, .bool x1, .int .i64 b.n, .int .u64 b.c, .int .u64 b.b, .int .u64 b.o, .int .u64 b.p, .bool b.i, .bool b.r, .bool b.d, .int .u32 k1] 0 BR1.out (noText_st 0 0 0 false Sup.zero 0 none 0 none 0) (noText_st s1.length c1.length f1 x1 b k1 A1 n1 B1 m1), (H1.out.setL (b := w.heap.size + 1) ⟨13, by simp⟩ [.slice A1 s1.length n1, .slice B1 c1.length m1, .int .i64 f1, .bool x1, .int .i64 b.n, .int .u64 b.c, .int .u64 b.b, .int .u64 b.o, .int .u64 b.p, .bool b.i, .bool b.r, .bool b.d, .int .u32 k1] 0).below⟩

set_option maxRecDepth 100000 in
set_option maxHeartbeats 4000000 in
theorem zmark_out (A B : Option Addr) (n m : Nat) (s : List ByteArray) (c : List Wr) (f : Int) (x : Bool) (b : Sup) (k : Nat) (i : Int) (w : World) (hH : ∀ v, Calls Tryz.prog 43 #[.agg #[.slice A s.length n, .slice B c.length m, .int .i64 f, .bool x, .int .i64 b.n, .int .u64 b.c, .int .u64 b.b, .int .u64 b.o, .int .u64 b.p, .bool b.i, .bool b.r, .bool b.d, .int .u32 k], .int .i64 i] v fun e v' => e = .returned (.bool false) ∧ Below v.heap.size v v') : Calls Tryz.prog 22 #[.agg #[.slice A s.length n, .slice B c.length m, .int .i64 f, .bool x, .int .i64 b.n, .int .u64 b.c, .int .u64 b.b, .int .u64 b.o, .int .u64 b.p, .bool b.i, .bool b.r, .bool b.d, .int .u32 k], .int .i64 i] w fun e w' => e = .returned (.tuple #[.agg #[.slice A s.length n, .slice B c.length m, .int .i64 f, .bool x, .int .i64 b.n, .int .u64 b.c, .int .u64 b.b, .int .u64 b.o, .int .u64 b.p, .bool b.i, .bool b.r, .bool b.d, .int .u32 k], .int .i64 4]) ∧ Below w.heap.size w w' := by
  have HH := Lib.hid hH; clear hH
  have H0 := Lib.hid (((Held.refl w).own [.slice A s.length n, .slice B c.length m, .int .i64 f, .bool x, .int .i64 b.n, .int .u64 b.c, .int .u64 b.b, .int .u64 b.o, .int .u64 b.p, .bool b.i, .bool b.r, .bool b.d, .int .u32 k] 34 (n := 13) rfl).own [.slice none 0 0, .slice none 0 0, .int .i64 0, .bool false, .int .i64 0, .int .u64 0, .int .u64 0, .int .u64 0, .int .u64 0, .bool false, .bool false, .bool false, .int .u32 0] 34 (n := 13) rfl)
  have BL0 := Lib.hid ((Box.new w [.slice A s.length n, .slice B c.length m, .int .i64 f, .bool x, .int .i64 b.n, .int .u64 b.c, .int .u64 b.b, .int .u64 b.o, .int .u64 b.p, .bool b.i, .bool b.r, .bool b.d, .int .u32 k] 34).alloc (.cells ([.slice none 0 0, .slice none 0 0, .int .i64 0, .bool false, .int .i64 0, .int .u64 0, .int .u64 0, .int .u64 0, .int .u64 0, .bool false, .bool false, .bool false, .int .u32 0] : List Value).toArray 34))
  have BR0 := Lib.hid (Box.new2 w (.cells ([.slice A s.length n, .slice B c.length m, .int .i64 f, .bool x, .int .i64 b.n, .int .u64 b.c, .int .u64 b.b, .int .u64 b.o, .int .u64 b.p, .bool b.i, .bool b.r, .bool b.d, .int .u32 k] : List Value).toArray 34) [.slice none 0 0, .slice none 0 0, .int .i64 0, .bool false, .int .i64 0, .int .u64 0, .int .u64 0, .int .u64 0, .int .u64 0, .bool false, .bool false, .bool false, .int .u32 0] 34)
  rw [World.size_alloc] at H0
  have kl := BL0.out.cell
  go_enter Tryz.func22, Tryz.ntmps22
  go_wp2_with fail
  refine (HH.out _).mono ?_
  rintro e wa ⟨rfl, hb⟩
  have Ha := Lib.hid (H0.out.up hb)
  have BLa := Lib.hid (BL0.out.below hb)
  have BRa := Lib.hid (BR0.out.below hb)
  clear hb kl H0 BL0 BR0 HH
  have kl := BLa.out.cell
  have kr := BRa.out.cell
  have fr := BRa.out.frozen
  go_wp2_with fail
  refine bodyPost_ret (v := .tuple #[.agg #[.slice A s.length n, .slice B c.length m, .int .i64 f, .bool x, .int .i64 b.n, .int .u64 b.c, .int .u64 b.b, .int .u64 b.o, .int .u64 b.p, .bool b.i, .bool b.r, .bool b.d, .int .u32 k], .int .i64 4]) (by simp [results, Tryz.results22, go_sem, kr]) rfl ⟨rfl, ?_⟩
  exact (Ha.out.setL (b := w.heap.size + 1) ⟨13, by simp⟩ [.slice A s.length n, .slice B c.length m, .int .i64 f, .bool x, .int .i64 b.n, .int .u64 b.c, .int .u64 b.b, .int .u64 b.o, .int .u64 b.p, .bool b.i, .bool b.r, .bool b.d, .int .u32 k] 0).below

set_option maxRecDepth 100000 in
set_option maxHeartbeats 4000000 in
theorem zwipe_out (A B : Option Addr) (n m : Nat) (s : List ByteArray) (c : List Wr) (f : Int) (x : Bool) (b : Sup) (k : Nat) (i : Int) (w : World) (hH : ∀ v, Calls Tryz.prog 43 #[.agg #[.slice A s.length n, .slice B c.length m, .int .i64 f, .bool x, .int .i64 b.n, .int .u64 b.c, .int .u64 b.b, .int .u64 b.o, .int .u64 b.p, .bool b.i, .bool b.r, .bool b.d, .int .u32 k], .int .i64 i] v fun e v' => e = .returned (.bool false) ∧ Below v.heap.size v v') : Calls Tryz.prog 23 #[.agg #[.slice A s.length n, .slice B c.length m, .int .i64 f, .bool x, .int .i64 b.n, .int .u64 b.c, .int .u64 b.b, .int .u64 b.o, .int .u64 b.p, .bool b.i, .bool b.r, .bool b.d, .int .u32 k], .int .i64 i] w fun e w' => e = .returned (.tuple #[.agg #[.slice A s.length n, .slice B c.length m, .int .i64 f, .bool x, .int .i64 b.n, .int .u64 b.c, .int .u64 b.b, .int .u64 b.o, .int .u64 b.p, .bool b.i, .bool b.r, .bool b.d, .int .u32 k], .int .i64 4]) ∧ Below w.heap.size w w' := by
  have HH := Lib.hid hH; clear hH
  have H0 := Lib.hid (((Held.refl w).own [.slice A s.length n, .slice B c.length m, .int .i64 f, .bool x, .int .i64 b.n, .int .u64 b.c, .int .u64 b.b, .int .u64 b.o, .int .u64 b.p, .bool b.i, .bool b.r, .bool b.d, .int .u32 k] 34 (n := 13) rfl).own [.slice none 0 0, .slice none 0 0, .int .i64 0, .bool false, .int .i64 0, .int .u64 0, .int .u64 0, .int .u64 0, .int .u64 0, .bool false, .bool false, .bool false, .int .u32 0] 34 (n := 13) rfl)
  have BL0 := Lib.hid ((Box.new w [.slice A s.length n, .slice B c.length m, .int .i64 f, .bool x, .int .i64 b.n, .int .u64 b.c, .int .u64 b.b, .int .u64 b.o, .int .u64 b.p, .bool b.i, .bool b.r, .bool b.d, .int .u32 k] 34).alloc (.cells ([.slice none 0 0, .slice none 0 0, .int .i64 0, .bool false, .int .i64 0, .int .u64 0, .int .u64 0, .int .u64 0, .int .u64 0, .bool false, .bool false, .bool false, .int .u32 0] : List Value).toArray 34))
  have BR0 := Lib.hid (Box.new2 w (.cells ([.slice A s.length n, .slice B c.length m, .int .i64 f, .bool x, .int .i64 b.n, .int .u64 b.c, .int .u64 b.b, .int .u64 b.o, .int .u64 b.p, .bool b.i, .bool b.r, .bool b.d, .int .u32 k] : List Value).toArray 34) [.slice none 0 0, .slice none 0 0, .int .i64 0, .bool false, .int .i64 0, .int .u64 0, .int .u64 0, .int .u64 0, .int .u64 0, .bool false, .bool false, .bool false, .int .u32 0] 34)
  rw [World.size_alloc] at H0
  have kl := BL0.out.cell
  go_enter Tryz.func23, Tryz.ntmps23
  go_wp2_with fail
  refine (HH.out _).mono ?_
  rintro e wa ⟨rfl, hb⟩
  have Ha := Lib.hid (H0.out.up hb)
  have BLa := Lib.hid (BL0.out.below hb)
  have BRa := Lib.hid (BR0.out.below hb)
  clear hb kl H0 BL0 BR0 HH
  have kl := BLa.out.cell
  have kr := BRa.out.cell
  have fr := BRa.out.frozen
  go_wp2_with fail
  refine bodyPost_ret (v := .tuple #[.agg #[.slice A s.length n, .slice B c.length m, .int .i64 f, .bool x, .int .i64 b.n, .int .u64 b.c, .int .u64 b.b, .int .u64 b.o, .int .u64 b.p, .bool b.i, .bool b.r, .bool b.d, .int .u32 k], .int .i64 4]) (by simp [results, Tryz.results23, go_sem, kr]) rfl ⟨rfl, ?_⟩
  exact (Ha.out.setL (b := w.heap.size + 1) ⟨13, by simp⟩ [.slice A s.length n, .slice B c.length m, .int .i64 f, .bool x, .int .i64 b.n, .int .u64 b.c, .int .u64 b.b, .int .u64 b.o, .int .u64 b.p, .bool b.i, .bool b.r, .bool b.d, .int .u32 k] 0).below

set_option maxRecDepth 100000 in
set_option maxHeartbeats 4000000 in
theorem zmark_in (A B : Option Addr) (n m : Nat) (s : List ByteArray) (c : List Wr) (f : Int) (x : Bool) (b : Sup) (k : Nat) (i : Int) (w : World) (hH : ∀ v, Calls Tryz.prog 43 #[.agg #[.slice A s.length n, .slice B c.length m, .int .i64 f, .bool x, .int .i64 b.n, .int .u64 b.c, .int .u64 b.b, .int .u64 b.o, .int .u64 b.p, .bool b.i, .bool b.r, .bool b.d, .int .u32 k], .int .i64 i] v fun e v' => e = .returned (.bool true) ∧ Below v.heap.size v v') (s1 : List ByteArray) (c1 : List Wr) (f1 : Int) (x1 : Bool) (k1 : Nat) (e1 : Int) (hR : ∀ v, Below w.heap.size w v → Calls Tryz.prog 27 #[.agg #[.slice A s.length n, .slice B c.length m, .int .i64 f, .bool x, .int .i64 b.n, .int .u64 b.c, .int .u64 b.b, .int .u64 b.o, .int .u64 b.p, .bool b.i, .bool b.r, .bool b.d, .int .u32 k], .int .u32 (setB 0 [i] : Nat)] v fun e v' => ∃ A1 B1 n1 m1, e = .returned (.tuple #[.agg #[.slice A1 s1.length n1, .slice B1 c1.length m1, .int .i64 f1, .bool x1, .int .i64 b.n, .int .u64 b.c, .int .u64 b.b, .int .u64 b.o, .int .u64 b.p, .bool b.i, .bool b.r, .bool b.d, .int .u32 k1], .int .i64 e1]) ∧ Mem v' A1 n1 B1 m1 s1 c1 ∧ Below v.heap.size v v') :
    Calls Tryz.prog 22 #[.agg #[.slice A s.length n, .slice B c.length m, .int .i64 f, .bool x, .int .i64 b.n, .int .u64 b.c, .int .u64 b.b, .int .u64 b.o, .int .u64 b.p, .bool b.i, .bool b.r, .bool b.d, .int .u32 k], .int .i64 i] w fun e w' => ∃ A1 B1 n1 m1, e = .returned (.tuple #[.agg #[.slice A1 s1.length n1, .slice B1 c1.length m1, .int .i64 f1, .bool x1, .int .i64 b.n, .int .u64 b.c, .int .u64 b.b, .int .u64 b.o, .int .u64 b.p, .bool b.i, .bool b.r, .bool b.d, .int .u32 k1], .int .i64 e1]) ∧ Mem w' A1 n1 B1 m1 s1 c1 ∧ Below w.heap.size w w' := by
  have HR := Lib.hid hR; clear hR
  have HC := Lib.hid (show ∀ (v v2 : World), Cs .i64 v2 (v.heap.size + 1) (some ⟨v.heap.size, 0, none⟩) [i] → Calls Tryz.prog 44 #[.int .u32 0, .slice (some ⟨v.heap.size, 0, none⟩) 1 1] v2 fun e w' => e = .returned (.int .u32 (setB 0 [i] : Nat)) ∧ w' = v2 from fun v v2 h => set_any 0 (some ⟨v.heap.size, 0, none⟩) 1 [i] v2 _ (by decide) h (by simp [maxLen]))
  generalize setB 0 [i] = kk at *
  have HH := Lib.hid hH; clear hH
  have H0 := Lib.hid (((Held.refl w).lay [.slice A s.length n, .slice B c.length m, .int .i64 f, .bool x, .int .i64 b.n, .int .u64 b.c, .int .u64 b.b, .int .u64 b.o, .int .u64 b.p, .bool b.i, .bool b.r, .bool b.d, .int .u32 k] 34).own [.slice none 0 0, .slice none 0 0, .int .i64 0, .bool false, .int .i64 0, .int .u64 0, .int .u64 0, .int .u64 0, .int .u64 0, .bool false, .bool false, .bool false, .int .u32 0] 34 (n := 13) rfl)
  have BR0 := Lib.hid (Box.new2 w (.cells ([.slice A s.length n, .slice B c.length m, .int .i64 f, .bool x, .int .i64 b.n, .int .u64 b.c, .int .u64 b.b, .int .u64 b.o, .int .u64 b.p, .bool b.i, .bool b.r, .bool b.d, .int .u32 k] : List Value).toArray 34) [.slice none 0 0, .slice none 0 0, .int .i64 0, .bool false, .int .i64 0, .int .u64 0, .int .u64 0, .int .u64 0, .int .u64 0, .bool false, .bool false, .bool false, .int .u32 0] 34)
  rw [World.size_alloc] at H0
  have kl := ((Box.new w [.slice A s.length n, .slice B c.length m, .int .i64 f, .bool x, .int .i64 b.n, .int .u64 b.c, .int .u64 b.b, .int .u64 b.o, .int .u64 b.p, .bool b.i, .bool b.r, .bool b.d, .int .u32 k] 34).alloc (.cells ([.slice none 0 0, .slice none 0 0, .int .i64 0, .bool false, .int .i64 0, .int .u64 0, .int .u64 0, .int .u64 0, .int .u64 0, .bool false, .bool false, .bool false, .int .u32 0] : List Value).toArray 34)).cell
  go_enter Tryz.func22, Tryz.ntmps22
  go_wp2_with fail
  refine (HH.out _).mono ?_
  rintro e wa ⟨rfl, hb⟩
  have Ha := Lib.hid (H0.out.up hb)
  have BRa := Lib.hid (BR0.out.below hb)
  clear hb kl H0 BR0 HH
  go_wp2_with fail
  refine held_start (S := Held w [(w.heap.size, [.slice A s.length n, .slice B c.length m, .int .i64 f, .bool x, .int .i64 b.n, .int .u64 b.c, .int .u64 b.b, .int .u64 b.o, .int .u64 b.p, .bool b.i, .bool b.r, .bool b.d, .int .u32 k])] [(w.heap.size + 1, 13)]) (by kernel_rfl) Ha.out.drew (fun v0 hv0 hH0 => ?_)
  have X0 : Hid (Box v0 (w.heap.size + 1) [.slice none 0 0, .slice none 0 0, .int .i64 0, .bool false, .int .i64 0, .int .u64 0, .int .u64 0, .int .u64 0, .int .u64 0, .bool false, .bool false, .bool false, .int .u32 0]) := BRa.out.below hv0
  clear hv0 Ha BRa
  refine wpAnyH_take (i := 0) (v := ?_) rfl (by kernel_rfl) (by kernel_rfl) (by kernel_rfl) (fun _ _ _ h => h) (Or.inl ⟨by rfl, ?_⟩) hH0 ?_
  rotate_left
  · (intro v hSw; have k0 := hSw.b0.cell; go_simp; try with_reducible rfl)
  simp only [Act.put, List.setIfInBounds_toArray, List.set_cons_zero, List.set_cons_succ, List.getElem_toArray, List.getElem_cons_zero]
  refine wpAnyH_take (i := 1) (v := ?_) rfl (by kernel_rfl) (by kernel_rfl) (by kernel_rfl) (fun _ _ _ h => h) (Or.inl ⟨by rfl, ?_⟩) hH0 ?_
  rotate_left
  · (intro v hSw; go_simp; try with_reducible rfl)
  simp only [Act.put, List.setIfInBounds_toArray, List.set_cons_zero, List.set_cons_succ, List.getElem_toArray, List.getElem_cons_zero, List.getElem_cons_succ]
  refine wpAnyH_ready (rs := [2]) (by kernel_rfl) (by simp) ?_
  refine AllReadyH.cons rfl (fun K hK => ?_) AllReadyH.nil
  go_simp
  refine hK.out _ _ (hH0.alloc _) (fun hH1 => ?_)
  have XA := Lib.hid (X0.out.alloc (.cells #[.int .i64 i] 3))
  have CA := Lib.hid (show Cs .i64 (v0.alloc (.cells #[.int .i64 i] 3)) (v0.heap.size + 1) (some ⟨v0.heap.size, 0, none⟩) [i] from cs_new .i64 v0 [i] 3)
  generalize v0.alloc (.cells #[.int .i64 i] 3) = v1 at *
  clear hK K hH0 X0
  refine wpAnyH_ready (rs := [3]) (by kernel_rfl) (by simp) ?_
  refine AllReadyH.cons rfl (fun K hK => ?_) AllReadyH.nil
  go_simp
  refine (HC.out _ _ CA.out).mono ?_
  rintro e v2 ⟨rfl, hw⟩
  rw [hw]
  clear hw
  go_wp2_with fail
  refine hK.out _ _ hH1 (fun hH2 => ?_)
  clear hK K hH1
  refine wpAnyH_ready (rs := [4]) (by kernel_rfl) (by simp) ?_
  refine AllReadyH.cons rfl (fun K hK => ?_) AllReadyH.nil
  go_simp
  refine (HR.out v1 hH2.below).mono ?_
  rintro e v3 ⟨A1, B1, n1, m1, rfl, hm1, hb⟩
  have hm1 := Lib.hid hm1
  have XB := Lib.hid (XA.out.below hb)
  go_wp2_with fail
  refine hK.out _ _ (hH2.up hb) (fun hH3 => ?_)
  clear hK K hH2 hb XA
  refine wpAnyH_take (i := 5) (v := ?_) rfl (by kernel_rfl) (by kernel_rfl) (by kernel_rfl) (fun _ _ _ h => h) (Or.inl ⟨by rfl, ?_⟩) hH3 ?_
  rotate_left
  · (intro v hSw; go_simp; try with_reducible rfl)
  simp only [Act.put, List.setIfInBounds_toArray, List.set_cons_zero, List.set_cons_succ, List.getElem_toArray, List.getElem_cons_zero, List.getElem_cons_succ]
  refine wpAnyH_take (i := 6) (v := ?_) rfl (by kernel_rfl) (by kernel_rfl) (by kernel_rfl) (fun _ _ _ h => h) (Or.inl ⟨by rfl, ?_⟩) hH3 ?_
  rotate_left
  · (intro v hSw; go_simp; try with_reducible rfl)
  simp only [Act.put, List.setIfInBounds_toArray, List.set_cons_zero, List.set_cons_succ, List.getElem_toArray, List.getElem_cons_zero, List.getElem_cons_succ]
  refine wpAnyH_ready (rs := [7]) (by kernel_rfl) (by simp) ?_
  refine AllReadyH.cons rfl (fun K hK => ?_) AllReadyH.nil
  have kx := XB.out.cell
  have fx := XB.out.frozen
  go_simp
  refine hK.out _ _ (hH3.setL (b := w.heap.size + 1) ⟨13, by simp⟩ [.slice A1 s1.length n1, .slice B1 c1.length m1, .int .i64 f1, .bool x1, .int .i64 b.n, .int .u64 b.c, .int .u64 b.b, .int .u64 b.o, .int .u64 b.p, .bool b.i, .bool b.r, .bool b.d, .int .u32 k1] 0) (fun hH4 => ?_)
  have hm2 := Lib.hid (hm1.out.setL [.slice A1 s1.length n1, .slice B1 c1.length m1, .int .i64 f1, .bool x1, .int .i64 b.n, .int .u64 b.c, .int .u64 b.b, .int .u64 b.o, .int .u64 b.p, .bool b.i, .bool b.r, .bool b.d, .int .u32 k1] 0 XB.out (noText_st 0 0 0 false Sup.zero 0 none 0 none 0) (noText_st s1.length c1.length f1 x1 b k1 A1 n1 B1 m1))
  have hy := Lib.hid (show Box _ (w.heap.size + 1) [.slice A1 s1.length n1, .slice B1 c1.length m1, .int .i64 f1, .bool x1, .int .i64 b.n, .int .u64 b.c, .int .u64 b.b, .int .u64 b.o, .int .u64 b.p, .bool b.i, .bool b.r, .bool b.d, .int .u32 k1] from XB.out.setL [.slice A1 s1.length n1, .slice B1 c1.length m1, .int .i64 f1, .bool x1, .int .i64 b.n, .int .u64 b.c, .int .u64 b.b, .int .u64 b.o, .int .u64 b.p, .bool b.i, .bool b.r, .bool b.d, .int .u32 k1] 0)
  clear kx fx
  generalize hW : setL v3 (w.heap.size + 1) 0 [.slice A1 s1.length n1, .slice B1 c1.length m1, .int .i64 f1, .bool x1, .int .i64 b.n, .int .u64 b.c, .int .u64 b.b, .int .u64 b.o, .int .u64 b.p, .bool b.i, .bool b.r, .bool b.d, .int .u32 k1] = v4 at *
  simp only [setL, Nat.zero_add, Nat.reduceAdd] at hW
  simp only [hW] at hH4 ⊢
  clear hW hK K hH3 XB hm1
  refine wpAnyH_take (i := 8) (v := ?_) rfl (by kernel_rfl) (by kernel_rfl) (by kernel_rfl) (fun _ _ _ h => h) (Or.inl ⟨by rfl, ?_⟩) hH4 ?_
  rotate_left
  · (intro v hSw; go_simp; try with_reducible rfl)
  simp only [Act.put, List.setIfInBounds_toArray, List.set_cons_zero, List.set_cons_succ, List.getElem_toArray, List.getElem_cons_zero, List.getElem_cons_succ]
  refine wpAnyH_done (by kernel_rfl) ?_ _
  have H9 := Lib.hid hH4
  have kr := hy.out.cell
  go_wp2_with fail
  refine bodyPost_ret (v := .tuple #[.agg #[.slice A1 s1.length n1, .slice B1 c1.length m1, .int .i64 f1, .bool x1, .int .i64 b.n, .int .u64 b.c, .int .u64 b.b, .int .u64 b.o, .int .u64 b.p, .bool b.i, .bool b.r, .bool b.d, .int .u32 k1], .int .i64 e1]) (by simp [results, Tryz.results22, go_sem, kr]) rfl ?_
  exact ⟨A1, B1, n1, m1, rfl, hm2.out, H9.out.below⟩

set_option maxRecDepth 100000 in
set_option maxHeartbeats 4000000 in
theorem zwipe_same (A B : Option Addr) (n m : Nat) (s : List ByteArray) (c : List Wr) (f : Int) (x : Bool) (b : Sup) (k : Nat) (i : Int) (w : World) (hH : ∀ v, Calls Tryz.prog 43 #[.agg #[.slice A s.length n, .slice B c.length m, .int .i64 f, .bool x, .int .i64 b.n, .int .u64 b.c, .int .u64 b.b, .int .u64 b.o, .int .u64 b.p, .bool b.i, .bool b.r, .bool b.d, .int .u32 k], .int .i64 i] v fun e v' => e = .returned (.bool true) ∧ Below v.heap.size v v') (hM : ∀ v, Calls Tryz.prog 45 #[.int .u32 k, .int .i64 i] v fun e v' => e = .returned (.bool false) ∧ Below v.heap.size v v') :
    Calls Tryz.prog 23 #[.agg #[.slice A s.length n, .slice B c.length m, .int .i64 f, .bool x, .int .i64 b.n, .int .u64 b.c, .int .u64 b.b, .int .u64 b.o, .int .u64 b.p, .bool b.i, .bool b.r, .bool b.d, .int .u32 k], .int .i64 i] w fun e w' => e = .returned (.tuple #[.agg #[.slice A s.length n, .slice B c.length m, .int .i64 f, .bool x, .int .i64 b.n, .int .u64 b.c, .int .u64 b.b, .int .u64 b.o, .int .u64 b.p, .bool b.i, .bool b.r, .bool b.d, .int .u32 k], .int .i64 0]) ∧ Below w.heap.size w w' := by
  have HM := Lib.hid hM; clear hM
  have HH := Lib.hid hH; clear hH
  have H0 := Lib.hid (((Held.refl w).own [.slice A s.length n, .slice B c.length m, .int .i64 f, .bool x, .int .i64 b.n, .int .u64 b.c, .int .u64 b.b, .int .u64 b.o, .int .u64 b.p, .bool b.i, .bool b.r, .bool b.d, .int .u32 k] 34 (n := 13) rfl).own [.slice none 0 0, .slice none 0 0, .int .i64 0, .bool false, .int .i64 0, .int .u64 0, .int .u64 0, .int .u64 0, .int .u64 0, .bool false, .bool false, .bool false, .int .u32 0] 34 (n := 13) rfl)
  have BL0 := Lib.hid ((Box.new w [.slice A s.length n, .slice B c.length m, .int .i64 f, .bool x, .int .i64 b.n, .int .u64 b.c, .int .u64 b.b, .int .u64 b.o, .int .u64 b.p, .bool b.i, .bool b.r, .bool b.d, .int .u32 k] 34).alloc (.cells ([.slice none 0 0, .slice none 0 0, .int .i64 0, .bool false, .int .i64 0, .int .u64 0, .int .u64 0, .int .u64 0, .int .u64 0, .bool false, .bool false, .bool false, .int .u32 0] : List Value).toArray 34))
  have BR0 := Lib.hid (Box.new2 w (.cells ([.slice A s.length n, .slice B c.length m, .int .i64 f, .bool x, .int .i64 b.n, .int .u64 b.c, .int .u64 b.b, .int .u64 b.o, .int .u64 b.p, .bool b.i, .bool b.r, .bool b.d, .int .u32 k] : List Value).toArray 34) [.slice none 0 0, .slice none 0 0, .int .i64 0, .bool false, .int .i64 0, .int .u64 0, .int .u64 0, .int .u64 0, .int .u64 0, .bool false, .bool false, .bool false, .int .u32 0] 34)
  rw [World.size_alloc] at H0
  have kl := BL0.out.cell
  go_enter Tryz.func23, Tryz.ntmps23
  go_wp2_with fail
  refine (HH.out _).mono ?_
  rintro e wa ⟨rfl, hb⟩
  have Ha := Lib.hid (H0.out.up hb)
  have BLa := Lib.hid (BL0.out.below hb)
  have BRa := Lib.hid (BR0.out.below hb)
  clear hb kl H0 BL0 BR0 HH
  have kl := BLa.out.cell
  go_wp2_with fail
  refine (HM.out _).mono ?_
  rintro e wb ⟨rfl, hb⟩
  have Hb := Lib.hid (Ha.out.up hb)
  have BLb := Lib.hid (BLa.out.below hb)
  have BRb := Lib.hid (BRa.out.below hb)
  clear hb kl Ha BLa BRa HM
  have kl := BLb.out.cell
  have kr := BRb.out.cell
  have fr := BRb.out.frozen
  go_wp2_with fail
  refine bodyPost_ret (v := .tuple #[.agg #[.slice A s.length n, .slice B c.length m, .int .i64 f, .bool x, .int .i64 b.n, .int .u64 b.c, .int .u64 b.b, .int .u64 b.o, .int .u64 b.p, .bool b.i, .bool b.r, .bool b.d, .int .u32 k], .int .i64 0]) (by simp [results, Tryz.results23, go_sem, kr]) rfl ⟨rfl, ?_⟩
  exact (Hb.out.setL (b := w.heap.size + 1) ⟨13, by simp⟩ [.slice A s.length n, .slice B c.length m, .int .i64 f, .bool x, .int .i64 b.n, .int .u64 b.c, .int .u64 b.b, .int .u64 b.o, .int .u64 b.p, .bool b.i, .bool b.r, .bool b.d, .int .u32 k] 0).below

set_option maxRecDepth 100000 in
set_option maxHeartbeats 4000000 in
theorem zwipe_do (A B : Option Addr) (n m : Nat) (s : List ByteArray) (c : List Wr) (f : Int) (x : Bool) (b : Sup) (k : Nat) (i : Int) (w : World) (hk : k < 4294967296) (hH : ∀ v, Calls Tryz.prog 43 #[.agg #[.slice A s.length n, .slice B c.length m, .int .i64 f, .bool x, .int .i64 b.n, .int .u64 b.c, .int .u64 b.b, .int .u64 b.o, .int .u64 b.p, .bool b.i, .bool b.r, .bool b.d, .int .u32 k], .int .i64 i] v fun e v' => e = .returned (.bool true) ∧ Below v.heap.size v v') (hM : ∀ v, Calls Tryz.prog 45 #[.int .u32 k, .int .i64 i] v fun e v' => e = .returned (.bool true) ∧ Below v.heap.size v v') (s1 : List ByteArray) (c1 : List Wr) (f1 : Int) (x1 : Bool) (k1 : Nat) (e1 : Int) (hR : ∀ v, Below w.heap.size w v → Calls Tryz.prog 46 #[.agg #[.slice A s.length n, .slice B c.length m, .int .i64 f, .bool x, .int .i64 b.n, .int .u64 b.c, .int .u64 b.b, .int .u64 b.o, .int .u64 b.p, .bool b.i, .bool b.r, .bool b.d, .int .u32 k], .int .u32 (clrB k [i] : Nat), .func (.func 48) #[] #[]] v fun e v' => ∃ A1 B1 n1 m1, e = .returned (.tuple #[.agg #[.slice A1 s1.length n1, .slice B1 c1.length m1, .int .i64 f1, .bool x1, .int .i64 b.n, .int .u64 b.c, .int .u64 b.b, .int .u64 b.o, .int .u64 b.p, .bool b.i, .bool b.r, .bool b.d, .int .u32 k1], .int .i64 e1]) ∧ Mem v' A1 n1 B1 m1 s1 c1 ∧ Below v.heap.size v v') :
    Calls Tryz.prog 23 #[.agg #[.slice A s.length n, .slice B c.length m, .int .i64 f, .bool x, .int .i64 b.n, .int .u64 b.c, .int .u64 b.b, .int .u64 b.o, .int .u64 b.p, .bool b.i, .bool b.r, .bool b.d, .int .u32 k], .int .i64 i] w fun e w' => ∃ A1 B1 n1 m1, e = .returned (.tuple #[.agg #[.slice A1 s1.length n1, .slice B1 c1.length m1, .int .i64 f1, .bool x1, .int .i64 b.n, .int .u64 b.c, .int .u64 b.b, .int .u64 b.o, .int .u64 b.p, .bool b.i, .bool b.r, .bool b.d, .int .u32 k1], .int .i64 e1]) ∧ Mem w' A1 n1 B1 m1 s1 c1 ∧ Below w.heap.size w w' := by
  have HM := Lib.hid hM; clear hM
  have HR := Lib.hid hR; clear hR
  have HC := Lib.hid (show ∀ (v v2 : World), Cs .i64 v2 (v.heap.size + 1) (some ⟨v.heap.size, 0, none⟩) [i] → Calls Tryz.prog 47 #[.int .u32 k, .slice (some ⟨v.heap.size, 0, none⟩) 1 1] v2 fun e w' => e = .returned (.int .u32 (clrB k [i] : Nat)) ∧ w' = v2 from fun v v2 h => clear_any k (some ⟨v.heap.size, 0, none⟩) 1 [i] v2 _ hk h (by simp [maxLen]))
  clear hk
  generalize clrB k [i] = kk at *
  have HH := Lib.hid hH; clear hH
  have H0 := Lib.hid (((Held.refl w).lay [.slice A s.length n, .slice B c.length m, .int .i64 f, .bool x, .int .i64 b.n, .int .u64 b.c, .int .u64 b.b, .int .u64 b.o, .int .u64 b.p, .bool b.i, .bool b.r, .bool b.d, .int .u32 k] 34).own [.slice none 0 0, .slice none 0 0, .int .i64 0, .bool false, .int .i64 0, .int .u64 0, .int .u64 0, .int .u64 0, .int .u64 0, .bool false, .bool false, .bool false, .int .u32 0] 34 (n := 13) rfl)
  have BR0 := Lib.hid (Box.new2 w (.cells ([.slice A s.length n, .slice B c.length m, .int .i64 f, .bool x, .int .i64 b.n, .int .u64 b.c, .int .u64 b.b, .int .u64 b.o, .int .u64 b.p, .bool b.i, .bool b.r, .bool b.d, .int .u32 k] : List Value).toArray 34) [.slice none 0 0, .slice none 0 0, .int .i64 0, .bool false, .int .i64 0, .int .u64 0, .int .u64 0, .int .u64 0, .int .u64 0, .bool false, .bool false, .bool false, .int .u32 0] 34)
  rw [World.size_alloc] at H0
  have kl := ((Box.new w [.slice A s.length n, .slice B c.length m, .int .i64 f, .bool x, .int .i64 b.n, .int .u64 b.c, .int .u64 b.b, .int .u64 b.o, .int .u64 b.p, .bool b.i, .bool b.r, .bool b.d, .int .u32 k] 34).alloc (.cells ([.slice none 0 0, .slice none 0 0, .int .i64 0, .bool false, .int .i64 0, .int .u64 0, .int .u64 0, .int .u64 0, .int .u64 0, .bool false, .bool false, .bool false, .int .u32 0] : List Value).toArray 34)).cell
  go_enter Tryz.func23, Tryz.ntmps23
  go_wp2_with fail
  refine (HH.out _).mono ?_
  rintro e wa ⟨rfl, hb⟩
  have Ha := Lib.hid (H0.out.up hb)
  have BRa := Lib.hid (BR0.out.below hb)
  clear hb kl H0 BR0 HH
  have kl := Ha.out.b0.cell
  go_wp2_with fail
  refine (HM.out _).mono ?_
  rintro e wb ⟨rfl, hb⟩
  have Hb := Lib.hid (Ha.out.up hb)
  have BRb := Lib.hid (BRa.out.below hb)
  clear hb kl Ha BRa HM
  go_wp2_with fail
  refine held_start (S := Held w [(w.heap.size, [.slice A s.length n, .slice B c.length m, .int .i64 f, .bool x, .int .i64 b.n, .int .u64 b.c, .int .u64 b.b, .int .u64 b.o, .int .u64 b.p, .bool b.i, .bool b.r, .bool b.d, .int .u32 k])] [(w.heap.size + 1, 13)]) (by kernel_rfl) Hb.out.drew (fun v0 hv0 hH0 => ?_)
  have X0 : Hid (Box v0 (w.heap.size + 1) [.slice none 0 0, .slice none 0 0, .int .i64 0, .bool false, .int .i64 0, .int .u64 0, .int .u64 0, .int .u64 0, .int .u64 0, .bool false, .bool false, .bool false, .int .u32 0]) := BRb.out.below hv0
  clear hv0 Hb BRb
  refine wpAnyH_take (i := 0) (v := ?_) rfl (by kernel_rfl) (by kernel_rfl) (by kernel_rfl) (fun _ _ _ h => h) (Or.inl ⟨by rfl, ?_⟩) hH0 ?_
  rotate_left
  · (intro v hSw; have k0 := hSw.b0.cell; go_simp; try with_reducible rfl)
  simp only [Act.put, List.setIfInBounds_toArray, List.set_cons_zero, List.set_cons_succ, List.getElem_toArray, List.getElem_cons_zero]
  refine wpAnyH_take (i := 1) (v := ?_) rfl (by kernel_rfl) (by kernel_rfl) (by kernel_rfl) (fun _ _ _ h => h) (Or.inl ⟨by rfl, ?_⟩) hH0 ?_
  rotate_left
  · (intro v hSw; go_simp; try with_reducible rfl)
  simp only [Act.put, List.setIfInBounds_toArray, List.set_cons_zero, List.set_cons_succ, List.getElem_toArray, List.getElem_cons_zero, List.getElem_cons_succ]
  refine wpAnyH_take (i := 2) (v := ?_) rfl (by kernel_rfl) (by kernel_rfl) (by kernel_rfl) (fun _ _ _ h => h) (Or.inl ⟨by rfl, ?_⟩) hH0 ?_
  rotate_left
  · (intro v hSw; have k0 := hSw.b0.cell; go_simp; try with_reducible rfl)
  simp only [Act.put, List.setIfInBounds_toArray, List.set_cons_zero, List.set_cons_succ, List.getElem_toArray, List.getElem_cons_zero, List.getElem_cons_succ]
  refine wpAnyH_take (i := 3) (v := ?_) rfl (by kernel_rfl) (by kernel_rfl) (by kernel_rfl) (fun _ _ _ h => h) (Or.inl ⟨by rfl, ?_⟩) hH0 ?_
  rotate_left
  · (intro v hSw; go_simp; try with_reducible rfl)
  simp only [Act.put, List.setIfInBounds_toArray, List.set_cons_zero, List.set_cons_succ, List.getElem_toArray, List.getElem_cons_zero, List.getElem_cons_succ]
  refine wpAnyH_ready (rs := [4]) (by kernel_rfl) (by simp) ?_
  refine AllReadyH.cons rfl (fun K hK => ?_) AllReadyH.nil
  go_simp
  refine hK.out _ _ (hH0.alloc _) (fun hH1 => ?_)
  have XA := Lib.hid (X0.out.alloc (.cells #[.int .i64 i] 3))
  have CA := Lib.hid (show Cs .i64 (v0.alloc (.cells #[.int .i64 i] 3)) (v0.heap.size + 1) (some ⟨v0.heap.size, 0, none⟩) [i] from cs_new .i64 v0 [i] 3)
  generalize v0.alloc (.cells #[.int .i64 i] 3) = v1 at *
  clear hK K hH0 X0
  refine wpAnyH_ready (rs := [5]) (by kernel_rfl) (by simp) ?_
  refine AllReadyH.cons rfl (fun K hK => ?_) AllReadyH.nil
  go_simp
  refine (HC.out _ _ CA.out).mono ?_
  rintro e v2 ⟨rfl, hw⟩
  rw [hw]
  clear hw
  go_wp2_with fail
  refine hK.out _ _ hH1 (fun hH2 => ?_)
  clear hK K hH1
  refine wpAnyH_ready (rs := [6]) (by kernel_rfl) (by simp) ?_
  refine AllReadyH.cons rfl (fun K hK => ?_) AllReadyH.nil
  go_simp
  refine (HR.out v1 hH2.below).mono ?_
  rintro e v3 ⟨A1, B1, n1, m1, rfl, hm1, hb⟩
  have hm1 := Lib.hid hm1
  have XB := Lib.hid (XA.out.below hb)
  go_wp2_with fail
  refine hK.out _ _ (hH2.up hb) (fun hH3 => ?_)
  clear hK K hH2 hb XA
  refine wpAnyH_take (i := 7) (v := ?_) rfl (by kernel_rfl) (by kernel_rfl) (by kernel_rfl) (fun _ _ _ h => h) (Or.inl ⟨by rfl, ?_⟩) hH3 ?_
  rotate_left
  · (intro v hSw; go_simp; try with_reducible rfl)
  simp only [Act.put, List.setIfInBounds_toArray, List.set_cons_zero, List.set_cons_succ, List.getElem_toArray, List.getElem_cons_zero, List.getElem_cons_succ]
  refine wpAnyH_take (i := 8) (v := ?_) rfl (by kernel_rfl) (by kernel_rfl) (by kernel_rfl) (fun _ _ _ h => h) (Or.inl ⟨by rfl, ?_⟩) hH3 ?_
  rotate_left
  · (intro v hSw; go_simp; try with_reducible rfl)
  simp only [Act.put, List.setIfInBounds_toArray, List.set_cons_zero, List.set_cons_succ, List.getElem_toArray, List.getElem_cons_zero, List.getElem_cons_succ]
  refine wpAnyH_ready (rs := [9]) (by kernel_rfl) (by simp) ?_
  refine AllReadyH.cons rfl (fun K hK => ?_) AllReadyH.nil
  have kx := XB.out.cell
  have fx := XB.out.frozen
  go_simp
  refine hK.out _ _ (hH3.setL (b := w.heap.size + 1) ⟨13, by simp⟩ [.slice A1 s1.length n1, .slice B1 c1.length m1, .int .i64 f1, .bool x1, .int .i64 b.n, .int .u64 b.c, .int .u64 b.b, .int .u64 b.o, .int .u64 b.p, .bool b.i, .bool b.r, .bool b.d, .int .u32 k1] 0) (fun hH4 => ?_)
  have hm2 := Lib.hid (hm1.out.setL [.slice A1 s1.length n1, .slice B1 c1.length m1, .int .i64 f1, .bool x1, .int .i64 b.n, .int .u64 b.c, .int .u64 b.b, .int .u64 b.o, .int .u64 b.p, .bool b.i, .bool b.r, .bool b.d, .int .u32 k1] 0 XB.out (noText_st 0 0 0 false Sup.zero 0 none 0 none 0) (noText_st s1.length c1.length f1 x1 b k1 A1 n1 B1 m1))
  have hy := Lib.hid (show Box _ (w.heap.size + 1) [.slice A1 s1.length n1, .slice B1 c1.length m1, .int .i64 f1, .bool x1, .int .i64 b.n, .int .u64 b.c, .int .u64 b.b, .int .u64 b.o, .int .u64 b.p, .bool b.i, .bool b.r, .bool b.d, .int .u32 k1] from XB.out.setL [.slice A1 s1.length n1, .slice B1 c1.length m1, .int .i64 f1, .bool x1, .int .i64 b.n, .int .u64 b.c, .int .u64 b.b, .int .u64 b.o, .int .u64 b.p, .bool b.i, .bool b.r, .bool b.d, .int .u32 k1] 0)
  clear kx fx
  generalize hW : setL v3 (w.heap.size + 1) 0 [.slice A1 s1.length n1, .slice B1 c1.length m1, .int .i64 f1, .bool x1, .int .i64 b.n, .int .u64 b.c, .int .u64 b.b, .int .u64 b.o, .int .u64 b.p, .bool b.i, .bool b.r, .bool b.d, .int .u32 k1] = v4 at *
  simp only [setL, Nat.zero_add, Nat.reduceAdd] at hW
  simp only [hW] at hH4 ⊢
  clear hW hK K hH3 XB hm1
  refine wpAnyH_take (i := 10) (v := ?_) rfl (by kernel_rfl) (by kernel_rfl) (by kernel_rfl) (fun _ _ _ h => h) (Or.inl ⟨by rfl, ?_⟩) hH4 ?_
  rotate_left
  · (intro v hSw; go_simp; try with_reducible rfl)
  simp only [Act.put, List.setIfInBounds_toArray, List.set_cons_zero, List.set_cons_succ, List.getElem_toArray, List.getElem_cons_zero, List.getElem_cons_succ]
  refine wpAnyH_done (by kernel_rfl) ?_ _
  have H9 := Lib.hid hH4
  have kr := hy.out.cell
  go_wp2_with fail
  refine bodyPost_ret (v := .tuple #[.agg #[.slice A1 s1.length n1, .slice B1 c1.length m1, .int .i64 f1, .bool x1, .int .i64 b.n, .int .u64 b.c, .int .u64 b.b, .int .u64 b.o, .int .u64 b.p, .bool b.i, .bool b.r, .bool b.d, .int .u32 k1], .int .i64 e1]) (by simp [results, Tryz.results23, go_sem, kr]) rfl ?_
  exact ⟨A1, B1, n1, m1, rfl, hm2.out, H9.out.below⟩

end Go.Proofs.YtjkgellkkjjnbaaGreatDoor
