/- Stores: what the document's Attach, New, Same and Whole answer, over what they call, for every disk within what they ask. -/
import Derived.Test.YtjkgellkkjjnbaaGreatDoorZD
namespace Go.Proofs.YtjkgellkkjjnbaaGreatDoor
open Go.RowKit

set_option maxRecDepth 100000 in
set_option maxHeartbeats 4000000 in
theorem rzattach_bad1 (A B : Option Addr) (n m : Nat) (s : List ByteArray) (c : List Wr) (f : Int) (x : Bool) (b : Sup) (e1 : Int) (w : World) (hR1 : (∀ v, Below w.heap.size w v → Calls Tryz.prog 31 #[.agg #[.slice A s.length n, .slice B c.length m, .int .i64 f, .bool x]] v fun e v' => e = .returned (.tuple #[.agg #[.int .i64 b.n, .int .u64 b.c, .int .u64 b.b, .int .u64 b.o, .int .u64 b.p, .bool b.i, .bool b.r, .bool b.d], .int .i64 e1]) ∧ Below v.heap.size v v')) (h1 : e1 ≠ 0) :
    Calls Tryz.prog 11 #[.agg #[.slice A s.length n, .slice B c.length m, .int .i64 f, .bool x]] w fun e w' => e = .returned (.tuple #[.agg #[.slice none 0 0, .slice none 0 0, .int .i64 0, .bool false, .int .i64 0, .int .u64 0, .int .u64 0, .int .u64 0, .int .u64 0, .bool false, .bool false, .bool false, .int .u32 0], .int .i64 e1]) ∧ Below w.heap.size w w' := by
  have HR1 := Lib.hid hR1; clear hR1
  have hne : (e1 == 0) = false := beq_eq_false_iff_ne.2 h1
  have hnb : (e1 != 0) = true := by simp [bne, hne]
  clear h1
  have H0 := Lib.hid (((Held.refl w).lay [.slice A s.length n, .slice B c.length m, .int .i64 f, .bool x] 25).own [.slice none 0 0, .slice none 0 0, .int .i64 0, .bool false, .int .i64 0, .int .u64 0, .int .u64 0, .int .u64 0, .int .u64 0, .bool false, .bool false, .bool false, .int .u32 0] 34 (n := 13) rfl)
  have BR0 := Lib.hid (Box.new2 w (.cells ([.slice A s.length n, .slice B c.length m, .int .i64 f, .bool x] : List Value).toArray 25) [.slice none 0 0, .slice none 0 0, .int .i64 0, .bool false, .int .i64 0, .int .u64 0, .int .u64 0, .int .u64 0, .int .u64 0, .bool false, .bool false, .bool false, .int .u32 0] 34)
  rw [World.size_alloc] at H0
  have kd := ((Box.new w [.slice A s.length n, .slice B c.length m, .int .i64 f, .bool x] 25).alloc (.cells ([.slice none 0 0, .slice none 0 0, .int .i64 0, .bool false, .int .i64 0, .int .u64 0, .int .u64 0, .int .u64 0, .int .u64 0, .bool false, .bool false, .bool false, .int .u32 0] : List Value).toArray 34)).cell
  go_enter Tryz.func11, Tryz.ntmps11
  go_wp2_with fail
  refine (HR1.out _ H0.out.below).mono ?_
  rintro e w1 ⟨rfl, hb⟩
  have H1 := Lib.hid (H0.out.up hb)
  have BR1 := Lib.hid (BR0.out.below hb)
  have hlt := BR1.out.lt
  clear hb kd H0 BR0
  go_upto_region 2 with fail
  have BS2 := Lib.hid (Box.new w1 [.int .i64 b.n, .int .u64 b.c, .int .u64 b.b, .int .u64 b.o, .int .u64 b.p, .bool b.i, .bool b.r, .bool b.d] 31)
  have hb : Below w1.heap.size w1 (w1.alloc (.cells ([.int .i64 b.n, .int .u64 b.c, .int .u64 b.b, .int .u64 b.o, .int .u64 b.p, .bool b.i, .bool b.r, .bool b.d] : List Value).toArray 31)) := below1
  have H2 := Lib.hid (H1.out.up hb)
  have BR2 := Lib.hid (BR1.out.below hb)
  generalize w1.alloc (.cells #[.int .i64 b.n, .int .u64 b.c, .int .u64 b.b, .int .u64 b.o, .int .u64 b.p, .bool b.i, .bool b.r, .bool b.d] 31) = w2 at *
  clear hb H1 BR1
  have kr := BR2.out.cell
  have fr := BR2.out.frozen
  go_wp2_with fail
  refine bodyPost_ret (v := .tuple #[.agg #[.slice none 0 0, .slice none 0 0, .int .i64 0, .bool false, .int .i64 0, .int .u64 0, .int .u64 0, .int .u64 0, .int .u64 0, .bool false, .bool false, .bool false, .int .u32 0], .int .i64 e1]) (by simp [results, Tryz.results11, go_sem, kr]) rfl ⟨rfl, ?_⟩
  exact (H2.out.setL (b := w.heap.size + 1) ⟨13, by simp⟩ [.slice none 0 0, .slice none 0 0, .int .i64 0, .bool false, .int .i64 0, .int .u64 0, .int .u64 0, .int .u64 0, .int .u64 0, .bool false, .bool false, .bool false, .int .u32 0] 0).below

set_option maxRecDepth 100000 in
set_option maxHeartbeats 4000000 in
theorem rzattach_bad2 (A B : Option Addr) (n m : Nat) (s : List ByteArray) (c : List Wr) (f : Int) (x : Bool) (b : Sup) (k : Nat) (e1 e2 : Int) (w : World) (hR1 : (∀ v, Below w.heap.size w v → Calls Tryz.prog 31 #[.agg #[.slice A s.length n, .slice B c.length m, .int .i64 f, .bool x]] v fun e v' => e = .returned (.tuple #[.agg #[.int .i64 b.n, .int .u64 b.c, .int .u64 b.b, .int .u64 b.o, .int .u64 b.p, .bool b.i, .bool b.r, .bool b.d], .int .i64 e1]) ∧ Below v.heap.size v v')) (hR2 : (∀ v, Below w.heap.size w v → Calls Tryz.prog 32 #[.agg #[.slice A s.length n, .slice B c.length m, .int .i64 f, .bool x]] v fun e v' => e = .returned (.tuple #[.int .u32 k, .int .i64 e2]) ∧ Below v.heap.size v v')) (h1 : e1 = 0) (h2 : e2 ≠ 0) :
    Calls Tryz.prog 11 #[.agg #[.slice A s.length n, .slice B c.length m, .int .i64 f, .bool x]] w fun e w' => e = .returned (.tuple #[.agg #[.slice none 0 0, .slice none 0 0, .int .i64 0, .bool false, .int .i64 0, .int .u64 0, .int .u64 0, .int .u64 0, .int .u64 0, .bool false, .bool false, .bool false, .int .u32 0], .int .i64 e2]) ∧ Below w.heap.size w w' := by
  have HR1 := Lib.hid hR1; clear hR1
  subst h1
  have HR2 := Lib.hid hR2; clear hR2
  have hne : (e2 == 0) = false := beq_eq_false_iff_ne.2 h2
  have hnb : (e2 != 0) = true := by simp [bne, hne]
  clear h2
  have H0 := Lib.hid (((Held.refl w).lay [.slice A s.length n, .slice B c.length m, .int .i64 f, .bool x] 25).own [.slice none 0 0, .slice none 0 0, .int .i64 0, .bool false, .int .i64 0, .int .u64 0, .int .u64 0, .int .u64 0, .int .u64 0, .bool false, .bool false, .bool false, .int .u32 0] 34 (n := 13) rfl)
  have BR0 := Lib.hid (Box.new2 w (.cells ([.slice A s.length n, .slice B c.length m, .int .i64 f, .bool x] : List Value).toArray 25) [.slice none 0 0, .slice none 0 0, .int .i64 0, .bool false, .int .i64 0, .int .u64 0, .int .u64 0, .int .u64 0, .int .u64 0, .bool false, .bool false, .bool false, .int .u32 0] 34)
  rw [World.size_alloc] at H0
  have kd := ((Box.new w [.slice A s.length n, .slice B c.length m, .int .i64 f, .bool x] 25).alloc (.cells ([.slice none 0 0, .slice none 0 0, .int .i64 0, .bool false, .int .i64 0, .int .u64 0, .int .u64 0, .int .u64 0, .int .u64 0, .bool false, .bool false, .bool false, .int .u32 0] : List Value).toArray 34)).cell
  go_enter Tryz.func11, Tryz.ntmps11
  go_wp2_with fail
  refine (HR1.out _ H0.out.below).mono ?_
  rintro e w1 ⟨rfl, hb⟩
  have H1 := Lib.hid (H0.out.up hb)
  have BR1 := Lib.hid (BR0.out.below hb)
  have hlt := BR1.out.lt
  clear hb kd H0 BR0
  go_upto_region 2 with fail
  have BS2 := Lib.hid (Box.new w1 [.int .i64 b.n, .int .u64 b.c, .int .u64 b.b, .int .u64 b.o, .int .u64 b.p, .bool b.i, .bool b.r, .bool b.d] 31)
  have hb : Below w1.heap.size w1 (w1.alloc (.cells ([.int .i64 b.n, .int .u64 b.c, .int .u64 b.b, .int .u64 b.o, .int .u64 b.p, .bool b.i, .bool b.r, .bool b.d] : List Value).toArray 31)) := below1
  have H2 := Lib.hid (H1.out.up hb)
  have BR2 := Lib.hid (BR1.out.below hb)
  generalize w1.alloc (.cells #[.int .i64 b.n, .int .u64 b.c, .int .u64 b.b, .int .u64 b.o, .int .u64 b.p, .bool b.i, .bool b.r, .bool b.d] 31) = w2 at *
  clear hb H1 BR1
  have kd := H2.out.b0.cell
  go_wp2_with fail
  refine (HR2.out _ H2.out.below).mono ?_
  rintro e w3 ⟨rfl, hb⟩
  have H3 := Lib.hid (H2.out.up hb)
  have BR3 := Lib.hid (BR2.out.below hb)
  have BS3 := Lib.hid (BS2.out.below hb)
  clear hb kd H2 BR2 BS2
  have kr := BR3.out.cell
  have fr := BR3.out.frozen
  go_wp2_with fail
  refine bodyPost_ret (v := .tuple #[.agg #[.slice none 0 0, .slice none 0 0, .int .i64 0, .bool false, .int .i64 0, .int .u64 0, .int .u64 0, .int .u64 0, .int .u64 0, .bool false, .bool false, .bool false, .int .u32 0], .int .i64 e2]) (by simp [results, Tryz.results11, go_sem, kr]) rfl ⟨rfl, ?_⟩
  exact (H3.out.setL (b := w.heap.size + 1) ⟨13, by simp⟩ [.slice none 0 0, .slice none 0 0, .int .i64 0, .bool false, .int .i64 0, .int .u64 0, .int .u64 0, .int .u64 0, .int .u64 0, .bool false, .bool false, .bool false, .int .u32 0] 0).below

set_option maxRecDepth 100000 in
set_option maxHeartbeats 4000000 in
theorem rzattach_bad3 (A B : Option Addr) (n m : Nat) (s : List ByteArray) (c : List Wr) (f : Int) (x : Bool) (b : Sup) (k : Nat) (e1 e2 e3 : Int) (l : List ByteArray) (w : World) (hR1 : (∀ v, Below w.heap.size w v → Calls Tryz.prog 31 #[.agg #[.slice A s.length n, .slice B c.length m, .int .i64 f, .bool x]] v fun e v' => e = .returned (.tuple #[.agg #[.int .i64 b.n, .int .u64 b.c, .int .u64 b.b, .int .u64 b.o, .int .u64 b.p, .bool b.i, .bool b.r, .bool b.d], .int .i64 e1]) ∧ Below v.heap.size v v')) (hR2 : (∀ v, Below w.heap.size w v → Calls Tryz.prog 32 #[.agg #[.slice A s.length n, .slice B c.length m, .int .i64 f, .bool x]] v fun e v' => e = .returned (.tuple #[.int .u32 k, .int .i64 e2]) ∧ Below v.heap.size v v')) (hR3 : (∀ v, Below w.heap.size w v → Calls Tryz.prog 33 #[.agg #[.slice A s.length n, .slice B c.length m, .int .i64 f, .bool x]] v (GivesT l e3 v))) (h1 : e1 = 0) (h2 : e2 = 0) (h3 : e3 ≠ 0) :
    Calls Tryz.prog 11 #[.agg #[.slice A s.length n, .slice B c.length m, .int .i64 f, .bool x]] w fun e w' => e = .returned (.tuple #[.agg #[.slice none 0 0, .slice none 0 0, .int .i64 0, .bool false, .int .i64 0, .int .u64 0, .int .u64 0, .int .u64 0, .int .u64 0, .bool false, .bool false, .bool false, .int .u32 0], .int .i64 e3]) ∧ Below w.heap.size w w' := by
  have HR1 := Lib.hid hR1; clear hR1
  subst h1
  have HR2 := Lib.hid hR2; clear hR2
  subst h2
  have HR3 := Lib.hid hR3; clear hR3
  have hne : (e3 == 0) = false := beq_eq_false_iff_ne.2 h3
  have hnb : (e3 != 0) = true := by simp [bne, hne]
  clear h3
  have H0 := Lib.hid (((Held.refl w).lay [.slice A s.length n, .slice B c.length m, .int .i64 f, .bool x] 25).own [.slice none 0 0, .slice none 0 0, .int .i64 0, .bool false, .int .i64 0, .int .u64 0, .int .u64 0, .int .u64 0, .int .u64 0, .bool false, .bool false, .bool false, .int .u32 0] 34 (n := 13) rfl)
  have BR0 := Lib.hid (Box.new2 w (.cells ([.slice A s.length n, .slice B c.length m, .int .i64 f, .bool x] : List Value).toArray 25) [.slice none 0 0, .slice none 0 0, .int .i64 0, .bool false, .int .i64 0, .int .u64 0, .int .u64 0, .int .u64 0, .int .u64 0, .bool false, .bool false, .bool false, .int .u32 0] 34)
  rw [World.size_alloc] at H0
  have kd := ((Box.new w [.slice A s.length n, .slice B c.length m, .int .i64 f, .bool x] 25).alloc (.cells ([.slice none 0 0, .slice none 0 0, .int .i64 0, .bool false, .int .i64 0, .int .u64 0, .int .u64 0, .int .u64 0, .int .u64 0, .bool false, .bool false, .bool false, .int .u32 0] : List Value).toArray 34)).cell
  go_enter Tryz.func11, Tryz.ntmps11
  go_wp2_with fail
  refine (HR1.out _ H0.out.below).mono ?_
  rintro e w1 ⟨rfl, hb⟩
  have H1 := Lib.hid (H0.out.up hb)
  have BR1 := Lib.hid (BR0.out.below hb)
  have hlt := BR1.out.lt
  clear hb kd H0 BR0
  go_upto_region 2 with fail
  have BS2 := Lib.hid (Box.new w1 [.int .i64 b.n, .int .u64 b.c, .int .u64 b.b, .int .u64 b.o, .int .u64 b.p, .bool b.i, .bool b.r, .bool b.d] 31)
  have hb : Below w1.heap.size w1 (w1.alloc (.cells ([.int .i64 b.n, .int .u64 b.c, .int .u64 b.b, .int .u64 b.o, .int .u64 b.p, .bool b.i, .bool b.r, .bool b.d] : List Value).toArray 31)) := below1
  have H2 := Lib.hid (H1.out.up hb)
  have BR2 := Lib.hid (BR1.out.below hb)
  generalize w1.alloc (.cells #[.int .i64 b.n, .int .u64 b.c, .int .u64 b.b, .int .u64 b.o, .int .u64 b.p, .bool b.i, .bool b.r, .bool b.d] 31) = w2 at *
  clear hb H1 BR1
  have kd := H2.out.b0.cell
  go_wp2_with fail
  refine (HR2.out _ H2.out.below).mono ?_
  rintro e w3 ⟨rfl, hb⟩
  have H3 := Lib.hid (H2.out.up hb)
  have BR3 := Lib.hid (BR2.out.below hb)
  have BS3 := Lib.hid (BS2.out.below hb)
  clear hb kd H2 BR2 BS2
  have kd := H3.out.b0.cell
  go_wp2_with fail
  refine (HR3.out _ H3.out.below).mono ?_
  rintro e w4 ⟨A9, n9, rfl, _, hb⟩
  have H4 := Lib.hid (H3.out.up hb)
  have BR4 := Lib.hid (BR3.out.below hb)
  have BS4 := Lib.hid (BS3.out.below hb)
  clear hb kd H3 BR3 BS3
  have kr := BR4.out.cell
  have fr := BR4.out.frozen
  go_wp2_with fail
  refine bodyPost_ret (v := .tuple #[.agg #[.slice none 0 0, .slice none 0 0, .int .i64 0, .bool false, .int .i64 0, .int .u64 0, .int .u64 0, .int .u64 0, .int .u64 0, .bool false, .bool false, .bool false, .int .u32 0], .int .i64 e3]) (by simp [results, Tryz.results11, go_sem, kr]) rfl ⟨rfl, ?_⟩
  exact (H4.out.setL (b := w.heap.size + 1) ⟨13, by simp⟩ [.slice none 0 0, .slice none 0 0, .int .i64 0, .bool false, .int .i64 0, .int .u64 0, .int .u64 0, .int .u64 0, .int .u64 0, .bool false, .bool false, .bool false, .int .u32 0] 0).below

set_option maxRecDepth 100000 in
set_option maxHeartbeats 4000000 in
theorem rzattach_yes (A B : Option Addr) (n m : Nat) (s : List ByteArray) (c : List Wr) (f : Int) (x : Bool) (b : Sup) (k : Nat) (e1 e2 e3 : Int) (l : List ByteArray) (w : World) (hR1 : (∀ v, Below w.heap.size w v → Calls Tryz.prog 31 #[.agg #[.slice A s.length n, .slice B c.length m, .int .i64 f, .bool x]] v fun e v' => e = .returned (.tuple #[.agg #[.int .i64 b.n, .int .u64 b.c, .int .u64 b.b, .int .u64 b.o, .int .u64 b.p, .bool b.i, .bool b.r, .bool b.d], .int .i64 e1]) ∧ Below v.heap.size v v')) (hR2 : (∀ v, Below w.heap.size w v → Calls Tryz.prog 32 #[.agg #[.slice A s.length n, .slice B c.length m, .int .i64 f, .bool x]] v fun e v' => e = .returned (.tuple #[.int .u32 k, .int .i64 e2]) ∧ Below v.heap.size v v')) (hR3 : (∀ v, Below w.heap.size w v → Calls Tryz.prog 33 #[.agg #[.slice A s.length n, .slice B c.length m, .int .i64 f, .bool x]] v (GivesT l e3 v))) (h1 : e1 = 0) (h2 : e2 = 0) (h3 : e3 = 0) :
    Calls Tryz.prog 11 #[.agg #[.slice A s.length n, .slice B c.length m, .int .i64 f, .bool x]] w fun e w' => e = .returned (.tuple #[.agg #[.slice A s.length n, .slice B c.length m, .int .i64 f, .bool x, .int .i64 b.n, .int .u64 b.c, .int .u64 b.b, .int .u64 b.o, .int .u64 b.p, .bool b.i, .bool b.r, .bool b.d, .int .u32 k], .int .i64 0]) ∧ Below w.heap.size w w' := by
  have HR1 := Lib.hid hR1; clear hR1
  subst h1
  have HR2 := Lib.hid hR2; clear hR2
  subst h2
  have HR3 := Lib.hid hR3; clear hR3
  subst h3
  have H0 := Lib.hid (((Held.refl w).lay [.slice A s.length n, .slice B c.length m, .int .i64 f, .bool x] 25).own [.slice none 0 0, .slice none 0 0, .int .i64 0, .bool false, .int .i64 0, .int .u64 0, .int .u64 0, .int .u64 0, .int .u64 0, .bool false, .bool false, .bool false, .int .u32 0] 34 (n := 13) rfl)
  have BR0 := Lib.hid (Box.new2 w (.cells ([.slice A s.length n, .slice B c.length m, .int .i64 f, .bool x] : List Value).toArray 25) [.slice none 0 0, .slice none 0 0, .int .i64 0, .bool false, .int .i64 0, .int .u64 0, .int .u64 0, .int .u64 0, .int .u64 0, .bool false, .bool false, .bool false, .int .u32 0] 34)
  rw [World.size_alloc] at H0
  have kd := ((Box.new w [.slice A s.length n, .slice B c.length m, .int .i64 f, .bool x] 25).alloc (.cells ([.slice none 0 0, .slice none 0 0, .int .i64 0, .bool false, .int .i64 0, .int .u64 0, .int .u64 0, .int .u64 0, .int .u64 0, .bool false, .bool false, .bool false, .int .u32 0] : List Value).toArray 34)).cell
  go_enter Tryz.func11, Tryz.ntmps11
  go_wp2_with fail
  refine (HR1.out _ H0.out.below).mono ?_
  rintro e w1 ⟨rfl, hb⟩
  have H1 := Lib.hid (H0.out.up hb)
  have BR1 := Lib.hid (BR0.out.below hb)
  have hlt := BR1.out.lt
  clear hb kd H0 BR0
  go_upto_region 2 with fail
  have BS2 := Lib.hid (Box.new w1 [.int .i64 b.n, .int .u64 b.c, .int .u64 b.b, .int .u64 b.o, .int .u64 b.p, .bool b.i, .bool b.r, .bool b.d] 31)
  have hb : Below w1.heap.size w1 (w1.alloc (.cells ([.int .i64 b.n, .int .u64 b.c, .int .u64 b.b, .int .u64 b.o, .int .u64 b.p, .bool b.i, .bool b.r, .bool b.d] : List Value).toArray 31)) := below1
  have H2 := Lib.hid (H1.out.up hb)
  have BR2 := Lib.hid (BR1.out.below hb)
  generalize w1.alloc (.cells #[.int .i64 b.n, .int .u64 b.c, .int .u64 b.b, .int .u64 b.o, .int .u64 b.p, .bool b.i, .bool b.r, .bool b.d] 31) = w2 at *
  clear hb H1 BR1
  have kd := H2.out.b0.cell
  go_wp2_with fail
  refine (HR2.out _ H2.out.below).mono ?_
  rintro e w3 ⟨rfl, hb⟩
  have H3 := Lib.hid (H2.out.up hb)
  have BR3 := Lib.hid (BR2.out.below hb)
  have BS3 := Lib.hid (BS2.out.below hb)
  clear hb kd H2 BR2 BS2
  have kd := H3.out.b0.cell
  go_wp2_with fail
  refine (HR3.out _ H3.out.below).mono ?_
  rintro e w4 ⟨A9, n9, rfl, _, hb⟩
  have H4 := Lib.hid (H3.out.up hb)
  have BR4 := Lib.hid (BR3.out.below hb)
  have BS4 := Lib.hid (BS3.out.below hb)
  clear hb kd H3 BR3 BS3
  have kd := H4.out.b0.cell
  have ks := BS4.out.cell
  have kr := BR4.out.cell
  have fr := BR4.out.frozen
  go_wp2_with fail
  refine bodyPost_ret (v := .tuple #[.agg #[.slice A s.length n, .slice B c.length m, .int .i64 f, .bool x, .int .i64 b.n, .int .u64 b.c, .int .u64 b.b, .int .u64 b.o, .int .u64 b.p, .bool b.i, .bool b.r, .bool b.d, .int .u32 k], .int .i64 0]) (by simp [results, Tryz.results11, go_sem, kr]) rfl ⟨rfl, ?_⟩
  exact (H4.out.setL (b := w.heap.size + 1) ⟨13, by simp⟩ [.slice A s.length n, .slice B c.length m, .int .i64 f, .bool x, .int .i64 b.n, .int .u64 b.c, .int .u64 b.b, .int .u64 b.o, .int .u64 b.p, .bool b.i, .bool b.r, .bool b.d, .int .u32 k] 0).below

set_option maxRecDepth 100000 in
set_option maxHeartbeats 4000000 in
theorem rzsame_no1 (A B : Option Addr) (n m : Nat) (s : List ByteArray) (c : List Wr) (f : Int) (x : Bool) (b : Sup) (k : Nat) (A2 B2 : Option Addr) (n2 m2 : Nat) (s2 : List ByteArray) (c2 : List Wr) (f2 : Int) (x2 : Bool) (b2 : Sup) (k2 : Nat) (w : World) (hq : sameB s s2 c c2 f f2 x x2 = false)
    (hR : ∀ v, Below w.heap.size w v → Calls Tryz.prog 34 #[.agg #[.slice A s.length n, .slice B c.length m, .int .i64 f, .bool x], .agg #[.slice A2 s2.length n2, .slice B2 c2.length m2, .int .i64 f2, .bool x2]] v fun e v' => e = .returned (.bool (sameB s s2 c c2 f f2 x x2)) ∧ Below v.heap.size v v') :
    Calls Tryz.prog 12 #[.agg #[.slice A s.length n, .slice B c.length m, .int .i64 f, .bool x, .int .i64 b.n, .int .u64 b.c, .int .u64 b.b, .int .u64 b.o, .int .u64 b.p, .bool b.i, .bool b.r, .bool b.d, .int .u32 k], .agg #[.slice A2 s2.length n2, .slice B2 c2.length m2, .int .i64 f2, .bool x2, .int .i64 b2.n, .int .u64 b2.c, .int .u64 b2.b, .int .u64 b2.o, .int .u64 b2.p, .bool b2.i, .bool b2.r, .bool b2.d, .int .u32 k2]] w fun e w' => e = .returned (.bool (sameB s s2 c c2 f f2 x x2 && (b.same b2 && decide (k = k2)))) ∧ Below w.heap.size w w' := by
  rw [hq] at hR ⊢
  clear hq
  have HR := Lib.hid hR; clear hR
  have H0 := Lib.hid (((Held.refl w).lay [.slice A s.length n, .slice B c.length m, .int .i64 f, .bool x, .int .i64 b.n, .int .u64 b.c, .int .u64 b.b, .int .u64 b.o, .int .u64 b.p, .bool b.i, .bool b.r, .bool b.d, .int .u32 k] 34).lay [.slice A2 s2.length n2, .slice B2 c2.length m2, .int .i64 f2, .bool x2, .int .i64 b2.n, .int .u64 b2.c, .int .u64 b2.b, .int .u64 b2.o, .int .u64 b2.p, .bool b2.i, .bool b2.r, .bool b2.d, .int .u32 k2] 34)
  rw [World.size_alloc] at H0
  have k0 := H0.out.b0.cell
  have k1 := H0.out.b1.cell
  go_enter Tryz.func12, Tryz.ntmps12
  go_wp2_with fail
  refine (HR.out _ H0.out.below).mono ?_
  rintro e w1 ⟨rfl, hb⟩
  have H1 := Lib.hid (H0.out.up hb)
  clear hb k0 k1 H0
  have k0 := H1.out.b0.cell
  have k1 := H1.out.b1.cell
  go_wp2_with fail
  go_ret
  exact ⟨ret_bool (by simp), H1.out.below⟩

set_option maxRecDepth 100000 in
set_option maxHeartbeats 4000000 in
theorem rzsame_no2 (A B : Option Addr) (n m : Nat) (s : List ByteArray) (c : List Wr) (f : Int) (x : Bool) (b : Sup) (k : Nat) (A2 B2 : Option Addr) (n2 m2 : Nat) (s2 : List ByteArray) (c2 : List Wr) (f2 : Int) (x2 : Bool) (b2 : Sup) (k2 : Nat) (w : World) (hq : sameB s s2 c c2 f f2 x x2 = true) (hs : b.same b2 = false)
    (hR : ∀ v, Below w.heap.size w v → Calls Tryz.prog 34 #[.agg #[.slice A s.length n, .slice B c.length m, .int .i64 f, .bool x], .agg #[.slice A2 s2.length n2, .slice B2 c2.length m2, .int .i64 f2, .bool x2]] v fun e v' => e = .returned (.bool (sameB s s2 c c2 f f2 x x2)) ∧ Below v.heap.size v v') :
    Calls Tryz.prog 12 #[.agg #[.slice A s.length n, .slice B c.length m, .int .i64 f, .bool x, .int .i64 b.n, .int .u64 b.c, .int .u64 b.b, .int .u64 b.o, .int .u64 b.p, .bool b.i, .bool b.r, .bool b.d, .int .u32 k], .agg #[.slice A2 s2.length n2, .slice B2 c2.length m2, .int .i64 f2, .bool x2, .int .i64 b2.n, .int .u64 b2.c, .int .u64 b2.b, .int .u64 b2.o, .int .u64 b2.p, .bool b2.i, .bool b2.r, .bool b2.d, .int .u32 k2]] w fun e w' => e = .returned (.bool (sameB s s2 c c2 f f2 x x2 && (b.same b2 && decide (k = k2)))) ∧ Below w.heap.size w w' := by
  rw [hq] at hR ⊢
  clear hq
  have hse := fun w => sup_eql b b2 w
  rw [hs] at hse ⊢
  clear hs
  have HR := Lib.hid hR; clear hR
  have H0 := Lib.hid (((Held.refl w).lay [.slice A s.length n, .slice B c.length m, .int .i64 f, .bool x, .int .i64 b.n, .int .u64 b.c, .int .u64 b.b, .int .u64 b.o, .int .u64 b.p, .bool b.i, .bool b.r, .bool b.d, .int .u32 k] 34).lay [.slice A2 s2.length n2, .slice B2 c2.length m2, .int .i64 f2, .bool x2, .int .i64 b2.n, .int .u64 b2.c, .int .u64 b2.b, .int .u64 b2.o, .int .u64 b2.p, .bool b2.i, .bool b2.r, .bool b2.d, .int .u32 k2] 34)
  rw [World.size_alloc] at H0
  have k0 := H0.out.b0.cell
  have k1 := H0.out.b1.cell
  go_enter Tryz.func12, Tryz.ntmps12
  go_wp2_with fail
  refine (HR.out _ H0.out.below).mono ?_
  rintro e w1 ⟨rfl, hb⟩
  have H1 := Lib.hid (H0.out.up hb)
  clear hb k0 k1 H0
  have k0 := H1.out.b0.cell
  have k1 := H1.out.b1.cell
  go_wp2_with fail
  go_ret
  exact ⟨ret_bool (by simp), H1.out.below⟩

set_option maxRecDepth 100000 in
set_option maxHeartbeats 4000000 in
theorem rzsame_yes (A B : Option Addr) (n m : Nat) (s : List ByteArray) (c : List Wr) (f : Int) (x : Bool) (b : Sup) (k : Nat) (A2 B2 : Option Addr) (n2 m2 : Nat) (s2 : List ByteArray) (c2 : List Wr) (f2 : Int) (x2 : Bool) (b2 : Sup) (k2 : Nat) (w : World) (hq : sameB s s2 c c2 f f2 x x2 = true) (hs : b.same b2 = true)
    (hR : ∀ v, Below w.heap.size w v → Calls Tryz.prog 34 #[.agg #[.slice A s.length n, .slice B c.length m, .int .i64 f, .bool x], .agg #[.slice A2 s2.length n2, .slice B2 c2.length m2, .int .i64 f2, .bool x2]] v fun e v' => e = .returned (.bool (sameB s s2 c c2 f f2 x x2)) ∧ Below v.heap.size v v') :
    Calls Tryz.prog 12 #[.agg #[.slice A s.length n, .slice B c.length m, .int .i64 f, .bool x, .int .i64 b.n, .int .u64 b.c, .int .u64 b.b, .int .u64 b.o, .int .u64 b.p, .bool b.i, .bool b.r, .bool b.d, .int .u32 k], .agg #[.slice A2 s2.length n2, .slice B2 c2.length m2, .int .i64 f2, .bool x2, .int .i64 b2.n, .int .u64 b2.c, .int .u64 b2.b, .int .u64 b2.o, .int .u64 b2.p, .bool b2.i, .bool b2.r, .bool b2.d, .int .u32 k2]] w fun e w' => e = .returned (.bool (sameB s s2 c c2 f f2 x x2 && (b.same b2 && decide (k = k2)))) ∧ Below w.heap.size w w' := by
  rw [hq] at hR ⊢
  clear hq
  have hse := fun w => sup_eql b b2 w
  rw [hs] at hse ⊢
  clear hs
  have hkk : ((k : Int) == (k2 : Int)) = decide (k = k2) := by rw [Bool.beq_eq_decide_eq, decide_eq_decide]; omega
  generalize decide (k = k2) = y at *
  have HR := Lib.hid hR; clear hR
  have H0 := Lib.hid (((Held.refl w).lay [.slice A s.length n, .slice B c.length m, .int .i64 f, .bool x, .int .i64 b.n, .int .u64 b.c, .int .u64 b.b, .int .u64 b.o, .int .u64 b.p, .bool b.i, .bool b.r, .bool b.d, .int .u32 k] 34).lay [.slice A2 s2.length n2, .slice B2 c2.length m2, .int .i64 f2, .bool x2, .int .i64 b2.n, .int .u64 b2.c, .int .u64 b2.b, .int .u64 b2.o, .int .u64 b2.p, .bool b2.i, .bool b2.r, .bool b2.d, .int .u32 k2] 34)
  rw [World.size_alloc] at H0
  have k0 := H0.out.b0.cell
  have k1 := H0.out.b1.cell
  go_enter Tryz.func12, Tryz.ntmps12
  go_wp2_with fail
  refine (HR.out _ H0.out.below).mono ?_
  rintro e w1 ⟨rfl, hb⟩
  have H1 := Lib.hid (H0.out.up hb)
  clear hb k0 k1 H0
  have k0 := H1.out.b0.cell
  have k1 := H1.out.b1.cell
  go_wp2_with fail
  go_ret
  exact ⟨ret_bool (by simp), H1.out.below⟩

set_option maxRecDepth 100000 in
set_option maxHeartbeats 4000000 in
theorem rzwhole_at (A B : Option Addr) (n m : Nat) (s : List ByteArray) (c : List Wr) (f : Int) (b : Sup) (k : Nat) (w : World)
    (hR1 : ∀ v, Below w.heap.size w v → Calls Tryz.prog 9 #[.agg #[.slice A s.length n, .slice B c.length m, .int .i64 f, .bool false]] v fun e v' => e = .returned (.bool true) ∧ Below v.heap.size v v')
    (hR2 : ∀ v, Below w.heap.size w v → Calls Tryz.prog 11 #[.agg #[.slice A s.length n, .slice B c.length m, .int .i64 f, .bool false]] v fun e v' => e = .returned (.tuple #[.agg #[.slice A s.length n, .slice B c.length m, .int .i64 f, .bool false, .int .i64 b.n, .int .u64 b.c, .int .u64 b.b, .int .u64 b.o, .int .u64 b.p, .bool b.i, .bool b.r, .bool b.d, .int .u32 k], .int .i64 0]) ∧ Below v.heap.size v v') :
    Calls Tryz.prog 19 #[.agg #[.slice A s.length n, .slice B c.length m, .int .i64 f, .bool false, .int .i64 b.n, .int .u64 b.c, .int .u64 b.b, .int .u64 b.o, .int .u64 b.p, .bool b.i, .bool b.r, .bool b.d, .int .u32 k]] w fun e w' => e = .returned (.bool true) ∧ Below w.heap.size w w' := by
  have HR1 := Lib.hid hR1; clear hR1
  have HR2 := Lib.hid hR2; clear hR2
  have hse := fun w => sup_eql b b w
  rw [Sup.same_self] at hse
  have H0 := Lib.hid ((Held.refl w).lay [.slice A s.length n, .slice B c.length m, .int .i64 f, .bool false, .int .i64 b.n, .int .u64 b.c, .int .u64 b.b, .int .u64 b.o, .int .u64 b.p, .bool b.i, .bool b.r, .bool b.d, .int .u32 k] 34)
  have k0 := H0.out.b0.cell
  go_enter Tryz.func19, Tryz.ntmps19
  go_wp2_with fail
  refine (HR1.out _ H0.out.below).mono ?_
  rintro e w1 ⟨rfl, hb⟩
  have H1 := Lib.hid (H0.out.up hb)
  clear hb k0 H0
  have k0 := H1.out.b0.cell
  go_wp2_with fail
  refine (HR2.out _ H1.out.below).mono ?_
  rintro e w2 ⟨rfl, hb⟩
  have H2 := Lib.hid ((H1.out.up hb).lay [.slice A s.length n, .slice B c.length m, .int .i64 f, .bool false, .int .i64 b.n, .int .u64 b.c, .int .u64 b.b, .int .u64 b.o, .int .u64 b.p, .bool b.i, .bool b.r, .bool b.d, .int .u32 k] 34)
  have BL2 := Lib.hid ((H1.out.b0.below hb).alloc (.cells ([.slice A s.length n, .slice B c.length m, .int .i64 f, .bool false, .int .i64 b.n, .int .u64 b.c, .int .u64 b.b, .int .u64 b.o, .int .u64 b.p, .bool b.i, .bool b.r, .bool b.d, .int .u32 k] : List Value).toArray 34))
  clear hb k0 H1
  have k0 := BL2.out.cell
  have k1 := H2.out.b0.cell
  go_wp2_with fail
  go_ret
  exact ⟨ret_bool (by simp), H2.out.below⟩

set_option maxRecDepth 100000 in
set_option maxHeartbeats 4000000 in
theorem rznew_at (i : Int) (w : World) (s : List ByteArray) (c : List Wr) (f : Int) (x : Bool) (e1 : Int) (b : Sup) (k : Nat) (e2 : Int)
    (hR1 : ∀ v, Calls Tryz.prog 36 #[.int .i64 i, .int .u64 7] v (GivesD s c f x e1 v))
    (hR2 : ∀ A1 B1 n1 m1 v, Mem v A1 n1 B1 m1 s c → Calls Tryz.prog 11 #[.agg #[.slice A1 s.length n1, .slice B1 c.length m1, .int .i64 f, .bool x]] v fun e v' => e = .returned (.tuple #[.agg #[.slice A1 s.length n1, .slice B1 c.length m1, .int .i64 f, .bool x, .int .i64 b.n, .int .u64 b.c, .int .u64 b.b, .int .u64 b.o, .int .u64 b.p, .bool b.i, .bool b.r, .bool b.d, .int .u32 k], .int .i64 e2]) ∧ Below v.heap.size v v') :
    Calls Tryz.prog 15 #[.int .i64 i] w fun e w' => ∃ A1 n1 B1 m1, e = .returned (.agg #[.slice A1 s.length n1, .slice B1 c.length m1, .int .i64 f, .bool x, .int .i64 b.n, .int .u64 b.c, .int .u64 b.b, .int .u64 b.o, .int .u64 b.p, .bool b.i, .bool b.r, .bool b.d, .int .u32 k]) ∧ Mem w' A1 n1 B1 m1 s c ∧ Below w.heap.size w w' := by
  have HR1 := Lib.hid hR1; clear hR1
  have HR2 := Lib.hid hR2; clear hR2
  have H0 := Lib.hid ((Held.refl w).own [.slice none 0 0, .slice none 0 0, .int .i64 0, .bool false, .int .i64 0, .int .u64 0, .int .u64 0, .int .u64 0, .int .u64 0, .bool false, .bool false, .bool false, .int .u32 0] 34 (n := 13) rfl)
  have BR0 := Lib.hid (Box.new w [.slice none 0 0, .slice none 0 0, .int .i64 0, .bool false, .int .i64 0, .int .u64 0, .int .u64 0, .int .u64 0, .int .u64 0, .bool false, .bool false, .bool false, .int .u32 0] 34)
  go_enter Tryz.func15, Tryz.ntmps15
  go_wp2_with fail
  refine (HR1.out _).mono ?_
  rintro e w1 ⟨A1, B1, n1, m1, rfl, hm1, hb⟩
  have hm2 := Lib.hid (hm1.up (below1 (o := .cells ([.slice A1 s.length n1, .slice B1 c.length m1, .int .i64 f, .bool x] : List Value).toArray 25)))
  have BD2 := Lib.hid (Box.new w1 [.slice A1 s.length n1, .slice B1 c.length m1, .int .i64 f, .bool x] 25)
  have H2 := Lib.hid ((H0.out.up hb).up (below1 (o := .cells ([.slice A1 s.length n1, .slice B1 c.length m1, .int .i64 f, .bool x] : List Value).toArray 25)))
  have BR2 := Lib.hid ((BR0.out.below hb).alloc (.cells ([.slice A1 s.length n1, .slice B1 c.length m1, .int .i64 f, .bool x] : List Value).toArray 25))
  clear hb hm1 H0 BR0
  have kd := BD2.out.cell
  go_wp2_with fail
  refine (HR2.out A1 B1 n1 m1 _ hm2.out).mono ?_
  rintro e w3 ⟨rfl, hb⟩
  have hb2 : Below w3.heap.size w3 (w3.alloc (.cells ([.slice A1 s.length n1, .slice B1 c.length m1, .int .i64 f, .bool x, .int .i64 b.n, .int .u64 b.c, .int .u64 b.b, .int .u64 b.o, .int .u64 b.p, .bool b.i, .bool b.r, .bool b.d, .int .u32 k] : List Value).toArray 34)) := below1
  have BS4 := Lib.hid (Box.new w3 [.slice A1 s.length n1, .slice B1 c.length m1, .int .i64 f, .bool x, .int .i64 b.n, .int .u64 b.c, .int .u64 b.b, .int .u64 b.o, .int .u64 b.p, .bool b.i, .bool b.r, .bool b.d, .int .u32 k] 34)
  have hm4 := Lib.hid ((hm2.out.up hb).up hb2)
  have H4 := Lib.hid ((H2.out.up hb).up hb2)
  have BR4 := Lib.hid ((BR2.out.below hb).below hb2)
  have hlt := (BR2.out.below hb).lt
  clear hb hb2 kd BD2 hm2 H2 BR2
  go_upto_region 3 with fail
  generalize w3.alloc (.cells #[.slice A1 s.length n1, .slice B1 c.length m1, .int .i64 f, .bool x, .int .i64 b.n, .int .u64 b.c, .int .u64 b.b, .int .u64 b.o, .int .u64 b.p, .bool b.i, .bool b.r, .bool b.d, .int .u32 k] 34) = w4 at *
  have ks := BS4.out.cell
  have kr := BR4.out.cell
  have fr := BR4.out.frozen
  go_wp2_with fail
  refine bodyPost_ret (v := .agg #[.slice A1 s.length n1, .slice B1 c.length m1, .int .i64 f, .bool x, .int .i64 b.n, .int .u64 b.c, .int .u64 b.b, .int .u64 b.o, .int .u64 b.p, .bool b.i, .bool b.r, .bool b.d, .int .u32 k]) (by simp [results, Tryz.results15, go_sem, kr]) rfl ?_
  exact ⟨A1, n1, B1, m1, rfl, hm4.out.setL [.slice A1 s.length n1, .slice B1 c.length m1, .int .i64 f, .bool x, .int .i64 b.n, .int .u64 b.c, .int .u64 b.b, .int .u64 b.o, .int .u64 b.p, .bool b.i, .bool b.r, .bool b.d, .int .u32 k] 0 BR4.out (noText_st 0 0 0 false Sup.zero 0 none 0 none 0) (noText_st s.length c.length f x b k A1 n1 B1 m1), (H4.out.setL (b := w.heap.size) ⟨13, by simp⟩ [.slice A1 s.length n1, .slice B1 c.length m1, .int .i64 f, .bool x, .int .i64 b.n, .int .u64 b.c, .int .u64 b.b, .int .u64 b.o, .int .u64 b.p, .bool b.i, .bool b.r, .bool b.d, .int .u32 k] 0).below⟩

end Go.Proofs.YtjkgellkkjjnbaaGreatDoor
