/- Packets: the fields put into a packet out of bytes, by the code; for every text. No other condition. -/
import Derived.Test.YtbbcncofdhhflaaDoorPC1
import Derived.Test.YtbbcncofdhhflaaDoorPK4
import Derived.Deep.CutRange
namespace Go.Proofs.YtbbcncofdhhflaaDoor
open Go.RowKit

theorem held_startC {P : Program} {ops : Array Oper} {Q : Exit → Act → World → Prop} {S : World → Prop} {w : World} {id : Nat} {a : Act} (hm : P.follows .mixedOrders = true) (hS : S w.drew)
    (H : ∀ v, Below w.heap.size w v → S v → wpAnyH P .any ops Q S ops.size (Array.replicate ops.size false) a v) : (Code.region id ops true).wp P Q a w :=
  wp_region_held_drew hm hS (fun h => H _ (Below.refl _ _).drew h)

set_option maxRecDepth 100000 in
set_option maxHeartbeats 16000000 in
theorem pfl_hel (x : ByteArray) (l n c b o p : Int) (i r d q : Bool) (m : Nat) (w : World) (hd : ∀ w, Calls Tryd.prog 55 #[.string x] w fun e w' => e = .returned (.tuple #[.agg #[.int .i64 n, .int .u64 c, .int .u64 b, .int .u64 o, .int .u64 p, .bool i, .bool r, .bool d, .bool q, .int .u32 (m : Int)], .int .i64 0]) ∧ Below w.heap.size w w') :
    Calls Tryd.prog 44 #[.agg #[.int .i64 1, .int .u64 l, .int .i64 0, .int .u64 0, .int .u64 0, .int .u64 0, .int .u64 0, .bool false, .bool false, .bool false, .bool false, .int .u32 0, .int .i64 0, .string ⟨#[]⟩], .string x] w fun e w' => e = .returned (.tuple #[.agg #[.int .i64 1, .int .u64 l, .int .i64 n, .int .u64 c, .int .u64 b, .int .u64 o, .int .u64 p, .bool i, .bool r, .bool d, .bool q, .int .u32 (m : Int), .int .i64 0, .string ⟨#[]⟩], .nilIface]) ∧ Below w.heap.size w w' := by
  have HD := Lib.hid hd; clear hd
  have HN := Lib.hid (show w.heap.size ≠ w.heap.size + 1 from by omega)
  have H0 := Lib.hid (((Held.refl w).own [.int .i64 1, .int .u64 l, .int .i64 0, .int .u64 0, .int .u64 0, .int .u64 0, .int .u64 0, .bool false, .bool false, .bool false, .bool false, .int .u32 0, .int .i64 0, .string ⟨#[]⟩] 30 (n := 14) rfl).own [.int .i64 0, .int .u64 0, .int .i64 0, .int .u64 0, .int .u64 0, .int .u64 0, .int .u64 0, .bool false, .bool false, .bool false, .bool false, .int .u32 0, .int .i64 0, .string ⟨#[]⟩] 30 (n := 14) rfl)
  have BA0 := Lib.hid ((Box.new w [.int .i64 1, .int .u64 l, .int .i64 0, .int .u64 0, .int .u64 0, .int .u64 0, .int .u64 0, .bool false, .bool false, .bool false, .bool false, .int .u32 0, .int .i64 0, .string ⟨#[]⟩] 30).alloc (.cells ([.int .i64 0, .int .u64 0, .int .i64 0, .int .u64 0, .int .u64 0, .int .u64 0, .int .u64 0, .bool false, .bool false, .bool false, .bool false, .int .u32 0, .int .i64 0, .string ⟨#[]⟩] : List Value).toArray 30))
  have BB0 := Lib.hid (Box.new2 w (.cells ([.int .i64 1, .int .u64 l, .int .i64 0, .int .u64 0, .int .u64 0, .int .u64 0, .int .u64 0, .bool false, .bool false, .bool false, .bool false, .int .u32 0, .int .i64 0, .string ⟨#[]⟩] : List Value).toArray 30) [.int .i64 0, .int .u64 0, .int .i64 0, .int .u64 0, .int .u64 0, .int .u64 0, .int .u64 0, .bool false, .bool false, .bool false, .bool false, .int .u32 0, .int .i64 0, .string ⟨#[]⟩] 30)
  rw [World.size_alloc] at H0
  go_enter Tryd.func44, Tryd.ntmps44
  go_wp2_with fail
  refine (HD.out _).mono ?_
  rintro e w1 ⟨rfl, hb⟩
  have H1 := Lib.hid (H0.out.up hb)
  have BA1 := Lib.hid (BA0.out.below hb)
  have BB1 := Lib.hid (BB0.out.below hb)
  clear hb H0 BA0 BB0
  have kh := (Box.new w1 [.int .i64 n, .int .u64 c, .int .u64 b, .int .u64 o, .int .u64 p, .bool i, .bool r, .bool d, .bool q, .int .u32 (m : Int)] 28).cell
  have H2 := Lib.hid (H1.out.alloc (.cells #[.int .i64 n, .int .u64 c, .int .u64 b, .int .u64 o, .int .u64 p, .bool i, .bool r, .bool d, .bool q, .int .u32 (m : Int)] 28))
  have BA2 := Lib.hid (BA1.out.alloc (.cells #[.int .i64 n, .int .u64 c, .int .u64 b, .int .u64 o, .int .u64 p, .bool i, .bool r, .bool d, .bool q, .int .u32 (m : Int)] 28))
  have BB2 := Lib.hid (BB1.out.alloc (.cells #[.int .i64 n, .int .u64 c, .int .u64 b, .int .u64 o, .int .u64 p, .bool i, .bool r, .bool d, .bool q, .int .u32 (m : Int)] 28))
  clear H1 BA1 BB1
  have ka := BA2.out.cell
  have fa := BA2.out.frozen
  have kb := BB2.out.cell
  have fb := BB2.out.frozen
  clear kb fb
  go_upto_region 8 with fail
  have H3 := Lib.hid (H2.out.hel2 (b := w.heap.size) ⟨14, by simp⟩ (.int .i64 n) (.int .u64 c) (.int .u64 b) (.int .u64 o) (.int .u64 p) (.bool i) (.bool r) (.bool d) (.bool q) (.int .u32 (m : Int)))
  have BA3 := Lib.hid (BA2.out.hel2 (.int .i64 n) (.int .u64 c) (.int .u64 b) (.int .u64 o) (.int .u64 p) (.bool i) (.bool r) (.bool d) (.bool q) (.int .u32 (m : Int)))
  have BB3 := Lib.hid (BB2.out.past2 HN.out.symm (.int .i64 n) (.int .u64 c) (.int .u64 b) (.int .u64 o) (.int .u64 p) (.bool i) (.bool r) (.bool d) (.bool q) (.int .u32 (m : Int)))
  clear H2 BA2 BB2 kh ka fa
  generalize ((((((((((w1.alloc (.cells #[.int .i64 n, .int .u64 c, .int .u64 b, .int .u64 o, .int .u64 p, .bool i, .bool r, .bool d, .bool q, .int .u32 (m : Int)] 28)).setCell ⟨w.heap.size, 2, none⟩ (.int .i64 n)).setCell ⟨w.heap.size, 3, none⟩ (.int .u64 c)).setCell ⟨w.heap.size, 4, none⟩ (.int .u64 b)).setCell ⟨w.heap.size, 5, none⟩ (.int .u64 o)).setCell ⟨w.heap.size, 6, none⟩ (.int .u64 p)).setCell ⟨w.heap.size, 7, none⟩ (.bool i)).setCell ⟨w.heap.size, 8, none⟩ (.bool r)).setCell ⟨w.heap.size, 9, none⟩ (.bool d)).setCell ⟨w.heap.size, 10, none⟩ (.bool q)).setCell ⟨w.heap.size, 11, none⟩ (.int .u32 (m : Int)) = w9 at *
  have ka := BA3.out.cell
  have kb := BB3.out.cell
  have fb := BB3.out.frozen
  go_wp2_with fail
  refine bodyPost_ret (v := .tuple #[.agg #[.int .i64 1, .int .u64 l, .int .i64 n, .int .u64 c, .int .u64 b, .int .u64 o, .int .u64 p, .bool i, .bool r, .bool d, .bool q, .int .u32 (m : Int), .int .i64 0, .string ⟨#[]⟩], .nilIface]) (by simp [results, Tryd.results44, go_sem, kb]) rfl ⟨rfl, ?_⟩
  exact (H3.out.set14 (b := w.heap.size + 1) ⟨14, by simp⟩ _ _ _ _ _ _ _ _ _ _ _ _ _ _).below

set_option maxRecDepth 100000 in
set_option maxHeartbeats 16000000 in
theorem pfl_bad (x : ByteArray) (l n c b o p : Int) (i r d q : Bool) (m : Nat) (f : Int) (w : World) (hd : ∀ w, Calls Tryd.prog 55 #[.string x] w fun e w' => e = .returned (.tuple #[.agg #[.int .i64 n, .int .u64 c, .int .u64 b, .int .u64 o, .int .u64 p, .bool i, .bool r, .bool d, .bool q, .int .u32 (m : Int)], .int .i64 f]) ∧ Below w.heap.size w w') (hf : (f != 0) = true) :
    Calls Tryd.prog 44 #[.agg #[.int .i64 1, .int .u64 l, .int .i64 0, .int .u64 0, .int .u64 0, .int .u64 0, .int .u64 0, .bool false, .bool false, .bool false, .bool false, .int .u32 0, .int .i64 0, .string ⟨#[]⟩], .string x] w fun e w' => e = .returned (.tuple #[.agg #[.int .i64 0, .int .u64 0, .int .i64 0, .int .u64 0, .int .u64 0, .int .u64 0, .int .u64 0, .bool false, .bool false, .bool false, .bool false, .int .u32 0, .int .i64 0, .string ⟨#[]⟩], .iface 65 (.agg #[.string ⟨#[104, 101, 108, 108, 111]⟩, .iface 32 (.int .i64 f)])]) ∧ Below w.heap.size w w' := by
  have HD := Lib.hid hd; clear hd
  have HN := Lib.hid (show w.heap.size ≠ w.heap.size + 1 from by omega)
  have H0 := Lib.hid (((Held.refl w).own [.int .i64 1, .int .u64 l, .int .i64 0, .int .u64 0, .int .u64 0, .int .u64 0, .int .u64 0, .bool false, .bool false, .bool false, .bool false, .int .u32 0, .int .i64 0, .string ⟨#[]⟩] 30 (n := 14) rfl).own [.int .i64 0, .int .u64 0, .int .i64 0, .int .u64 0, .int .u64 0, .int .u64 0, .int .u64 0, .bool false, .bool false, .bool false, .bool false, .int .u32 0, .int .i64 0, .string ⟨#[]⟩] 30 (n := 14) rfl)
  have BA0 := Lib.hid ((Box.new w [.int .i64 1, .int .u64 l, .int .i64 0, .int .u64 0, .int .u64 0, .int .u64 0, .int .u64 0, .bool false, .bool false, .bool false, .bool false, .int .u32 0, .int .i64 0, .string ⟨#[]⟩] 30).alloc (.cells ([.int .i64 0, .int .u64 0, .int .i64 0, .int .u64 0, .int .u64 0, .int .u64 0, .int .u64 0, .bool false, .bool false, .bool false, .bool false, .int .u32 0, .int .i64 0, .string ⟨#[]⟩] : List Value).toArray 30))
  have BB0 := Lib.hid (Box.new2 w (.cells ([.int .i64 1, .int .u64 l, .int .i64 0, .int .u64 0, .int .u64 0, .int .u64 0, .int .u64 0, .bool false, .bool false, .bool false, .bool false, .int .u32 0, .int .i64 0, .string ⟨#[]⟩] : List Value).toArray 30) [.int .i64 0, .int .u64 0, .int .i64 0, .int .u64 0, .int .u64 0, .int .u64 0, .int .u64 0, .bool false, .bool false, .bool false, .bool false, .int .u32 0, .int .i64 0, .string ⟨#[]⟩] 30)
  rw [World.size_alloc] at H0
  go_enter Tryd.func44, Tryd.ntmps44
  go_wp2_with fail
  refine (HD.out _).mono ?_
  rintro e w1 ⟨rfl, hb⟩
  have H1 := Lib.hid (H0.out.up hb)
  have BA1 := Lib.hid (BA0.out.below hb)
  have BB1 := Lib.hid (BB0.out.below hb)
  clear hb H0 BA0 BB0
  have kh := (Box.new w1 [.int .i64 n, .int .u64 c, .int .u64 b, .int .u64 o, .int .u64 p, .bool i, .bool r, .bool d, .bool q, .int .u32 (m : Int)] 28).cell
  have H2 := Lib.hid (H1.out.alloc (.cells #[.int .i64 n, .int .u64 c, .int .u64 b, .int .u64 o, .int .u64 p, .bool i, .bool r, .bool d, .bool q, .int .u32 (m : Int)] 28))
  have BA2 := Lib.hid (BA1.out.alloc (.cells #[.int .i64 n, .int .u64 c, .int .u64 b, .int .u64 o, .int .u64 p, .bool i, .bool r, .bool d, .bool q, .int .u32 (m : Int)] 28))
  have BB2 := Lib.hid (BB1.out.alloc (.cells #[.int .i64 n, .int .u64 c, .int .u64 b, .int .u64 o, .int .u64 p, .bool i, .bool r, .bool d, .bool q, .int .u32 (m : Int)] 28))
  clear H1 BA1 BB1
  have ka := BA2.out.cell
  have fa := BA2.out.frozen
  have kb := BB2.out.cell
  have fb := BB2.out.frozen
  clear ka fa kh
  go_wp2_with fail
  refine bodyPost_ret (v := .tuple #[.agg #[.int .i64 0, .int .u64 0, .int .i64 0, .int .u64 0, .int .u64 0, .int .u64 0, .int .u64 0, .bool false, .bool false, .bool false, .bool false, .int .u32 0, .int .i64 0, .string ⟨#[]⟩], .iface 65 (.agg #[.string ⟨#[104, 101, 108, 108, 111]⟩, .iface 32 (.int .i64 f)])]) (by simp [results, Tryd.results44, go_sem, kb]) rfl ⟨rfl, ?_⟩
  exact (H2.out.set14 (b := w.heap.size + 1) ⟨14, by simp⟩ _ _ _ _ _ _ _ _ _ _ _ _ _ _).below

set_option maxRecDepth 100000 in
set_option maxHeartbeats 16000000 in
theorem pfl_nil (k : Int) (x : ByteArray) (l : Int) (w : World) (hk : k ≠ 1) (hx : x.size = 0) :
    Calls Tryd.prog 44 #[.agg #[.int .i64 k, .int .u64 l, .int .i64 0, .int .u64 0, .int .u64 0, .int .u64 0, .int .u64 0, .bool false, .bool false, .bool false, .bool false, .int .u32 0, .int .i64 0, .string ⟨#[]⟩], .string x] w fun e w' => e = .returned (.tuple #[.agg #[.int .i64 k, .int .u64 l, .int .i64 0, .int .u64 0, .int .u64 0, .int .u64 0, .int .u64 0, .bool false, .bool false, .bool false, .bool false, .int .u32 0, .int .i64 0, .string ⟨#[]⟩], .nilIface]) ∧ Below w.heap.size w w' := by
  obtain rfl := size_zero hx
  clear hx
  have e1 : (k == 1) = false := beq_eq_false_iff_ne.2 hk
  clear hk
  have HN := Lib.hid (show w.heap.size ≠ w.heap.size + 1 from by omega)
  have H0 := Lib.hid (((Held.refl w).own [.int .i64 k, .int .u64 l, .int .i64 0, .int .u64 0, .int .u64 0, .int .u64 0, .int .u64 0, .bool false, .bool false, .bool false, .bool false, .int .u32 0, .int .i64 0, .string ⟨#[]⟩] 30 (n := 14) rfl).own [.int .i64 0, .int .u64 0, .int .i64 0, .int .u64 0, .int .u64 0, .int .u64 0, .int .u64 0, .bool false, .bool false, .bool false, .bool false, .int .u32 0, .int .i64 0, .string ⟨#[]⟩] 30 (n := 14) rfl)
  have BA0 := Lib.hid ((Box.new w [.int .i64 k, .int .u64 l, .int .i64 0, .int .u64 0, .int .u64 0, .int .u64 0, .int .u64 0, .bool false, .bool false, .bool false, .bool false, .int .u32 0, .int .i64 0, .string ⟨#[]⟩] 30).alloc (.cells ([.int .i64 0, .int .u64 0, .int .i64 0, .int .u64 0, .int .u64 0, .int .u64 0, .int .u64 0, .bool false, .bool false, .bool false, .bool false, .int .u32 0, .int .i64 0, .string ⟨#[]⟩] : List Value).toArray 30))
  have BB0 := Lib.hid (Box.new2 w (.cells ([.int .i64 k, .int .u64 l, .int .i64 0, .int .u64 0, .int .u64 0, .int .u64 0, .int .u64 0, .bool false, .bool false, .bool false, .bool false, .int .u32 0, .int .i64 0, .string ⟨#[]⟩] : List Value).toArray 30) [.int .i64 0, .int .u64 0, .int .i64 0, .int .u64 0, .int .u64 0, .int .u64 0, .int .u64 0, .bool false, .bool false, .bool false, .bool false, .int .u32 0, .int .i64 0, .string ⟨#[]⟩] 30)
  rw [World.size_alloc] at H0
  go_enter Tryd.func44, Tryd.ntmps44
  have ka := BA0.out.cell
  have fa := BA0.out.frozen
  have kb := BB0.out.cell
  have fb := BB0.out.frozen
  go_wp2_with fail
  refine bodyPost_ret (v := .tuple #[.agg #[.int .i64 k, .int .u64 l, .int .i64 0, .int .u64 0, .int .u64 0, .int .u64 0, .int .u64 0, .bool false, .bool false, .bool false, .bool false, .int .u32 0, .int .i64 0, .string ⟨#[]⟩], .nilIface]) (by simp [results, Tryd.results44, go_sem]) rfl ⟨rfl, ?_⟩
  exact below2

set_option maxRecDepth 100000 in
set_option maxHeartbeats 16000000 in
theorem pfl_two (k : Int) (x y : ByteArray) (l z : Int) (w : World) (hk : k ≠ 1) (hp : 0 < x.size) (hz : (x.size : Int) ≤ 3000) (hzr : 0 ≤ z ∧ z < 256) (hb0 : ((x[0]'hp).toNat : Int) = z) (hx : x.extract 1 x.size = y) :
    Calls Tryd.prog 44 #[.agg #[.int .i64 k, .int .u64 l, .int .i64 0, .int .u64 0, .int .u64 0, .int .u64 0, .int .u64 0, .bool false, .bool false, .bool false, .bool false, .int .u32 0, .int .i64 0, .string ⟨#[]⟩], .string x] w fun e w' => e = .returned (.tuple #[.agg #[.int .i64 k, .int .u64 l, .int .i64 0, .int .u64 0, .int .u64 0, .int .u64 0, .int .u64 0, .bool false, .bool false, .bool false, .bool false, .int .u32 0, .int .i64 z, .string y], .nilIface]) ∧ Below w.heap.size w w' := by
  have e1 : (k == 1) = false := beq_eq_false_iff_ne.2 hk
  have hne : (x.toList == (⟨#[]⟩ : ByteArray).toList) = false := by
    rw [nil_size2]
    exact decide_eq_false (by omega)
  have hne2 : (x.toList == ([] : List UInt8)) = false := by
    rw [← hne, ByteArray.toList_eq (⟨#[]⟩ : ByteArray)]
  have hpi : (0 : Int) < (x.size : Int) := by omega
  have hwz : IntKind.i64.wrap z = z := IntWalk.i64_in z (by omega)
  have hp1 : (1 : Int) ≤ (x.size : Int) := by omega
  clear hk hzr
  have HN := Lib.hid (show w.heap.size ≠ w.heap.size + 1 from by omega)
  have H0 := Lib.hid (((Held.refl w).own [.int .i64 k, .int .u64 l, .int .i64 0, .int .u64 0, .int .u64 0, .int .u64 0, .int .u64 0, .bool false, .bool false, .bool false, .bool false, .int .u32 0, .int .i64 0, .string ⟨#[]⟩] 30 (n := 14) rfl).own [.int .i64 0, .int .u64 0, .int .i64 0, .int .u64 0, .int .u64 0, .int .u64 0, .int .u64 0, .bool false, .bool false, .bool false, .bool false, .int .u32 0, .int .i64 0, .string ⟨#[]⟩] 30 (n := 14) rfl)
  have BA0 := Lib.hid ((Box.new w [.int .i64 k, .int .u64 l, .int .i64 0, .int .u64 0, .int .u64 0, .int .u64 0, .int .u64 0, .bool false, .bool false, .bool false, .bool false, .int .u32 0, .int .i64 0, .string ⟨#[]⟩] 30).alloc (.cells ([.int .i64 0, .int .u64 0, .int .i64 0, .int .u64 0, .int .u64 0, .int .u64 0, .int .u64 0, .bool false, .bool false, .bool false, .bool false, .int .u32 0, .int .i64 0, .string ⟨#[]⟩] : List Value).toArray 30))
  have BB0 := Lib.hid (Box.new2 w (.cells ([.int .i64 k, .int .u64 l, .int .i64 0, .int .u64 0, .int .u64 0, .int .u64 0, .int .u64 0, .bool false, .bool false, .bool false, .bool false, .int .u32 0, .int .i64 0, .string ⟨#[]⟩] : List Value).toArray 30) [.int .i64 0, .int .u64 0, .int .i64 0, .int .u64 0, .int .u64 0, .int .u64 0, .int .u64 0, .bool false, .bool false, .bool false, .bool false, .int .u32 0, .int .i64 0, .string ⟨#[]⟩] 30)
  rw [World.size_alloc] at H0
  go_enter Tryd.func44, Tryd.ntmps44
  go_upto_region 7 with fail
  refine held_startC (S := Held w [] [(w.heap.size + 1, 14), (w.heap.size, 14)]) (by kernel_rfl) H0.out.drew (fun v0 hv0 hH0 => ?_)
  have BA := Lib.hid (BA0.out.below hv0)
  have BB := Lib.hid (BB0.out.below hv0)
  clear hv0
  refine wpAnyH_take (i := 0) (v := ?_) rfl (by kernel_rfl) (by kernel_rfl) (by kernel_rfl) (fun _ _ _ h => h) (Or.inl ⟨by rfl, ?_⟩) hH0 ?_
  rotate_left
  · (intro v hSw; go_simp; try with_reducible rfl)
  simp only [Act.put, List.setIfInBounds_toArray, List.set_cons_zero, List.set_cons_succ, List.getElem_toArray, List.getElem_cons_zero]
  refine wpAnyH_take (i := 1) (v := ?_) rfl (by kernel_rfl) (by kernel_rfl) (by kernel_rfl) (fun _ _ _ h => h) (Or.inl ⟨by rfl, ?_⟩) hH0 ?_
  rotate_left
  · (intro v hSw; go_simp; try with_reducible rfl)
  simp only [Act.put, List.setIfInBounds_toArray, List.set_cons_zero, List.set_cons_succ, List.getElem_toArray, List.getElem_cons_zero, List.getElem_cons_succ]
  refine wpAnyH_take (i := 2) (v := ?_) rfl (by kernel_rfl) (by kernel_rfl) (by kernel_rfl) (fun _ _ _ h => h) (Or.inl ⟨by rfl, ?_⟩) hH0 ?_
  rotate_left
  · (intro v hSw; go_simp; try with_reducible rfl)
  simp only [Act.put, List.setIfInBounds_toArray, List.set_cons_zero, List.set_cons_succ, List.getElem_toArray, List.getElem_cons_zero, List.getElem_cons_succ]
  refine wpAnyH_take (i := 3) (v := ?_) rfl (by kernel_rfl) (by kernel_rfl) (by kernel_rfl) (fun _ _ _ h => h) (Or.inl ⟨by rfl, ?_⟩) hH0 ?_
  rotate_left
  · (intro v hSw; go_simp; try with_reducible rfl)
  simp only [Act.put, List.setIfInBounds_toArray, List.set_cons_zero, List.set_cons_succ, List.getElem_toArray, List.getElem_cons_zero, List.getElem_cons_succ]
  refine wpAnyH_take (i := 4) (v := ?_) rfl (by kernel_rfl) (by kernel_rfl) (by kernel_rfl) (fun _ _ _ h => h) (Or.inl ⟨by rfl, ?_⟩) hH0 ?_
  rotate_left
  · (intro v hSw; go_simp; try with_reducible rfl)
  simp only [Act.put, List.setIfInBounds_toArray, List.set_cons_zero, List.set_cons_succ, List.getElem_toArray, List.getElem_cons_zero, List.getElem_cons_succ]
  refine wpAnyH_take (i := 5) (v := ?_) rfl (by kernel_rfl) (by kernel_rfl) (by kernel_rfl) (fun _ _ _ h => h) (Or.inl ⟨by rfl, ?_⟩) hH0 ?_
  rotate_left
  · (intro v hSw; go_simp; try with_reducible rfl)
  simp only [Act.put, List.setIfInBounds_toArray, List.set_cons_zero, List.set_cons_succ, List.getElem_toArray, List.getElem_cons_zero, List.getElem_cons_succ]
  refine wpAnyH_ready (rs := [6]) (by kernel_rfl) (by simp) ?_
  refine AllReadyH.cons rfl (fun K hK => ?_) AllReadyH.nil
  have kx := BA.out.cell
  have fx := BA.out.frozen
  go_simp
  refine hK.out _ _ (hH0.set (b := w.heap.size) ⟨14, by simp⟩ 12 (.int .i64 z)) (fun hH1 => ?_)
  replace BA := Lib.hid (BA.out.set 12 (.int .i64 z))
  replace BB := Lib.hid (BB.out.other (p := ⟨w.heap.size, 12, none⟩) HN.out.symm (.int .i64 z))
  clear hK K hH0 kx fx
  refine wpAnyH_take (i := 7) (v := ?_) rfl (by kernel_rfl) (by kernel_rfl) (by kernel_rfl) (fun _ _ _ h => h) (Or.inl ⟨by rfl, ?_⟩) hH1 ?_
  rotate_left
  · (intro v hSw; go_simp; try with_reducible rfl)
  simp only [Act.put, List.setIfInBounds_toArray, List.set_cons_zero, List.set_cons_succ, List.getElem_toArray, List.getElem_cons_zero, List.getElem_cons_succ]
  refine wpAnyH_ready (rs := [8]) (by kernel_rfl) (by simp) ?_
  refine AllReadyH.cons rfl (fun K hK => ?_) AllReadyH.nil
  have kx := BA.out.cell
  have fx := BA.out.frozen
  go_simp
  refine hK.out _ _ (hH1.set (b := w.heap.size) ⟨14, by simp⟩ 13 (.string y)) (fun hH2 => ?_)
  replace BA := Lib.hid (BA.out.set 13 (.string y))
  replace BB := Lib.hid (BB.out.other (p := ⟨w.heap.size, 13, none⟩) HN.out.symm (.string y))
  clear hK K hH1 kx fx
  refine wpAnyH_done (by kernel_rfl) ?_ _
  have H8 := Lib.hid hH2
  have ka := BA.out.cell
  have fa := BA.out.frozen
  have kb := BB.out.cell
  have fb := BB.out.frozen
  go_wp2_with fail
  refine bodyPost_ret (v := .tuple #[.agg #[.int .i64 k, .int .u64 l, .int .i64 0, .int .u64 0, .int .u64 0, .int .u64 0, .int .u64 0, .bool false, .bool false, .bool false, .bool false, .int .u32 0, .int .i64 z, .string y], .nilIface]) (by simp [results, Tryd.results44, go_sem, kb]) rfl ⟨rfl, ?_⟩
  exact (H8.out.set14 (b := w.heap.size + 1) ⟨14, by simp⟩ _ _ _ _ _ _ _ _ _ _ _ _ _ _).below
end Go.Proofs.YtbbcncofdhhflaaDoor
