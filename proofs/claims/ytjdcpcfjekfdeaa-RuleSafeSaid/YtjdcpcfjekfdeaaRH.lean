/- Rule: the document's examples: the fixed fact holds. No condition. -/
import Derived.Test.YtjdcpcfjekfdeaaRG
namespace Go.Proofs.Ytjdcpcfjekfdeaa
open Go.RowKit

/-- The kind of a verdict that was handed back. -/
@[go_sem] theorem fldv (k s : Int) (w : World) : (Instr.field 32 (.agg #[.int .i64 k, .int .i64 s]) 0).run Try.prog w = .ok (.int .i64 k) w := by kernel_rfl

def helx : Hel := ⟨3, 8, 7, 0, 0, false, false, false, false, 5⟩
def hely : Hel := ⟨3, 7, 0, 0, 0, false, false, false, false, 2⟩
def helz : Hel := ⟨3, 9, 7, 0, 0, false, false, false, false, 0⟩
def help : Hel := ⟨3, 7, 0, 0, 0, false, false, false, true, 2⟩

theorem da0 (w : World) : Calls Try.prog 11 #[.agg #[.int .i64 3, .int .u64 8, .int .u64 7, .int .u64 0, .int .u64 0, .bool false, .bool false, .bool false, .bool false, .int .u32 5], .agg #[.int .i64 3, .int .u64 7, .int .u64 0, .int .u64 0, .int .u64 0, .bool false, .bool false, .bool false, .bool false, .int .u32 2]] w fun e w' => e = .returned (.agg #[.int .i64 2, .int .i64 0]) ∧ Below w.heap.size w w' := by
  have := decide_any helx hely w
  rw [show decK helx hely = 2 from by decide +kernel, show decS helx hely = 0 from by decide +kernel] at this
  exact this

theorem da1 (w : World) : Calls Try.prog 11 #[.agg #[.int .i64 3, .int .u64 7, .int .u64 0, .int .u64 0, .int .u64 0, .bool false, .bool false, .bool false, .bool false, .int .u32 2], .agg #[.int .i64 3, .int .u64 8, .int .u64 7, .int .u64 0, .int .u64 0, .bool false, .bool false, .bool false, .bool false, .int .u32 5]] w fun e w' => e = .returned (.agg #[.int .i64 2, .int .i64 1]) ∧ Below w.heap.size w w' := by
  have := decide_any hely helx w
  rw [show decK hely helx = 2 from by decide +kernel, show decS hely helx = 1 from by decide +kernel] at this
  exact this

theorem da2 (w : World) : Calls Try.prog 11 #[.agg #[.int .i64 3, .int .u64 8, .int .u64 7, .int .u64 0, .int .u64 0, .bool false, .bool false, .bool false, .bool false, .int .u32 5], .agg #[.int .i64 3, .int .u64 9, .int .u64 7, .int .u64 0, .int .u64 0, .bool false, .bool false, .bool false, .bool false, .int .u32 0]] w fun e w' => e = .returned (.agg #[.int .i64 4, .int .i64 (-1)]) ∧ Below w.heap.size w w' := by
  have := decide_any helx helz w
  rw [show decK helx helz = 4 from by decide +kernel, show decS helx helz = -1 from by decide +kernel] at this
  exact this

theorem da3 (w : World) : Calls Try.prog 11 #[.agg #[.int .i64 3, .int .u64 9, .int .u64 7, .int .u64 0, .int .u64 0, .bool false, .bool false, .bool false, .bool false, .int .u32 0], .agg #[.int .i64 3, .int .u64 9, .int .u64 7, .int .u64 0, .int .u64 0, .bool false, .bool false, .bool false, .bool false, .int .u32 0]] w fun e w' => e = .returned (.agg #[.int .i64 1, .int .i64 (-1)]) ∧ Below w.heap.size w w' := by
  have := decide_any helz helz w
  rw [show decK helz helz = 1 from by decide +kernel, show decS helz helz = -1 from by decide +kernel] at this
  exact this

theorem da4 (w : World) : Calls Try.prog 11 #[.agg #[.int .i64 3, .int .u64 8, .int .u64 7, .int .u64 0, .int .u64 0, .bool false, .bool false, .bool false, .bool false, .int .u32 5], .agg #[.int .i64 3, .int .u64 7, .int .u64 0, .int .u64 0, .int .u64 0, .bool false, .bool false, .bool false, .bool true, .int .u32 2]] w fun e w' => e = .returned (.agg #[.int .i64 4, .int .i64 (-1)]) ∧ Below w.heap.size w w' := by
  have := decide_any helx help w
  rw [show decK helx help = 4 from by decide +kernel, show decS helx help = -1 from by decide +kernel] at this
  exact this

theorem da5 (w : World) : Calls Try.prog 15 #[.agg #[.int .i64 2, .int .i64 0]] w fun e w' => e = .returned (.int .i64 1) ∧ Below w.heap.size w w' := target_any 2 0 w

theorem da6 (w : World) : Calls Try.prog 15 #[.agg #[.int .i64 0, .int .i64 (-1)]] w fun e w' => e = .returned (.int .i64 (-1)) ∧ Below w.heap.size w w' := target_any 0 (-1) w

theorem da7 (w : World) : Calls Try.prog 13 #[.agg #[.int .i64 2, .int .i64 0], .agg #[.int .i64 3, .int .u64 8, .int .u64 7, .int .u64 0, .int .u64 0, .bool false, .bool false, .bool false, .bool false, .int .u32 5], .agg #[.int .i64 3, .int .u64 7, .int .u64 0, .int .u64 0, .int .u64 0, .bool false, .bool false, .bool false, .bool false, .int .u32 2]] w fun e w' => e = .returned (.int .u32 7) ∧ Below w.heap.size w w' := by
  have := bits_any 2 0 helx hely w (by decide) (by decide) (by decide)
  rw [show bitsB 2 helx hely = 7 from by decide +kernel] at this
  exact this

theorem da8 (w : World) : Calls Try.prog 17 #[.agg #[.int .u64 8, .int .u64 7, .int .u64 0, .int .u64 0], .agg #[.int .u64 8, .int .u64 0, .int .u64 7, .int .u64 0]] w fun e w' => e = .returned (.bool true) ∧ Below w.heap.size w w' := by
  have := same_any 8 7 0 0 8 0 7 0 w
  rw [show sameB 8 7 0 0 8 0 7 0 = true from by decide +kernel] at this
  exact this

theorem da9 (w : World) : Calls Try.prog 17 #[.agg #[.int .u64 8, .int .u64 7, .int .u64 0, .int .u64 0], .agg #[.int .u64 7, .int .u64 0, .int .u64 0, .int .u64 0]] w fun e w' => e = .returned (.bool false) ∧ Below w.heap.size w w' := by
  have := same_any 8 7 0 0 7 0 0 0 w
  rw [show sameB 8 7 0 0 7 0 0 0 = false from by decide +kernel] at this
  exact this

set_option maxRecDepth 100000 in
set_option maxHeartbeats 4000000 in
theorem ualive_any (w : World) : Calls Try.prog 9 #[] w fun e w' => e = .returned (.bool true) ∧ Below w.heap.size w w' := by
  have H0 := (((((Held.refl w).lay [.int .i64 3, .int .u64 8, .int .u64 7, .int .u64 0, .int .u64 0, .bool false, .bool false, .bool false, .bool false, .int .u32 5] 28).lay [.int .i64 3, .int .u64 7, .int .u64 0, .int .u64 0, .int .u64 0, .bool false, .bool false, .bool false, .bool false, .int .u32 2] 28).lay [.int .i64 3, .int .u64 9, .int .u64 7, .int .u64 0, .int .u64 0, .bool false, .bool false, .bool false, .bool false, .int .u32 0] 28).lay [.int .i64 3, .int .u64 7, .int .u64 0, .int .u64 0, .int .u64 0, .bool false, .bool false, .bool false, .bool true, .int .u32 2] 28)
  simp only [World.size_alloc] at H0
  replace H0 := Lib.hid H0
  go_enter Try.func9, Try.ntmps9
  go_wp2_with fail
  refine (da0 _).mono ?_
  rintro e w1 ⟨rfl, hb⟩
  have H1 := Lib.hid ((H0.out.up hb).lay [.int .i64 2, .int .i64 0] 32)
  clear hb H0
  have k0 := H1.out.b0.cell
  have k1 := H1.out.b1.cell
  have k2 := H1.out.b2.cell
  have k3 := H1.out.b3.cell
  have k4 := H1.out.b4.cell
  go_wp2_with fail
  refine (da1 _).mono ?_
  rintro e w2 ⟨rfl, hb⟩
  have H2 := Lib.hid (H1.out.up hb)
  clear hb H1 k0 k1 k2 k3 k4
  have k0 := H2.out.b0.cell
  have k1 := H2.out.b1.cell
  have k2 := H2.out.b2.cell
  have k3 := H2.out.b3.cell
  have k4 := H2.out.b4.cell
  go_wp2_with fail
  refine (da2 _).mono ?_
  rintro e w3 ⟨rfl, hb⟩
  have H3 := Lib.hid (H2.out.up hb)
  clear hb H2 k0 k1 k2 k3 k4
  have k0 := H3.out.b0.cell
  have k1 := H3.out.b1.cell
  have k2 := H3.out.b2.cell
  have k3 := H3.out.b3.cell
  have k4 := H3.out.b4.cell
  go_wp2_with fail
  refine (da3 _).mono ?_
  rintro e w4 ⟨rfl, hb⟩
  have H4 := Lib.hid (H3.out.up hb)
  clear hb H3 k0 k1 k2 k3 k4
  have k0 := H4.out.b0.cell
  have k1 := H4.out.b1.cell
  have k2 := H4.out.b2.cell
  have k3 := H4.out.b3.cell
  have k4 := H4.out.b4.cell
  go_wp2_with fail
  refine (da4 _).mono ?_
  rintro e w5 ⟨rfl, hb⟩
  have H5 := Lib.hid (H4.out.up hb)
  clear hb H4 k0 k1 k2 k3 k4
  have k0 := H5.out.b0.cell
  have k1 := H5.out.b1.cell
  have k2 := H5.out.b2.cell
  have k3 := H5.out.b3.cell
  have k4 := H5.out.b4.cell
  go_wp2_with fail
  refine (da5 _).mono ?_
  rintro e w6 ⟨rfl, hb⟩
  have H6 := Lib.hid (H5.out.up hb)
  clear hb H5 k0 k1 k2 k3 k4
  have k0 := H6.out.b0.cell
  have k1 := H6.out.b1.cell
  have k2 := H6.out.b2.cell
  have k3 := H6.out.b3.cell
  have k4 := H6.out.b4.cell
  go_wp2_with fail
  refine (da6 _).mono ?_
  rintro e w7 ⟨rfl, hb⟩
  have H7 := Lib.hid (H6.out.up hb)
  clear hb H6 k0 k1 k2 k3 k4
  have k0 := H7.out.b0.cell
  have k1 := H7.out.b1.cell
  have k2 := H7.out.b2.cell
  have k3 := H7.out.b3.cell
  have k4 := H7.out.b4.cell
  go_wp2_with fail
  refine (da7 _).mono ?_
  rintro e w8 ⟨rfl, hb⟩
  have H8 := Lib.hid (H7.out.up hb)
  clear hb H7 k0 k1 k2 k3 k4
  have k0 := H8.out.b0.cell
  have k1 := H8.out.b1.cell
  have k2 := H8.out.b2.cell
  have k3 := H8.out.b3.cell
  have k4 := H8.out.b4.cell
  go_wp2_with fail
  refine (da8 _).mono ?_
  rintro e w9 ⟨rfl, hb⟩
  have H9 := Lib.hid (H8.out.up hb)
  clear hb H8 k0 k1 k2 k3 k4
  have k0 := H9.out.b0.cell
  have k1 := H9.out.b1.cell
  have k2 := H9.out.b2.cell
  have k3 := H9.out.b3.cell
  have k4 := H9.out.b4.cell
  go_wp2_with fail
  refine (da9 _).mono ?_
  rintro e w10 ⟨rfl, hb⟩
  have H10 := Lib.hid (H9.out.up hb)
  clear hb H9 k0 k1 k2 k3 k4
  go_wp2_with fail
  go_ret
  exact ⟨rfl, H10.out.below⟩

/-- It answers true, and leaves what was there as it was. -/
def Yes (w : World) (e : Ending) (w' : World) : Prop := e = .returned (.bool true) ∧ Below w.heap.size w w'

end Go.Proofs.Ytjdcpcfjekfdeaa
