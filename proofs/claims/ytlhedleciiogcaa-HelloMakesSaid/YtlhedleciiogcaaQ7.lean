/- Hellos: the document's examples: the fixed fact holds. No condition. -/
import Derived.Test.YtlhedleciiogcaaQ6
namespace Go.Proofs.Ytlhedleciiogcaa
open Go.RowKit

def hel0 : Hel := ⟨3, 7, 0, 0, 0, false, true, false, false, 5⟩
def hbytes0 : ByteArray := ⟨#[3, 2, 0, 0, 0, 0, 0, 0, 0, 7, 0, 0, 0, 0, 0, 0, 0, 0, 0, 0, 0, 0, 0, 0, 0, 0, 0, 0, 0, 0, 0, 0, 0, 0, 0, 0, 0, 5]⟩
theorem hx_bytes : hel0.bytes = hbytes0 := by kernel_rfl
theorem hx_dec : hdec hbytes0 = (hel0, 0) := by kernel_rfl
theorem hx_abc : hdec ⟨#[97, 98, 99]⟩ = (Hel.zero, 2) := by kernel_rfl
theorem hx_size : hbytes0.size = 38 := by kernel_rfl
theorem hx_two : hbytes0.extract 0 2 = ⟨#[3, 2]⟩ := by kernel_rfl
theorem hx_four : hbytes0.extract 34 hbytes0.size = ⟨#[0, 0, 0, 5]⟩ := by kernel_rfl
theorem hx_wide : hel0.wide := ⟨by decide, by decide, by decide, by decide, by decide⟩
theorem hx_wide0 : Hel.zero.wide := ⟨by decide, by decide, by decide, by decide, by decide⟩

theorem ha_of (w : World) : Calls Try.prog 7 #[.agg #[.int .i64 3, .int .u64 7, .int .u64 0, .int .u64 0, .int .u64 0, .bool false, .bool true, .bool false], .bool false, .int .u32 5] w fun e w' => e = .returned (.agg #[.int .i64 3, .int .u64 7, .int .u64 0, .int .u64 0, .int .u64 0, .bool false, .bool true, .bool false, .bool false, .int .u32 5]) ∧ Below w.heap.size w w' := hof_any ⟨3, 7, 0, 0, 0, false, true, false⟩ false 5 w
theorem ha_enc (w : World) : Calls Try.prog 11 #[.agg #[.int .i64 3, .int .u64 7, .int .u64 0, .int .u64 0, .int .u64 0, .bool false, .bool true, .bool false, .bool false, .int .u32 5]] w fun e w' => e = .returned (.tuple #[.string hbytes0, .int .i64 0]) ∧ Below w.heap.size w w' := by
  have := hencode_yes hel0 w hx_wide rfl
  rw [hx_bytes] at this
  exact this
theorem ha_enc0 (w : World) : Calls Try.prog 11 #[.agg #[.int .i64 0, .int .u64 0, .int .u64 0, .int .u64 0, .int .u64 0, .bool false, .bool false, .bool false, .bool false, .int .u32 0]] w fun e w' => e = .returned (.tuple #[.string ⟨#[]⟩, .int .i64 1]) ∧ Below w.heap.size w w' := hencode_no Hel.zero w (by decide) rfl
theorem ha_right (w : World) : Calls Try.prog 9 #[.agg #[.int .i64 3, .int .u64 7, .int .u64 0, .int .u64 0, .int .u64 0, .bool false, .bool true, .bool false, .bool false, .int .u32 5]] w fun e w' => e = .returned (.bool true) ∧ Below w.heap.size w w' := hright_any hel0 w (by decide)
theorem ha_right8 (w : World) : Calls Try.prog 9 #[.agg #[.int .i64 3, .int .u64 7, .int .u64 0, .int .u64 0, .int .u64 0, .bool false, .bool false, .bool false, .bool false, .int .u32 8]] w fun e w' => e = .returned (.bool false) ∧ Below w.heap.size w w' := hright_any ⟨3, 7, 0, 0, 0, false, false, false, false, 8⟩ w (by decide)
theorem ha_dec (w : World) : Calls Try.prog 13 #[.string hbytes0] w fun e w' => e = .returned (.tuple #[.agg #[.int .i64 3, .int .u64 7, .int .u64 0, .int .u64 0, .int .u64 0, .bool false, .bool true, .bool false, .bool false, .int .u32 5], .int .i64 0]) ∧ Below w.heap.size w w' := by
  have := hdecode_any hbytes0 w
  rw [hx_dec] at this
  exact this
theorem ha_abc (w : World) : Calls Try.prog 13 #[.string ⟨#[97, 98, 99]⟩] w fun e w' => e = .returned (.tuple #[.agg #[.int .i64 0, .int .u64 0, .int .u64 0, .int .u64 0, .int .u64 0, .bool false, .bool false, .bool false, .bool false, .int .u32 0], .int .i64 2]) ∧ Below w.heap.size w w' := by
  have := hdecode_any ⟨#[97, 98, 99]⟩ w
  rw [hx_abc] at this
  exact this

set_option maxRecDepth 100000 in
set_option maxHeartbeats 8000000 in
theorem halive_any (w : World) : Calls Try.prog 6 #[] w fun e w' => e = .returned (.bool true) ∧ Below w.heap.size w w' := by
  have h1 := ha_enc
  have h2 := ha_dec
  have z1 : (hbytes0.size : Int) = 38 := by rw [hx_size]; rfl
  have z2 : ((hbytes0.extract 0 2).toList == [3, 2]) = true := by rw [hx_two, ByteArray.toList_eq]; rfl
  have z3 : ((hbytes0.extract 34 hbytes0.size).toList == [0, 0, 0, 5]) = true := by rw [hx_four, ByteArray.toList_eq]; rfl
  generalize hbytes0 = x at *
  have E1 := Lib.hid h1; clear h1
  have E2 := Lib.hid h2; clear h2
  go_enter Try.func6, Try.ntmps6
  go_wp2_with fail
  refine (ha_of _).mono ?_
  rintro e w1 ⟨rfl, hb⟩
  have H1 := Lib.hid (((Held.refl w).up hb).lay [.int .i64 3, .int .u64 7, .int .u64 0, .int .u64 0, .int .u64 0, .bool false, .bool true, .bool false, .bool false, .int .u32 5] 31)
  clear hb
  have k := H1.out.b0.cell
  go_wp2_with fail
  refine (E1.out _).mono ?_
  rintro e w2 ⟨rfl, hb⟩
  have H2 := Lib.hid (H1.out.up hb)
  clear hb H1 k
  go_wp2_with fail
  refine (E2.out _).mono ?_
  rintro e w3 ⟨rfl, hb⟩
  have H3 := Lib.hid ((H2.out.up hb).lay [.int .i64 3, .int .u64 7, .int .u64 0, .int .u64 0, .int .u64 0, .bool false, .bool true, .bool false, .bool false, .int .u32 5] 31)
  clear hb H2
  go_wp2_with fail
  refine (ha_enc0 _).mono ?_
  rintro e w4 ⟨rfl, hb⟩
  have H4 := Lib.hid (H3.out.up hb)
  clear hb H3
  go_wp2_with fail
  refine (ha_abc _).mono ?_
  rintro e w5 ⟨rfl, hb⟩
  have H5 := Lib.hid ((H4.out.up hb).alloc (.cells #[.int .i64 0, .int .u64 0, .int .u64 0, .int .u64 0, .int .u64 0, .bool false, .bool false, .bool false, .bool false, .int .u32 0] 31))
  clear hb H4
  have k1 := H5.out.b1.cell
  have k2 := H5.out.b0.cell
  go_wp2_with fail
  refine (ha_right _).mono ?_
  rintro e w6 ⟨rfl, hb⟩
  have H6 := Lib.hid (H5.out.up hb)
  clear hb H5 k1 k2
  go_wp2_with fail
  refine (ha_right8 _).mono ?_
  rintro e w7 ⟨rfl, hb⟩
  have H7 := Lib.hid (H6.out.up hb)
  clear hb H6
  go_wp2_with fail
  go_ret
  exact ⟨rfl, H7.out.below⟩
end Go.Proofs.Ytlhedleciiogcaa
