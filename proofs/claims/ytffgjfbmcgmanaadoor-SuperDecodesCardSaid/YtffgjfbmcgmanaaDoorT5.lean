/- Superblocks: the document's examples: the fixed fact holds. Under: both package variables as they are laid. -/
import Derived.Test.YtffgjfbmcgmanaaDoorT4
namespace Go.Proofs.YtffgjfbmcgmanaaDoor
open Go.RowKit

def sup0 : Sup := ⟨3, 7, 0, 0, 258, false, true, false⟩
def bytes0 : ByteArray := ⟨#[71, 77, 1, 3, 2, 0, 0, 0, 0, 0, 0, 0, 7, 0, 0, 0, 0, 0, 0, 0, 0, 0, 0, 0, 0, 0, 0, 0, 0, 0, 0, 0, 0, 0, 0, 1, 2, 149, 211, 206, 39]⟩
theorem x_bytes : sup0.bytes = bytes0 := by kernel_rfl
theorem x_dec : dec bytes0 = (sup0, 0) := by kernel_rfl
theorem x_abc : dec ⟨#[97, 98, 99]⟩ = (Sup.zero, 2) := by kernel_rfl
theorem x_sealed : dec (txt (sealed [97, 98, 99])) = (Sup.zero, 2) := by kernel_rfl
theorem x_more : dec (bytes0 ++ ⟨#[120]⟩) = (Sup.zero, 3) := by kernel_rfl
theorem x_size : bytes0.size = 41 := by kernel_rfl
theorem x_five : bytes0.extract 0 5 = ⟨#[71, 77, 1, 3, 2]⟩ := by kernel_rfl
theorem x_two : bytes0.extract 35 37 = ⟨#[1, 2]⟩ := by kernel_rfl
theorem x_wide : sup0.wide := ⟨by decide, by decide, by decide, by decide⟩

theorem a_enc (w : World) : Calls Tryd.prog 7 #[.agg #[.int .i64 3, .int .u64 7, .int .u64 0, .int .u64 0, .int .u64 258, .bool false, .bool true, .bool false]] w fun e w' => e = .returned (.tuple #[.string bytes0, .int .i64 0]) ∧ Below w.heap.size w w' := by
  have := encode_yes sup0 w x_wide rfl
  rw [x_bytes] at this
  exact this
theorem a_enc0 (w : World) : Calls Tryd.prog 7 #[.agg #[.int .i64 0, .int .u64 0, .int .u64 0, .int .u64 0, .int .u64 0, .bool false, .bool false, .bool false]] w fun e w' => e = .returned (.tuple #[.string ⟨#[]⟩, .int .i64 1]) ∧ Below w.heap.size w w' := encode_no Sup.zero w rfl
theorem a_right (w : World) : Calls Tryd.prog 9 #[.agg #[.int .i64 3, .int .u64 7, .int .u64 0, .int .u64 0, .int .u64 258, .bool false, .bool true, .bool false]] w fun e w' => e = .returned (.bool true) ∧ Below w.heap.size w w' := sright_any sup0 w
theorem a_right1 (w : World) : Calls Tryd.prog 9 #[.agg #[.int .i64 1, .int .u64 0, .int .u64 0, .int .u64 0, .int .u64 0, .bool false, .bool false, .bool false]] w fun e w' => e = .returned (.bool false) ∧ Below w.heap.size w w' := sright_any ⟨1, 0, 0, 0, 0, false, false, false⟩ w
theorem a_dec (a : Addr) (w : World) (hg : Glob w a) : Calls Tryd.prog 11 #[.string bytes0] w fun e w' => e = .returned (.tuple #[.agg #[.int .i64 3, .int .u64 7, .int .u64 0, .int .u64 0, .int .u64 258, .bool false, .bool true, .bool false], .int .i64 0]) ∧ Below w.heap.size w w' := by
  have := decode_any bytes0 a w (by rw [x_size]; decide) hg
  rw [x_dec] at this
  exact this
def zeroV (e : Int) : Value := .tuple #[.agg #[.int .i64 0, .int .u64 0, .int .u64 0, .int .u64 0, .int .u64 0, .bool false, .bool false, .bool false], .int .i64 e]
theorem a_abc (a : Addr) (w : World) (hg : Glob w a) : Calls Tryd.prog 11 #[.string ⟨#[97, 98, 99]⟩] w fun e w' => e = .returned (zeroV 2) ∧ Below w.heap.size w w' := by
  have := decode_any ⟨#[97, 98, 99]⟩ a w (by decide) hg
  rw [x_abc] at this
  exact this
theorem a_sealed (a : Addr) (w : World) (hg : Glob w a) : Calls Tryd.prog 11 #[.string (txt (sealed [97, 98, 99]))] w fun e w' => e = .returned (zeroV 2) ∧ Below w.heap.size w w' := by
  have := decode_any (txt (sealed [97, 98, 99])) a w (by rw [txt_size, seal_length]; decide) hg
  rw [x_sealed] at this
  exact this
theorem a_more (a : Addr) (w : World) (hg : Glob w a) : Calls Tryd.prog 11 #[.string (bytes0 ++ ⟨#[120]⟩)] w fun e w' => e = .returned (zeroV 3) ∧ Below w.heap.size w w' := by
  have := decode_any (bytes0 ++ ⟨#[120]⟩) a w (by rw [ByteArray.size_append, x_size]; decide) hg
  rw [x_more] at this
  exact this
theorem a_seal (w : World) : Calls Tryd.prog 13 #[.string ⟨#[97, 98, 99]⟩] w fun e w' => e = .returned (.string (txt (sealed [97, 98, 99]))) ∧ Below w.heap.size w w' := rseal_any ⟨#[97, 98, 99]⟩ w (by decide)

set_option maxRecDepth 100000 in
set_option maxHeartbeats 8000000 in
theorem alive_any (a : Addr) (w : World) (hg : Glob w a) : Calls Tryd.prog 6 #[] w fun e w' => e = .returned (.bool true) ∧ Below w.heap.size w w' := by
  have h1 := a_enc
  have h2 := a_dec a
  have h3 := a_more a
  have z1 : (bytes0.size : Int) = 41 := by rw [x_size]; rfl
  have z2 : ((bytes0.extract 0 5).toList == [71, 77, 1, 3, 2]) = true := by rw [x_five, ByteArray.toList_eq]; rfl
  have z3 : ((bytes0.extract 35 37).toList == [1, 2]) = true := by rw [x_two, ByteArray.toList_eq]; rfl
  generalize bytes0 = x at *
  have E1 := Lib.hid h1; clear h1
  have E2 := Lib.hid h2; clear h2
  have E3 := Lib.hid h3; clear h3
  have S1 := Lib.hid ((Held.refl w).lay [.int .i64 3, .int .u64 7, .int .u64 0, .int .u64 0, .int .u64 258, .bool false, .bool true, .bool false] 27)
  have HG := Lib.hid hg; clear hg
  go_enter Tryd.func6, Tryd.ntmps6
  go_wp2_with fail
  refine (E1.out _).mono ?_
  rintro e w1 ⟨rfl, hb⟩
  have H1 := Lib.hid (S1.out.up hb)
  clear hb S1
  go_wp2_with fail
  refine (E2.out _ (HG.out.up H1.out.below)).mono ?_
  rintro e w2 ⟨rfl, hb⟩
  have H2 := Lib.hid ((H1.out.up hb).lay [.int .i64 3, .int .u64 7, .int .u64 0, .int .u64 0, .int .u64 258, .bool false, .bool true, .bool false] 27)
  clear hb H1
  go_wp2_with fail
  refine (a_enc0 _).mono ?_
  rintro e w3 ⟨rfl, hb⟩
  have H3 := Lib.hid (H2.out.up hb)
  clear hb H2
  go_wp2_with fail
  refine (a_abc a _ (HG.out.up H3.out.below)).mono ?_
  rintro e w4 ⟨rfl, hb⟩
  dsimp only [zeroV]
  have H4 := Lib.hid ((H3.out.up hb).alloc (.cells #[.int .i64 0, .int .u64 0, .int .u64 0, .int .u64 0, .int .u64 0, .bool false, .bool false, .bool false] 27))
  clear hb H3
  go_wp2_with fail
  refine (a_seal _).mono ?_
  rintro e w5 ⟨rfl, hb⟩
  have H5 := Lib.hid (H4.out.up hb)
  clear hb H4
  go_wp2_with fail
  refine (a_sealed a _ (HG.out.up H5.out.below)).mono ?_
  rintro e w6 ⟨rfl, hb⟩
  dsimp only [zeroV]
  have H6 := Lib.hid ((H5.out.up hb).alloc (.cells #[.int .i64 0, .int .u64 0, .int .u64 0, .int .u64 0, .int .u64 0, .bool false, .bool false, .bool false] 27))
  clear hb H5
  go_wp2_with fail
  refine (E3.out _ (HG.out.up H6.out.below)).mono ?_
  rintro e w7 ⟨rfl, hb⟩
  dsimp only [zeroV]
  have H7 := Lib.hid ((H6.out.up hb).alloc (.cells #[.int .i64 0, .int .u64 0, .int .u64 0, .int .u64 0, .int .u64 0, .bool false, .bool false, .bool false] 27))
  clear hb H6
  have k1 := H7.out.b1.cell
  have k2 := H7.out.b0.cell
  go_wp2_with fail
  refine (a_right _).mono ?_
  rintro e w8 ⟨rfl, hb⟩
  have H8 := Lib.hid (H7.out.up hb)
  clear hb H7 k1 k2
  go_wp2_with fail
  refine (a_right1 _).mono ?_
  rintro e w9 ⟨rfl, hb⟩
  have H9 := Lib.hid (H8.out.up hb)
  clear hb H8
  go_wp2_with fail
  go_ret
  exact ⟨rfl, H9.out.below⟩
end Go.Proofs.YtffgjfbmcgmanaaDoor
