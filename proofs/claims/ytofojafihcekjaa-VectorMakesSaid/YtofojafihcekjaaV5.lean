/- Vectors: the document's examples: the fixed fact holds, whatever the world. No condition. -/
import Derived.Test.YtofojafihcekjaaV4
namespace Go.Proofs.Ytofojafihcekjaa
open Go.RowKit

theorem a_mint1 (w : World) : Calls Try.prog 8 #[vecV 7 0 0 0, .int .u64 8] w fun e w' => e = .returned (.tuple #[vecV 8 7 0 0, .int .i64 0]) ∧ Below w.heap.size w w' := mint_any 7 0 0 0 8 w
theorem a_mint2 (w : World) : Calls Try.prog 8 #[vecV 8 7 0 0, .int .u64 9] w fun e w' => e = .returned (.tuple #[vecV 9 7 8 0, .int .i64 0]) ∧ Below w.heap.size w w' := mint_any 8 7 0 0 9 w
theorem a_mint3 (w : World) : Calls Try.prog 8 #[vecV 8 7 0 0, .int .u64 0] w fun e w' => e = .returned (.tuple #[vecV 0 0 0 0, .int .i64 14]) ∧ Below w.heap.size w w' := mint_any 8 7 0 0 0 w
theorem a_ret (w : World) : Calls Try.prog 10 #[vecV 9 7 8 0] w fun e w' => e = .returned (vecV 9 0 7 8) ∧ Below w.heap.size w w' := retire_any 9 7 8 0 w
theorem a_pl1 (w : World) : Calls Try.prog 16 #[vecV 9 7 8 0, .int .u64 8] w fun e w' => e = .returned (.int .i64 2) ∧ Below w.heap.size w w' := place_any 9 7 8 0 8 w
theorem a_pl2 (w : World) : Calls Try.prog 16 #[vecV 9 7 8 0, .int .u64 0] w fun e w' => e = .returned (.int .i64 (-1)) ∧ Below w.heap.size w w' := place_any 9 7 8 0 0 w
theorem a_right1 (w : World) : Calls Try.prog 14 #[vecV 8 7 0 0] w fun e w' => e = .returned (.bool true) ∧ Below w.heap.size w w' := vright_any 8 7 0 0 w
theorem a_right2 (w : World) : Calls Try.prog 14 #[vecV 0 0 0 0] w fun e w' => e = .returned (.bool false) ∧ Below w.heap.size w w' := vright_any 0 0 0 0 w
theorem a_from (w : World) : Calls Try.prog 12 #[vecV 9 0 7 8, .int .u64 5] w fun e w' => e = .returned (.agg #[.int .u64 9, .int .u64 5, .int .u64 7, .int .u64 8]) ∧ Below w.heap.size w w' := from_any 9 0 7 8 5 w
theorem a_has1 (A : Option Addr) (n : Nat) (w : World) (h : Es (Value.int .u64) w w.heap.size A [9, 7]) : Calls Try.prog 18 #[vecV 9 0 7 8, .slice A 2 n] w fun e w' => e = .returned (.bool true) ∧ Below w.heap.size w w' := has_any A n [9, 7] 9 0 7 8 w h (by simp [maxLen])
theorem a_has2 (A : Option Addr) (n : Nat) (w : World) (h : Es (Value.int .u64) w w.heap.size A [5]) : Calls Try.prog 18 #[vecV 9 0 7 8, .slice A 1 n] w fun e w' => e = .returned (.bool false) ∧ Below w.heap.size w w' := has_any A n [5] 9 0 7 8 w h (by simp [maxLen])

set_option maxRecDepth 100000 in
set_option maxHeartbeats 8000000 in
theorem alive_any (w : World) : Calls Try.prog 7 #[] w fun e w' => e = .returned (.bool true) ∧ Below w.heap.size w w' := by
  go_enter Try.func7, Try.ntmps7
  go_wp2_with fail
  refine (a_mint1 _).mono ?_
  rintro e w1 ⟨rfl, hb1⟩
  have B1 := Lib.hid ((Boxs.nil w1).lay [.int .u64 8, .int .u64 7, .int .u64 0, .int .u64 0] 25)
  have H1 := Lib.hid (ext_alloc hb1 (.cells #[.int .u64 8, .int .u64 7, .int .u64 0, .int .u64 0] 25))
  clear hb1
  go_wp2_with fail
  refine (a_mint2 _).mono ?_
  rintro e w2 ⟨rfl, hb2⟩
  have B2 := Lib.hid ((B1.out.up hb2).lay [.int .u64 9, .int .u64 7, .int .u64 8, .int .u64 0] 25)
  have H2 := Lib.hid (ext_alloc (ext H1.out hb2) (.cells #[.int .u64 9, .int .u64 7, .int .u64 8, .int .u64 0] 25))
  have k1 := B2.out.tl.hd.cell
  clear hb2 B1 H1
  go_wp2_with fail
  refine (a_mint3 _).mono ?_
  rintro e w3 ⟨rfl, hb3⟩
  have B3 := Lib.hid ((B2.out.up hb3).lay [.int .u64 0, .int .u64 0, .int .u64 0, .int .u64 0] 25)
  have H3 := Lib.hid (ext_alloc (ext H2.out hb3) (.cells #[.int .u64 0, .int .u64 0, .int .u64 0, .int .u64 0] 25))
  have k2 := B3.out.tl.hd.cell
  clear hb3 B2 H2 k1
  go_wp2_with fail
  refine (a_ret _).mono ?_
  rintro e w4 ⟨rfl, hb4⟩
  have B4 := Lib.hid ((B3.out.up hb4).lay [.int .u64 9, .int .u64 0, .int .u64 7, .int .u64 8] 25)
  have H4 := Lib.hid (ext_alloc (ext H3.out hb4) (.cells #[.int .u64 9, .int .u64 0, .int .u64 7, .int .u64 8] 25))
  have k1 := B4.out.tl.tl.tl.hd.cell
  have k3 := B4.out.tl.tl.hd.cell
  have k4 := B4.out.hd.cell
  clear hb4 B3 H3 k2
  go_wp2_with fail
  refine (a_pl1 _).mono ?_
  rintro e w5 ⟨rfl, hb⟩
  have B5 := Lib.hid (B4.out.up hb)
  have H5 := Lib.hid (ext H4.out hb)
  clear hb B4 H4 k1 k3 k4
  have k1 := B5.out.tl.tl.tl.hd.cell
  have k3 := B5.out.tl.tl.hd.cell
  have k4 := B5.out.hd.cell
  go_wp2_with fail
  refine (a_pl2 _).mono ?_
  rintro e w6 ⟨rfl, hb⟩
  have B6 := Lib.hid (B5.out.up hb)
  have H6 := Lib.hid (ext H5.out hb)
  clear hb B5 H5 k1 k3 k4
  have k1 := B6.out.tl.tl.tl.hd.cell
  have k3 := B6.out.tl.tl.hd.cell
  have k4 := B6.out.hd.cell
  go_wp2_with fail
  refine (a_right1 _).mono ?_
  rintro e w7 ⟨rfl, hb⟩
  have B7 := Lib.hid (B6.out.up hb)
  have H7 := Lib.hid (ext H6.out hb)
  clear hb B6 H6 k1 k3 k4
  have k1 := B7.out.tl.tl.tl.hd.cell
  have k3 := B7.out.tl.tl.hd.cell
  have k4 := B7.out.hd.cell
  go_wp2_with fail
  refine (a_right2 _).mono ?_
  rintro e w8 ⟨rfl, hb⟩
  have B8 := Lib.hid (B7.out.up hb)
  have H8 := Lib.hid (ext H7.out hb)
  clear hb B7 H7 k1 k3 k4
  have k1 := B8.out.tl.tl.tl.hd.cell
  have k3 := B8.out.tl.tl.hd.cell
  have k4 := B8.out.hd.cell
  go_wp2_with fail
  refine (a_from _).mono ?_
  rintro e w9 ⟨rfl, hb⟩
  have B9 := Lib.hid (B8.out.up hb)
  have H9 := Lib.hid (ext H8.out hb)
  clear hb B8 H8 k1 k3 k4
  have k1 := B9.out.tl.tl.tl.hd.cell
  have k3 := B9.out.tl.tl.hd.cell
  have k4 := B9.out.hd.cell
  go_wp2_with fail
  refine (a_has1 _ _ _ ((es_new (Value.int .u64) w9 [9, 7] 22).below (Below.refl _ _) (by simp))).mono ?_
  rintro e w10 ⟨rfl, hb⟩
  have B10 := Lib.hid ((B9.out.up below1).up hb)
  have H10 := Lib.hid (ext (ext_alloc H9.out _) hb)
  clear hb B9 H9 k1 k3 k4
  have k4 := B10.out.hd.cell
  go_wp2_with fail
  refine (a_has2 _ _ _ ((es_new (Value.int .u64) w10 [5] 22).below (Below.refl _ _) (by simp))).mono ?_
  rintro e w11 ⟨rfl, hb⟩
  have H11 := Lib.hid (ext (ext_alloc H10.out _) hb)
  clear hb B10 H10 k4
  go_wp2_with fail
  go_ret
  exact ⟨rfl, H11.out⟩
end Go.Proofs.Ytofojafihcekjaa
