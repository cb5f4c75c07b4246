/- The mask on a disk, layer 8: the document's example and what can't be: the fixed fact holds. No condition. -/
import Derived.Test.YthfbijnhelpgbaaH3
namespace Go.Proofs.Ythfbijnhelpgbaa
open Go.RowKit

theorem num_bytes (k : Nat) (hk : k < 4294967296) : numL (txt (be 4 k)) = (k, true) := by
  unfold numL
  rw [if_pos (by rw [txt_size, be_length]), txt_data, val_be, Nat.mod_eq_of_lt (by omega)]

/-- A mask that may be there is loaded as it was noted. -/
theorem load_mask {n k : Nat} (hk : k < 4294967296) (h : mrightB k ((n : Int) - 2) = true) : loadT n (bytesM k) = (k, 0) := by
  obtain ⟨h1, h2⟩ := open_sealed (be 4 k)
  unfold loadT bytesM
  rw [h1, h2, num_bytes k hk]
  dsimp only
  rw [if_pos rfl, if_pos rfl, if_pos h]

theorem x_s5 : saveB [e0, e0, e0, e0, e0] [] 0 false 5 = ⟨[e0, bytesM 5, e0, e0, e0], [], 0, false, 0⟩ := by rfl
theorem x_s8 : saveB [e0, e0, e0, e0, e0] [] 0 false 8 = ⟨[e0, e0, e0, e0, e0], [], 0, false, 1⟩ := by rfl
theorem x_n4 : noteB [e0, bytesM 5, e0, e0, e0] [] 0 false 4 = ⟨[e0, bytesM 5, e0, e0, e0], [(1, bytesM 4)], 0, false, 0⟩ := by rfl
theorem x_l0 : loadB [e0, e0, e0, e0, e0] [] false = (0, 2) := by kernel_rfl
theorem x_one (a y : ByteArray) : loadB [e0, a, e0, e0, e0] [(1, y)] false = loadT 5 y := rfl
theorem x_none (y : ByteArray) : loadB [e0, y, e0, e0, e0] [] false = loadT 5 y := rfl
theorem x_l1 : loadB [e0, bytesM 5, e0, e0, e0] [(1, bytesM 4)] false = (4, 0) := by rw [x_one]; exact load_mask (n := 5) (by decide) (by decide)
theorem x_l2 : loadB [e0, bytesM 5, e0, e0, e0] [] false = (5, 0) := by rw [x_none]; exact load_mask (n := 5) (by decide) (by decide)
theorem x_l3 : loadB [e0, bytesM 4, e0, e0, e0] [] false = (4, 0) := by rw [x_none]; exact load_mask (n := 5) (by decide) (by decide)

theorem a_new5 (w : World) : Calls Try.prog 15 #[.int .i64 5] w (GivesD [e0, e0, e0, e0, e0] [] 0 false 0 w) := rnew_any 5 w
theorem a_s5 (A1 B1 : Option Addr) (n1 m1 : Nat) (w : World) (h : Mem w A1 n1 B1 m1 [e0, e0, e0, e0, e0] []) : Calls Try.prog 10 #[.agg #[.slice A1 5 n1, .slice B1 0 m1, .int .i64 0, .bool false], .int .u32 5] w (GivesD [e0, bytesM 5, e0, e0, e0] [] 0 false 0 w) := by
  have := bsave_any A1 B1 n1 m1 [e0, e0, e0, e0, e0] [] 0 false 5 w h (by decide) (by decide) (by decide) (by decide) rfl
  rw [x_s5] at this
  exact this
theorem a_s8 (A1 B1 : Option Addr) (n1 m1 : Nat) (w : World) (h : Mem w A1 n1 B1 m1 [e0, e0, e0, e0, e0] []) : Calls Try.prog 10 #[.agg #[.slice A1 5 n1, .slice B1 0 m1, .int .i64 0, .bool false], .int .u32 8] w (GivesD [e0, e0, e0, e0, e0] [] 0 false 1 w) := by
  have := bsave_any A1 B1 n1 m1 [e0, e0, e0, e0, e0] [] 0 false 8 w h (by decide) (by decide) (by decide) (by decide) rfl
  rw [x_s8] at this
  exact this
theorem a_n4 (A2 B2 : Option Addr) (n2 m2 : Nat) (w : World) (h : Mem w A2 n2 B2 m2 [e0, bytesM 5, e0, e0, e0] []) : Calls Try.prog 12 #[.agg #[.slice A2 5 n2, .slice B2 0 m2, .int .i64 0, .bool false], .int .u32 4] w (GivesD [e0, bytesM 5, e0, e0, e0] [(1, bytesM 4)] 0 false 0 w) := by
  have := bnote_any A2 B2 n2 m2 [e0, bytesM 5, e0, e0, e0] [] 0 false 4 w h (by decide) (by simp) (by simp) (by decide)
  rw [x_n4] at this
  exact this
theorem a_l0 (A1 B1 : Option Addr) (n1 m1 : Nat) (w : World) (h : Mem w A1 n1 B1 m1 [e0, e0, e0, e0, e0] []) : Calls Try.prog 8 #[.agg #[.slice A1 5 n1, .slice B1 0 m1, .int .i64 0, .bool false]] w fun e w' => e = .returned (.tuple #[.int .u32 0, .int .i64 2]) ∧ Below w.heap.size w w' := by
  have := bload_any A1 B1 n1 m1 [e0, e0, e0, e0, e0] [] 0 false w h (by decide) (by decide) (by decide)
  rw [x_l0] at this
  exact this
theorem a_l1 (A3 B3 : Option Addr) (n3 m3 : Nat) (w : World) (h : Mem w A3 n3 B3 m3 [e0, bytesM 5, e0, e0, e0] [(1, bytesM 4)]) : Calls Try.prog 8 #[.agg #[.slice A3 5 n3, .slice B3 1 m3, .int .i64 0, .bool false]] w fun e w' => e = .returned (.tuple #[.int .u32 4, .int .i64 0]) ∧ Below w.heap.size w w' := by
  have := bload_any A3 B3 n3 m3 [e0, bytesM 5, e0, e0, e0] [(1, bytesM 4)] 0 false w h (by simp) (by simp) (by show ((bytesM 4).size : Int) ≤ 3000; rw [bytesM_size]; decide)
  rw [x_l1] at this
  exact this
theorem a_l2 (A6 B6 : Option Addr) (n6 m6 : Nat) (w : World) (h : Mem w A6 n6 B6 m6 [e0, bytesM 5, e0, e0, e0] []) : Calls Try.prog 8 #[.agg #[.slice A6 5 n6, .slice B6 0 m6, .int .i64 0, .bool false]] w fun e w' => e = .returned (.tuple #[.int .u32 5, .int .i64 0]) ∧ Below w.heap.size w w' := by
  have := bload_any A6 B6 n6 m6 [e0, bytesM 5, e0, e0, e0] [] 0 false w h (by simp) (by simp) (by show ((bytesM 5).size : Int) ≤ 3000; rw [bytesM_size]; decide)
  rw [x_l2] at this
  exact this
theorem a_l3 (A9 B9 : Option Addr) (n9 m9 : Nat) (w : World) (h : Mem w A9 n9 B9 m9 [e0, bytesM 4, e0, e0, e0] []) : Calls Try.prog 8 #[.agg #[.slice A9 5 n9, .slice B9 0 m9, .int .i64 0, .bool false]] w fun e w' => e = .returned (.tuple #[.int .u32 4, .int .i64 0]) ∧ Below w.heap.size w w' := by
  have := bload_any A9 B9 n9 m9 [e0, bytesM 4, e0, e0, e0] [] 0 false w h (by simp) (by simp) (by show ((bytesM 4).size : Int) ≤ 3000; rw [bytesM_size]; decide)
  rw [x_l3] at this
  exact this
theorem a_fit : ([((1 : Int), bytesM 4)] : List Wr).any (misfitW 5) = false := fit_add (n := 5) (c := []) (i := 1) (by decide) (by decide) rfl (by rw [bytesM_size]; decide)
theorem a_lost (A3 B3 : Option Addr) (n3 m3 : Nat) (w : World) (h : Mem w A3 n3 B3 m3 [e0, bytesM 5, e0, e0, e0] [(1, bytesM 4)]) : Calls Try.prog 16 #[.agg #[.slice A3 5 n3, .slice B3 1 m3, .int .i64 0, .bool true], .slice none 0 0] w (GivesO [e0, bytesM 5, e0, e0, e0] [] 0 false w) :=
  rrevive_any A3 B3 none n3 m3 0 [e0, bytesM 5, e0, e0, e0] [(1, bytesM 4)] [] 0 true w h (es_nil _ _ _ _) (by simp) (by simp) (by decide) a_fit
theorem a_kept (A3 B3 K : Option Addr) (n3 m3 : Nat) (w : World) (h : Mem w A3 n3 B3 m3 [e0, bytesM 5, e0, e0, e0] [(1, bytesM 4)]) (hk : Es Value.bool w w.heap.size K [true]) : Calls Try.prog 16 #[.agg #[.slice A3 5 n3, .slice B3 1 m3, .int .i64 0, .bool true], .slice K 1 1] w (GivesO [e0, bytesM 4, e0, e0, e0] [] 0 false w) :=
  rrevive_any A3 B3 K n3 m3 1 [e0, bytesM 5, e0, e0, e0] [(1, bytesM 4)] [true] 0 true w h hk (by simp) (by simp) (by decide) a_fit

set_option maxRecDepth 100000 in
set_option maxHeartbeats 8000000 in
theorem alive_any (w : World) : Calls Try.prog 5 #[] w fun e w' => e = .returned (.bool true) ∧ Below w.heap.size w w' := by
  have s5 := a_s5
  have n4 := a_n4
  have l1 := a_l1
  have l2 := a_l2
  have l3 := a_l3
  have r1 := a_lost
  have r2 := a_kept
  generalize bytesM 5 = y5 at *
  generalize bytesM 4 = y4 at *
  have S5 := Lib.hid s5; clear s5
  have N4 := Lib.hid n4; clear n4
  have L1 := Lib.hid l1; clear l1
  have L2 := Lib.hid l2; clear l2
  have L3 := Lib.hid l3; clear l3
  have R1 := Lib.hid r1; clear r1
  have R2 := Lib.hid r2; clear r2
  go_enter Try.func5, Try.ntmps5
  go_wp2_with fail
  refine (a_new5 _).mono ?_
  rintro e w1 ⟨A1, B1, n1, m1, rfl, hm1, hb⟩
  have KD1 := Lib.hid (Kept.new (f := 0) (x := false) hm1)
  have H1 := Lib.hid (ext_alloc (hb) (.cells #[.slice A1 5 n1, .slice B1 0 m1, .int .i64 0, .bool false] 25))
  clear hb
  go_wp2_with fail
  refine (S5.out A1 B1 n1 m1 _ KD1.out.mem).mono ?_
  rintro e w2 ⟨A2, B2, n2, m2, rfl, hm2, hb⟩
  have KD2 := Lib.hid ((KD1.out.up hb).up (below1 (o := .cells #[.slice A2 5 n2, .slice B2 0 m2, .int .i64 0, .bool false] 25)))
  have KX2 := Lib.hid (Kept.new (f := 0) (x := false) hm2)
  have H2 := Lib.hid (ext_alloc (ext H1.out hb) (.cells #[.slice A2 5 n2, .slice B2 0 m2, .int .i64 0, .bool false] 25))
  clear hb KD1 H1
  go_wp2_with fail
  refine (N4.out A2 B2 n2 m2 _ KX2.out.mem).mono ?_
  rintro e w3 ⟨A3, B3, n3, m3, rfl, hm3, hb⟩
  have KD3 := Lib.hid ((KD2.out.up hb).up (below1 (o := .cells #[.slice A3 5 n3, .slice B3 1 m3, .int .i64 0, .bool false] 25)))
  have KX3 := Lib.hid ((KX2.out.up hb).up (below1 (o := .cells #[.slice A3 5 n3, .slice B3 1 m3, .int .i64 0, .bool false] 25)))
  have KY3 := Lib.hid (Kept.new (f := 0) (x := false) hm3)
  have H3 := Lib.hid (ext_alloc (ext H2.out hb) (.cells #[.slice A3 5 n3, .slice B3 1 m3, .int .i64 0, .bool false] 25))
  clear hb KD2 KX2 H2
  go_wp2_with fail
  refine (L1.out A3 B3 n3 m3 _ KY3.out.mem).mono ?_
  rintro e w4 ⟨rfl, hb⟩
  have KD4 := Lib.hid (KD3.out.up hb)
  have KX4 := Lib.hid (KX3.out.up hb)
  have KY4 := Lib.hid (KY3.out.up hb)
  have H4 := Lib.hid (ext H3.out hb)
  clear hb KD3 KX3 KY3 H3
  have kKY := KY4.out.box.cell
  go_wp2_with fail
  refine (rcrash_any A3 B3 5 n3 1 m3 0 false _).mono ?_
  rintro e w5 ⟨rfl, hb⟩
  have KD5 := Lib.hid (KD4.out.up hb)
  have KX5 := Lib.hid (KX4.out.up hb)
  have KY5 := Lib.hid (KY4.out.up hb)
  have H5 := Lib.hid (ext H4.out hb)
  clear hb KD4 KX4 KY4 H4 kKY
  go_wp2_with fail
  refine (R1.out A3 B3 n3 m3 _ KY5.out.mem).mono ?_
  rintro e w6 ⟨A6, B6, n6, m6, rfl, hm6, hb⟩
  have KD6 := Lib.hid (KD5.out.up hb)
  have KX6 := Lib.hid (KX5.out.up hb)
  have KY6 := Lib.hid (KY5.out.up hb)
  have H6 := Lib.hid (ext H5.out hb)
  clear hb KD5 KX5 KY5 H5
  go_wp2_with fail
  refine (L2.out A6 B6 n6 m6 _ hm6).mono ?_
  rintro e w7 ⟨rfl, hb⟩
  have KD7 := Lib.hid (KD6.out.up hb)
  have KX7 := Lib.hid (KX6.out.up hb)
  have KY7 := Lib.hid (KY6.out.up hb)
  have H7 := Lib.hid (ext H6.out hb)
  clear hb KD6 KX6 KY6 H6
  have kKY := KY7.out.box.cell
  go_wp2_with fail
  refine (rcrash_any A3 B3 5 n3 1 m3 0 false _).mono ?_
  rintro e w8 ⟨rfl, hb⟩
  have KD8 := Lib.hid ((KD7.out.up hb).up (below1 (o := .cells #[.bool true] 4)))
  have KX8 := Lib.hid ((KX7.out.up hb).up (below1 (o := .cells #[.bool true] 4)))
  have KY8 := Lib.hid ((KY7.out.up hb).up (below1 (o := .cells #[.bool true] 4)))
  have H8 := Lib.hid (ext_alloc (ext H7.out hb) (.cells #[.bool true] 4))
  clear hb KD7 KX7 KY7 H7 kKY
  go_wp2_with fail
  refine (R2.out A3 B3 _ n3 m3 _ KY8.out.mem (by simpa using es_true w8)).mono ?_
  rintro e w9 ⟨A9, B9, n9, m9, rfl, hm9, hb⟩
  have KD9 := Lib.hid (KD8.out.up hb)
  have KX9 := Lib.hid (KX8.out.up hb)
  have KY9 := Lib.hid (KY8.out.up hb)
  have H9 := Lib.hid (ext H8.out hb)
  clear hb KD8 KX8 KY8 H8
  go_wp2_with fail
  refine (L3.out A9 B9 n9 m9 _ hm9).mono ?_
  rintro e w10 ⟨rfl, hb⟩
  have KD10 := Lib.hid (KD9.out.up hb)
  have KX10 := Lib.hid (KX9.out.up hb)
  have KY10 := Lib.hid (KY9.out.up hb)
  have H10 := Lib.hid (ext H9.out hb)
  clear hb KD9 KX9 KY9 H9
  have kKD := KD10.out.box.cell
  go_wp2_with fail
  refine (a_s8 A1 B1 n1 m1 _ KD10.out.mem).mono ?_
  rintro e w11 ⟨A11, B11, n11, m11, rfl, hm11, hb⟩
  have KD11 := Lib.hid ((KD10.out.up hb).up (below1 (o := .cells #[.slice A11 5 n11, .slice B11 0 m11, .int .i64 0, .bool false] 25)))
  have KX11 := Lib.hid ((KX10.out.up hb).up (below1 (o := .cells #[.slice A11 5 n11, .slice B11 0 m11, .int .i64 0, .bool false] 25)))
  have KY11 := Lib.hid ((KY10.out.up hb).up (below1 (o := .cells #[.slice A11 5 n11, .slice B11 0 m11, .int .i64 0, .bool false] 25)))
  have H11 := Lib.hid (ext_alloc (ext H10.out hb) (.cells #[.slice A11 5 n11, .slice B11 0 m11, .int .i64 0, .bool false] 25))
  clear hb KD10 KX10 KY10 H10 kKD
  have kKD := KD11.out.box.cell
  go_wp2_with fail
  refine (a_l0 A1 B1 n1 m1 _ KD11.out.mem).mono ?_
  rintro e w12 ⟨rfl, hb⟩
  have KD12 := Lib.hid (KD11.out.up hb)
  have KX12 := Lib.hid (KX11.out.up hb)
  have KY12 := Lib.hid (KY11.out.up hb)
  have H12 := Lib.hid (ext H11.out hb)
  clear hb KD11 KX11 KY11 H11 kKD
  go_wp2_with fail
  go_ret
  exact ⟨rfl, H12.out⟩
end Go.Proofs.Ythfbijnhelpgbaa
