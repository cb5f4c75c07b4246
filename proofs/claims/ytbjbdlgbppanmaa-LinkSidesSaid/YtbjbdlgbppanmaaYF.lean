/- Links: the law's own example: the fixed fact holds. No condition. -/
import Derived.Test.YtbjbdlgbppanmaaYXD
namespace Go.Proofs.Ytbjbdlgbppanmaa
open Go.RowKit

theorem es_lit (w : World) (l : List ByteArray) (t : TypeId) : Es Value.string (w.alloc (.cells (l.map Value.string).toArray t)) (w.alloc (.cells (l.map Value.string).toArray t)).heap.size (some ⟨w.heap.size, 0, none⟩) l := by
  have := es_new Value.string w l t
  rw [World.size_alloc]
  exact this
theorem es_two (w : World) (x y : ByteArray) (t : TypeId) : Es Value.string (w.alloc (.cells #[.string x, .string y] t)) (w.alloc (.cells #[.string x, .string y] t)).heap.size (some ⟨w.heap.size, 0, none⟩) [x, y] := es_lit w [x, y] t
theorem es_one (w : World) (x : ByteArray) (t : TypeId) : Es Value.string (w.alloc (.cells #[.string x] t)) (w.alloc (.cells #[.string x] t)).heap.size (some ⟨w.heap.size, 0, none⟩) [x] := es_lit w [x] t
theorem es_two2 (w : World) (o : Obj) (x y : ByteArray) (t : TypeId) : Es Value.string ((w.alloc o).alloc (.cells #[.string x, .string y] t)) ((w.alloc o).alloc (.cells #[.string x, .string y] t)).heap.size (some ⟨w.heap.size + 1, 0, none⟩) [x, y] := by
  have := es_two (w.alloc o) x y t
  rwa [show (w.alloc o).heap.size = w.heap.size + 1 from World.size_alloc _ _] at this
theorem es_one2 (w : World) (o : Obj) (x : ByteArray) (t : TypeId) : Es Value.string ((w.alloc o).alloc (.cells #[.string x] t)) ((w.alloc o).alloc (.cells #[.string x] t)).heap.size (some ⟨w.heap.size + 1, 0, none⟩) [x] := by
  have := es_one (w.alloc o) x t
  rwa [show (w.alloc o).heap.size = w.heap.size + 1 from World.size_alloc _ _] at this

theorem ya0 (w : World) : Calls Try.prog 13 #[.agg #[.bool false, .int .u64 0, .slice none 0 0, .slice none 0 0]] w fun e w' => ∃ A1 n1 B1 m1, e = .returned (.agg #[.bool true, .int .u64 1, .slice A1 0 n1, .slice B1 0 m1]) ∧ Lk w' ⟨true, 1, [], []⟩ A1 n1 B1 m1 ∧ Below w.heap.size w w' := by
  have := kopen_any ⟨false, 0, [], []⟩ none none 0 0 w (lk_empty w false 0)
  exact this
theorem ya1 (A B : Option Addr) (n m : Nat) (w : World) (hk : Lk w ⟨true, 1, [], []⟩ A n B m) (P : Option Addr) (hp : Es Value.string w w.heap.size P [⟨#[97]⟩, ⟨#[98]⟩]) (hP : P = none → 2 = 0) : Calls Try.prog 10 #[.agg #[.bool true, .int .u64 1, .slice A 0 n, .slice B 0 m], .int .i64 1, .slice P 2 2] w fun e w' => ∃ A1 n1 B1 m1, e = .returned (.tuple #[.agg #[.bool true, .int .u64 1, .slice A1 0 n1, .slice B1 2 m1], .int .i64 0]) ∧ Lk w' ⟨true, 1, [], [⟨#[97]⟩, ⟨#[98]⟩]⟩ A1 n1 B1 m1 ∧ Below w.heap.size w w' := by
  have := ksend_any ⟨true, 1, [], []⟩ A B n m 1 P 2 [⟨#[97]⟩, ⟨#[98]⟩] w hk hp hP (Nat.le_refl _) (by decide) (by decide) (by decide)
  exact this
theorem ya2 (A B : Option Addr) (n m : Nat) (w : World) (hk : Lk w ⟨true, 1, [], [⟨#[97]⟩, ⟨#[98]⟩]⟩ A n B m) : Calls Try.prog 8 #[.agg #[.bool true, .int .u64 1, .slice A 0 n, .slice B 2 m], .int .i64 1] w fun e w' => ∃ A1 n1 B1 m1, e = .returned (.tuple #[.string ⟨#[97]⟩, .agg #[.bool true, .int .u64 1, .slice A1 0 n1, .slice B1 1 m1], .bool true]) ∧ Lk w' ⟨true, 1, [], [⟨#[98]⟩]⟩ A1 n1 B1 m1 ∧ Below w.heap.size w w' := by
  have := ktake_any ⟨true, 1, [], [⟨#[97]⟩, ⟨#[98]⟩]⟩ A B n m 1 w hk (by decide) (by decide)
  exact this
theorem ya3 (A B : Option Addr) (n m : Nat) (w : World) (hk : Lk w ⟨true, 1, [], [⟨#[97]⟩, ⟨#[98]⟩]⟩ A n B m) : Calls Try.prog 8 #[.agg #[.bool true, .int .u64 1, .slice A 0 n, .slice B 2 m], .int .i64 0] w fun e w' => ∃ A1 n1 B1 m1, e = .returned (.tuple #[.string ⟨#[]⟩, .agg #[.bool true, .int .u64 1, .slice A1 0 n1, .slice B1 2 m1], .bool false]) ∧ Lk w' ⟨true, 1, [], [⟨#[97]⟩, ⟨#[98]⟩]⟩ A1 n1 B1 m1 ∧ Below w.heap.size w w' := by
  have := ktake_any ⟨true, 1, [], [⟨#[97]⟩, ⟨#[98]⟩]⟩ A B n m 0 w hk (by decide) (by decide)
  exact this
theorem ya4 (w : World) (P : Option Addr) (hp : Es Value.string w w.heap.size P [⟨#[97]⟩]) (hP : P = none → 1 = 0) : Calls Try.prog 10 #[.agg #[.bool false, .int .u64 0, .slice none 0 0, .slice none 0 0], .int .i64 1, .slice P 1 1] w fun e w' => ∃ A1 n1 B1 m1, e = .returned (.tuple #[.agg #[.bool false, .int .u64 0, .slice A1 0 n1, .slice B1 0 m1], .int .i64 7]) ∧ Lk w' ⟨false, 0, [], []⟩ A1 n1 B1 m1 ∧ Below w.heap.size w w' := by
  have := ksend_any ⟨false, 0, [], []⟩ none none 0 0 1 P 1 [⟨#[97]⟩] w (lk_empty w false 0) hp hP (Nat.le_refl _) (by decide) (by decide) (by decide)
  exact this
theorem ya5 (A B : Option Addr) (n m : Nat) (w : World) (hk : Lk w ⟨true, 1, [], []⟩ A n B m) (P : Option Addr) (hp : Es Value.string w w.heap.size P [⟨#[97]⟩]) (hP : P = none → 1 = 0) : Calls Try.prog 10 #[.agg #[.bool true, .int .u64 1, .slice A 0 n, .slice B 0 m], .int .i64 2, .slice P 1 1] w fun e w' => ∃ A1 n1 B1 m1, e = .returned (.tuple #[.agg #[.bool true, .int .u64 1, .slice A1 0 n1, .slice B1 0 m1], .int .i64 1]) ∧ Lk w' ⟨true, 1, [], []⟩ A1 n1 B1 m1 ∧ Below w.heap.size w w' := by
  have := ksend_any ⟨true, 1, [], []⟩ A B n m 2 P 1 [⟨#[97]⟩] w hk hp hP (Nat.le_refl _) (by decide) (by decide) (by decide)
  exact this
theorem ya6 (A B : Option Addr) (n m : Nat) (w : World) (hk : Lk w ⟨true, 1, [], [⟨#[97]⟩, ⟨#[98]⟩]⟩ A n B m) : Calls Try.prog 15 #[.agg #[.bool true, .int .u64 1, .slice A 0 n, .slice B 2 m]] w fun e w' => ∃ A1 n1 B1 m1, e = .returned (.agg #[.bool false, .int .u64 1, .slice A1 0 n1, .slice B1 0 m1]) ∧ Lk w' ⟨false, 1, [], []⟩ A1 n1 B1 m1 ∧ Below w.heap.size w w' := by
  have := kclose_any ⟨true, 1, [], [⟨#[97]⟩, ⟨#[98]⟩]⟩ A B n m w hk
  exact this
theorem ya7 (A B : Option Addr) (n m : Nat) (w : World) (hk : Lk w ⟨false, 1, [], []⟩ A n B m) : Calls Try.prog 17 #[.agg #[.bool false, .int .u64 1, .slice A 0 n, .slice B 0 m]] w fun e w' => e = .returned (.bool true) ∧ Below w.heap.size w w' := by
  have := kidle_any ⟨false, 1, [], []⟩ A B n m w hk (by decide) (by decide)
  exact this
theorem ya8 (A B : Option Addr) (n m : Nat) (w : World) (hk : Lk w ⟨true, 1, [], [⟨#[97]⟩, ⟨#[98]⟩]⟩ A n B m) : Calls Try.prog 17 #[.agg #[.bool true, .int .u64 1, .slice A 0 n, .slice B 2 m]] w fun e w' => e = .returned (.bool false) ∧ Below w.heap.size w w' := by
  have := kidle_any ⟨true, 1, [], [⟨#[97]⟩, ⟨#[98]⟩]⟩ A B n m w hk (by decide) (by decide)
  exact this
theorem ya9 (A B A2 B2 : Option Addr) (n m n2 m2 : Nat) (w : World) (hk : Lk w ⟨true, 1, [], []⟩ A n B m) (hk2 : Lk w ⟨true, 1, [], []⟩ A2 n2 B2 m2) : Calls Try.prog 19 #[.agg #[.bool true, .int .u64 1, .slice A 0 n, .slice B 0 m], .agg #[.bool true, .int .u64 1, .slice A2 0 n2, .slice B2 0 m2]] w fun e w' => e = .returned (.bool true) ∧ Below w.heap.size w w' := by
  have := ksame_any ⟨true, 1, [], []⟩ A B n m ⟨true, 1, [], []⟩ A2 B2 n2 m2 w hk hk2 (by decide) (by decide) (by decide) (by decide)
  exact this
theorem ya10 (A B A2 B2 : Option Addr) (n m n2 m2 : Nat) (w : World) (hk : Lk w ⟨true, 1, [], []⟩ A n B m) (hk2 : Lk w ⟨true, 1, [], [⟨#[97]⟩, ⟨#[98]⟩]⟩ A2 n2 B2 m2) : Calls Try.prog 19 #[.agg #[.bool true, .int .u64 1, .slice A 0 n, .slice B 0 m], .agg #[.bool true, .int .u64 1, .slice A2 0 n2, .slice B2 2 m2]] w fun e w' => e = .returned (.bool false) ∧ Below w.heap.size w w' := by
  have := ksame_any ⟨true, 1, [], []⟩ A B n m ⟨true, 1, [], [⟨#[97]⟩, ⟨#[98]⟩]⟩ A2 B2 n2 m2 w hk hk2 (by decide) (by decide) (by decide) (by decide)
  exact this

set_option maxRecDepth 100000 in
set_option maxHeartbeats 8000000 in
theorem kalive_any (w : World) : Calls Try.prog 6 #[] w fun e w' => e = .returned (.bool true) ∧ Below w.heap.size w w' := by
  have H0 := Lib.hid (Held.refl w)
  go_enter Try.func6, Try.ntmps6
  go_wp2_with fail
  refine (ya0 _).mono ?_
  rintro e w1 ⟨A1, n1, B1, m1, rfl, hk, hb⟩
  have H1 := Lib.hid ((H0.out.up hb).lay [.bool true, .int .u64 1, .slice A1 0 n1, .slice B1 0 m1] 26)
  have K1 := Lib.hid (hk.alloc (.cells ([.bool true, .int .u64 1, .slice A1 0 n1, .slice B1 0 m1] : List Value).toArray 26))
  clear hb hk
  have k00 := H1.out.boxs.hd.cell
  go_wp2_with fail
  refine (ya1 _ _ _ _ _ (K1.out.alloc (.cells #[.string ⟨#[97]⟩, .string ⟨#[98]⟩] 9)) _ (es_two2 _ _ ⟨#[97]⟩ ⟨#[98]⟩ 9) (by simp)).mono ?_
  rintro e w2 ⟨A2, n2, B2, m2, rfl, hk, hb⟩
  clear k00
  have H2 := Lib.hid (((H1.out.alloc (.cells #[.string ⟨#[97]⟩, .string ⟨#[98]⟩] 9)).up hb).lay [.bool true, .int .u64 1, .slice A2 0 n2, .slice B2 2 m2] 26)
  replace K1 := Lib.hid (((K1.out.alloc (.cells #[.string ⟨#[97]⟩, .string ⟨#[98]⟩] 9)).up hb).alloc (.cells ([.bool true, .int .u64 1, .slice A2 0 n2, .slice B2 2 m2] : List Value).toArray 26))
  have K2 := Lib.hid (hk.alloc (.cells ([.bool true, .int .u64 1, .slice A2 0 n2, .slice B2 2 m2] : List Value).toArray 26))
  clear hb hk
  have k00 := H2.out.boxs.hd.cell
  have k01 := H2.out.boxs.tl.hd.cell
  go_wp2_with fail
  refine (ya2 _ _ _ _ _ K2.out).mono ?_
  rintro e w3 ⟨A3, n3, B3, m3, rfl, hk, hb⟩
  clear k00 k01
  have H3 := Lib.hid ((H2.out.up hb).lay [.bool true, .int .u64 1, .slice A3 0 n3, .slice B3 1 m3] 26)
  replace K1 := Lib.hid ((K1.out.up hb).alloc (.cells ([.bool true, .int .u64 1, .slice A3 0 n3, .slice B3 1 m3] : List Value).toArray 26))
  replace K2 := Lib.hid ((K2.out.up hb).alloc (.cells ([.bool true, .int .u64 1, .slice A3 0 n3, .slice B3 1 m3] : List Value).toArray 26))
  have K3 := Lib.hid (hk.alloc (.cells ([.bool true, .int .u64 1, .slice A3 0 n3, .slice B3 1 m3] : List Value).toArray 26))
  clear hb hk
  have k00 := H3.out.boxs.hd.cell
  have k01 := H3.out.boxs.tl.hd.cell
  have k02 := H3.out.boxs.tl.tl.hd.cell
  go_wp2_with fail
  refine (ya3 _ _ _ _ _ K2.out).mono ?_
  rintro e w4 ⟨A4, n4, B4, m4, rfl, hk, hb⟩
  clear k00 k01 k02
  have H4 := Lib.hid ((H3.out.up hb).lay [.bool true, .int .u64 1, .slice A4 0 n4, .slice B4 2 m4] 26)
  replace K1 := Lib.hid ((K1.out.up hb).alloc (.cells ([.bool true, .int .u64 1, .slice A4 0 n4, .slice B4 2 m4] : List Value).toArray 26))
  replace K2 := Lib.hid ((K2.out.up hb).alloc (.cells ([.bool true, .int .u64 1, .slice A4 0 n4, .slice B4 2 m4] : List Value).toArray 26))
  replace K3 := Lib.hid ((K3.out.up hb).alloc (.cells ([.bool true, .int .u64 1, .slice A4 0 n4, .slice B4 2 m4] : List Value).toArray 26))
  have K4 := Lib.hid (hk.alloc (.cells ([.bool true, .int .u64 1, .slice A4 0 n4, .slice B4 2 m4] : List Value).toArray 26))
  clear hb hk
  have k00 := H4.out.boxs.hd.cell
  have k01 := H4.out.boxs.tl.hd.cell
  have k02 := H4.out.boxs.tl.tl.hd.cell
  have k03 := H4.out.boxs.tl.tl.tl.hd.cell
  go_wp2_with fail
  refine (ya4 _ _ (es_one2 _ _ ⟨#[97]⟩ 9) (by simp)).mono ?_
  rintro e w5 ⟨A5, n5, B5, m5, rfl, hk, hb⟩
  clear k00 k01 k02 k03
  have H5 := Lib.hid (((H4.out.alloc (.cells #[.string ⟨#[97]⟩] 9)).up hb).lay [.bool false, .int .u64 0, .slice A5 0 n5, .slice B5 0 m5] 26)
  replace K1 := Lib.hid (((K1.out.alloc (.cells #[.string ⟨#[97]⟩] 9)).up hb).alloc (.cells ([.bool false, .int .u64 0, .slice A5 0 n5, .slice B5 0 m5] : List Value).toArray 26))
  replace K2 := Lib.hid (((K2.out.alloc (.cells #[.string ⟨#[97]⟩] 9)).up hb).alloc (.cells ([.bool false, .int .u64 0, .slice A5 0 n5, .slice B5 0 m5] : List Value).toArray 26))
  replace K3 := Lib.hid (((K3.out.alloc (.cells #[.string ⟨#[97]⟩] 9)).up hb).alloc (.cells ([.bool false, .int .u64 0, .slice A5 0 n5, .slice B5 0 m5] : List Value).toArray 26))
  replace K4 := Lib.hid (((K4.out.alloc (.cells #[.string ⟨#[97]⟩] 9)).up hb).alloc (.cells ([.bool false, .int .u64 0, .slice A5 0 n5, .slice B5 0 m5] : List Value).toArray 26))
  have K5 := Lib.hid (hk.alloc (.cells ([.bool false, .int .u64 0, .slice A5 0 n5, .slice B5 0 m5] : List Value).toArray 26))
  clear hb hk
  have k00 := H5.out.boxs.hd.cell
  have k01 := H5.out.boxs.tl.hd.cell
  have k02 := H5.out.boxs.tl.tl.hd.cell
  have k03 := H5.out.boxs.tl.tl.tl.hd.cell
  have k04 := H5.out.boxs.tl.tl.tl.tl.hd.cell
  go_wp2_with fail
  refine (ya5 _ _ _ _ _ (K1.out.alloc (.cells #[.string ⟨#[97]⟩] 9)) _ (es_one2 _ _ ⟨#[97]⟩ 9) (by simp)).mono ?_
  rintro e w6 ⟨A6, n6, B6, m6, rfl, hk, hb⟩
  clear k00 k01 k02 k03 k04
  have H6 := Lib.hid (((H5.out.alloc (.cells #[.string ⟨#[97]⟩] 9)).up hb).lay [.bool true, .int .u64 1, .slice A6 0 n6, .slice B6 0 m6] 26)
  replace K1 := Lib.hid (((K1.out.alloc (.cells #[.string ⟨#[97]⟩] 9)).up hb).alloc (.cells ([.bool true, .int .u64 1, .slice A6 0 n6, .slice B6 0 m6] : List Value).toArray 26))
  replace K2 := Lib.hid (((K2.out.alloc (.cells #[.string ⟨#[97]⟩] 9)).up hb).alloc (.cells ([.bool true, .int .u64 1, .slice A6 0 n6, .slice B6 0 m6] : List Value).toArray 26))
  replace K3 := Lib.hid (((K3.out.alloc (.cells #[.string ⟨#[97]⟩] 9)).up hb).alloc (.cells ([.bool true, .int .u64 1, .slice A6 0 n6, .slice B6 0 m6] : List Value).toArray 26))
  replace K4 := Lib.hid (((K4.out.alloc (.cells #[.string ⟨#[97]⟩] 9)).up hb).alloc (.cells ([.bool true, .int .u64 1, .slice A6 0 n6, .slice B6 0 m6] : List Value).toArray 26))
  replace K5 := Lib.hid (((K5.out.alloc (.cells #[.string ⟨#[97]⟩] 9)).up hb).alloc (.cells ([.bool true, .int .u64 1, .slice A6 0 n6, .slice B6 0 m6] : List Value).toArray 26))
  have K6 := Lib.hid (hk.alloc (.cells ([.bool true, .int .u64 1, .slice A6 0 n6, .slice B6 0 m6] : List Value).toArray 26))
  clear hb hk
  have k00 := H6.out.boxs.hd.cell
  have k01 := H6.out.boxs.tl.hd.cell
  have k02 := H6.out.boxs.tl.tl.hd.cell
  have k03 := H6.out.boxs.tl.tl.tl.hd.cell
  have k04 := H6.out.boxs.tl.tl.tl.tl.hd.cell
  have k05 := H6.out.boxs.tl.tl.tl.tl.tl.hd.cell
  go_wp2_with fail
  refine (ya6 _ _ _ _ _ K2.out).mono ?_
  rintro e w7 ⟨A7, n7, B7, m7, rfl, hk, hb⟩
  clear k00 k01 k02 k03 k04 k05
  have H7 := Lib.hid ((H6.out.up hb).lay [.bool false, .int .u64 1, .slice A7 0 n7, .slice B7 0 m7] 26)
  replace K1 := Lib.hid ((K1.out.up hb).alloc (.cells ([.bool false, .int .u64 1, .slice A7 0 n7, .slice B7 0 m7] : List Value).toArray 26))
  replace K2 := Lib.hid ((K2.out.up hb).alloc (.cells ([.bool false, .int .u64 1, .slice A7 0 n7, .slice B7 0 m7] : List Value).toArray 26))
  replace K3 := Lib.hid ((K3.out.up hb).alloc (.cells ([.bool false, .int .u64 1, .slice A7 0 n7, .slice B7 0 m7] : List Value).toArray 26))
  replace K4 := Lib.hid ((K4.out.up hb).alloc (.cells ([.bool false, .int .u64 1, .slice A7 0 n7, .slice B7 0 m7] : List Value).toArray 26))
  replace K5 := Lib.hid ((K5.out.up hb).alloc (.cells ([.bool false, .int .u64 1, .slice A7 0 n7, .slice B7 0 m7] : List Value).toArray 26))
  replace K6 := Lib.hid ((K6.out.up hb).alloc (.cells ([.bool false, .int .u64 1, .slice A7 0 n7, .slice B7 0 m7] : List Value).toArray 26))
  have K7 := Lib.hid (hk.alloc (.cells ([.bool false, .int .u64 1, .slice A7 0 n7, .slice B7 0 m7] : List Value).toArray 26))
  clear hb hk
  have k00 := H7.out.boxs.hd.cell
  have k01 := H7.out.boxs.tl.hd.cell
  have k02 := H7.out.boxs.tl.tl.hd.cell
  have k03 := H7.out.boxs.tl.tl.tl.hd.cell
  have k04 := H7.out.boxs.tl.tl.tl.tl.hd.cell
  have k05 := H7.out.boxs.tl.tl.tl.tl.tl.hd.cell
  have k06 := H7.out.boxs.tl.tl.tl.tl.tl.tl.hd.cell
  go_wp2_with fail
  refine (ya7 _ _ _ _ _ K7.out).mono ?_
  rintro e w8 ⟨rfl, hb⟩
  clear k00 k01 k02 k03 k04 k05 k06
  have H8 := Lib.hid (H7.out.up hb)
  replace K1 := Lib.hid (K1.out.up hb)
  replace K2 := Lib.hid (K2.out.up hb)
  replace K3 := Lib.hid (K3.out.up hb)
  replace K4 := Lib.hid (K4.out.up hb)
  replace K5 := Lib.hid (K5.out.up hb)
  replace K6 := Lib.hid (K6.out.up hb)
  replace K7 := Lib.hid (K7.out.up hb)
  clear hb
  have k00 := H8.out.boxs.hd.cell
  have k01 := H8.out.boxs.tl.hd.cell
  have k02 := H8.out.boxs.tl.tl.hd.cell
  have k03 := H8.out.boxs.tl.tl.tl.hd.cell
  have k04 := H8.out.boxs.tl.tl.tl.tl.hd.cell
  have k05 := H8.out.boxs.tl.tl.tl.tl.tl.hd.cell
  have k06 := H8.out.boxs.tl.tl.tl.tl.tl.tl.hd.cell
  go_wp2_with fail
  refine (ya8 _ _ _ _ _ K2.out).mono ?_
  rintro e w9 ⟨rfl, hb⟩
  clear k00 k01 k02 k03 k04 k05 k06
  have H9 := Lib.hid (H8.out.up hb)
  replace K1 := Lib.hid (K1.out.up hb)
  replace K2 := Lib.hid (K2.out.up hb)
  replace K3 := Lib.hid (K3.out.up hb)
  replace K4 := Lib.hid (K4.out.up hb)
  replace K5 := Lib.hid (K5.out.up hb)
  replace K6 := Lib.hid (K6.out.up hb)
  replace K7 := Lib.hid (K7.out.up hb)
  clear hb
  have k00 := H9.out.boxs.hd.cell
  have k01 := H9.out.boxs.tl.hd.cell
  have k02 := H9.out.boxs.tl.tl.hd.cell
  have k03 := H9.out.boxs.tl.tl.tl.hd.cell
  have k04 := H9.out.boxs.tl.tl.tl.tl.hd.cell
  have k05 := H9.out.boxs.tl.tl.tl.tl.tl.hd.cell
  have k06 := H9.out.boxs.tl.tl.tl.tl.tl.tl.hd.cell
  go_wp2_with fail
  refine (ya9 _ _ _ _ _ _ _ _ _ K1.out K1.out).mono ?_
  rintro e w10 ⟨rfl, hb⟩
  clear k00 k01 k02 k03 k04 k05 k06
  have H10 := Lib.hid (H9.out.up hb)
  replace K1 := Lib.hid (K1.out.up hb)
  replace K2 := Lib.hid (K2.out.up hb)
  replace K3 := Lib.hid (K3.out.up hb)
  replace K4 := Lib.hid (K4.out.up hb)
  replace K5 := Lib.hid (K5.out.up hb)
  replace K6 := Lib.hid (K6.out.up hb)
  replace K7 := Lib.hid (K7.out.up hb)
  clear hb
  have k00 := H10.out.boxs.hd.cell
  have k01 := H10.out.boxs.tl.hd.cell
  have k02 := H10.out.boxs.tl.tl.hd.cell
  have k03 := H10.out.boxs.tl.tl.tl.hd.cell
  have k04 := H10.out.boxs.tl.tl.tl.tl.hd.cell
  have k05 := H10.out.boxs.tl.tl.tl.tl.tl.hd.cell
  have k06 := H10.out.boxs.tl.tl.tl.tl.tl.tl.hd.cell
  go_wp2_with fail
  refine (ya10 _ _ _ _ _ _ _ _ _ K1.out K2.out).mono ?_
  rintro e w11 ⟨rfl, hb⟩
  clear k00 k01 k02 k03 k04 k05 k06
  have H11 := Lib.hid (H10.out.up hb)
  replace K1 := Lib.hid (K1.out.up hb)
  replace K2 := Lib.hid (K2.out.up hb)
  replace K3 := Lib.hid (K3.out.up hb)
  replace K4 := Lib.hid (K4.out.up hb)
  replace K5 := Lib.hid (K5.out.up hb)
  replace K6 := Lib.hid (K6.out.up hb)
  replace K7 := Lib.hid (K7.out.up hb)
  clear hb
  have k00 := H11.out.boxs.hd.cell
  have k01 := H11.out.boxs.tl.hd.cell
  have k02 := H11.out.boxs.tl.tl.hd.cell
  have k03 := H11.out.boxs.tl.tl.tl.hd.cell
  have k04 := H11.out.boxs.tl.tl.tl.tl.hd.cell
  have k05 := H11.out.boxs.tl.tl.tl.tl.tl.hd.cell
  have k06 := H11.out.boxs.tl.tl.tl.tl.tl.tl.hd.cell
  go_wp2_with fail
  go_ret
  exact ⟨rfl, H11.out.below⟩
end Go.Proofs.Ytbjbdlgbppanmaa
