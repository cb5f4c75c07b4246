/- The superblock on a disk, layer 7: the document's example and what can't be: the fixed fact holds. Under: both package variables as they are laid. -/
import Derived.Test.YtphlebbihfcaoaaDoorG3
namespace Go.Proofs.YtphlebbihfcaoaaDoor
open Go.RowKit

abbrev e0 : ByteArray := ⟨#[]⟩
def sup3 : Sup := ⟨3, 7, 0, 0, 0, false, false, false⟩
def sup4 : Sup := ⟨4, 7, 0, 0, 0, false, false, false⟩
def sup8 : Sup := ⟨3, 8, 0, 0, 0, false, false, false⟩
theorem wide3 : sup3.wide := ⟨by decide, by decide, by decide, by decide⟩
theorem wide4 : sup4.wide := ⟨by decide, by decide, by decide, by decide⟩
theorem wide8 : sup8.wide := ⟨by decide, by decide, by decide, by decide⟩

theorem es_true (w : World) : Es Value.bool (w.alloc (.cells #[.bool true] 4)) (w.alloc (.cells #[.bool true] 4)).heap.size (some ⟨w.heap.size, 0, none⟩) [true] := by
  intro j x hj
  match j, hj with
  | 0, hj =>
    simp at hj
    subst hj
    refine ⟨_, rfl, by simp, ?_⟩
    have : (⟨w.heap.size, 0, none⟩ : Addr).add 0 = ⟨w.heap.size, 0, none⟩ := by unfold Addr.add; split <;> simp_all
    rw [this, World.cell?_alloc_mark w _ 4 (0, 0)]
    rfl

/-- A disk in a block of the call's own, and its lists. -/
structure Kept (w : World) (b : Nat) (A : Option Addr) (n : Nat) (B : Option Addr) (m : Nat) (s : List ByteArray) (c : List Wr) (f : Int) (x : Bool) : Prop where
  mem : Mem w A n B m s c
  box : Box w b [.slice A s.length n, .slice B c.length m, .int .i64 f, .bool x]
theorem Kept.up {w w' : World} {b n m : Nat} {A B : Option Addr} {s : List ByteArray} {c : List Wr} {f : Int} {x : Bool} (h : Kept w b A n B m s c f x) (hb : Below w.heap.size w w') : Kept w' b A n B m s c f x := ⟨h.mem.up hb, h.box.below hb⟩
theorem Kept.new {w : World} {n m : Nat} {A B : Option Addr} {s : List ByteArray} {c : List Wr} {f : Int} {x : Bool} (h : Mem w A n B m s c) : Kept (w.alloc (.cells #[.slice A s.length n, .slice B c.length m, .int .i64 f, .bool x] 25)) w.heap.size A n B m s c f x :=
  ⟨h.up below1, Box.new w [.slice A s.length n, .slice B c.length m, .int .i64 f, .bool x] 25⟩

theorem x_c1 : commitD [e0, e0, e0, e0, e0] [] 0 false sup3 = ⟨[sup3.bytes, e0, e0, e0, e0], [], 0, false, 0⟩ := by rfl
theorem x_c2 : commitD [e0, e0, e0, e0, e0] [] 0 false sup4 = ⟨[e0, e0, e0, e0, e0], [], 0, false, 1⟩ := by rfl
theorem x_c3 : commitD [sup3.bytes, e0, e0, e0, e0] [] 2 false sup8 = ⟨[sup3.bytes, e0, e0, e0, e0], [(0, sup8.bytes)], 0, true, 6⟩ := by rfl
theorem x_l1 : loadD [sup3.bytes, e0, e0, e0, e0] [] false sup3.bytes = (sup3, 0) := by
  unfold loadD
  rw [if_neg (by simp), holds_nil, dec_bytes sup3 wide3 rfl]
  rfl
theorem x_l2 : loadD [e0, e0, e0, e0, e0] [] false e0 = (Sup.zero, 2) := by kernel_rfl
theorem x_l3 : loadD [sup8.bytes, e0, e0, e0, e0] [] false sup8.bytes = (sup8, 0) := by
  unfold loadD
  rw [if_neg (by simp), holds_nil, dec_bytes sup8 wide8 rfl]
  rfl

theorem a_new5 (w : World) : Calls Tryd.prog 15 #[.int .i64 5] w (GivesD [e0, e0, e0, e0, e0] [] 0 false 0 w) := rnew_any 5 w
theorem a_c1 (A1 B1 : Option Addr) (n1 m1 : Nat) (w : World) (h : Mem w A1 n1 B1 m1 [e0, e0, e0, e0, e0] []) : Calls Tryd.prog 10 #[.agg #[.slice A1 5 n1, .slice B1 0 m1, .int .i64 0, .bool false], .agg #[.int .i64 3, .int .u64 7, .int .u64 0, .int .u64 0, .int .u64 0, .bool false, .bool false, .bool false]] w (GivesD [sup3.bytes, e0, e0, e0, e0] [] 0 false 0 w) := by
  have := commit_any A1 B1 n1 m1 [e0, e0, e0, e0, e0] [] 0 false sup3 w h wide3 (by decide) (by decide) (by decide) (by decide) rfl
  rw [x_c1] at this
  exact this
theorem a_c2 (A1 B1 : Option Addr) (n1 m1 : Nat) (w : World) (h : Mem w A1 n1 B1 m1 [e0, e0, e0, e0, e0] []) : Calls Tryd.prog 10 #[.agg #[.slice A1 5 n1, .slice B1 0 m1, .int .i64 0, .bool false], .agg #[.int .i64 4, .int .u64 7, .int .u64 0, .int .u64 0, .int .u64 0, .bool false, .bool false, .bool false]] w (GivesD [e0, e0, e0, e0, e0] [] 0 false 1 w) := by
  have := commit_any A1 B1 n1 m1 [e0, e0, e0, e0, e0] [] 0 false sup4 w h wide4 (by decide) (by decide) (by decide) (by decide) rfl
  rw [x_c2] at this
  exact this
theorem a_c3 (A2 B2 : Option Addr) (n2 m2 : Nat) (w : World) (h : Mem w A2 n2 B2 m2 [sup3.bytes, e0, e0, e0, e0] []) : Calls Tryd.prog 10 #[.agg #[.slice A2 5 n2, .slice B2 0 m2, .int .i64 2, .bool false], .agg #[.int .i64 3, .int .u64 8, .int .u64 0, .int .u64 0, .int .u64 0, .bool false, .bool false, .bool false]] w (GivesD [sup3.bytes, e0, e0, e0, e0] [(0, sup8.bytes)] 0 true 6 w) := by
  have := commit_any A2 B2 n2 m2 [sup3.bytes, e0, e0, e0, e0] [] 2 false sup8 w h wide8 (by simp) (by simp) (by decide) (by decide) rfl
  rw [x_c3] at this
  exact this
theorem a_lost (A2 B2 : Option Addr) (n2 m2 : Nat) (w : World) (h : Mem w A2 n2 B2 m2 [sup3.bytes, e0, e0, e0, e0] []) : Calls Tryd.prog 17 #[.agg #[.slice A2 5 n2, .slice B2 0 m2, .int .i64 0, .bool true], .slice none 0 0] w (GivesO [sup3.bytes, e0, e0, e0, e0] [] 0 false w) :=
  rrevive_any A2 B2 none n2 m2 0 [sup3.bytes, e0, e0, e0, e0] [] [] 0 true w h (es_nil _ _ _ _) (by simp) (by decide) (by decide) rfl
theorem a_kept (A9 B9 K : Option Addr) (n9 m9 : Nat) (w : World) (h : Mem w A9 n9 B9 m9 [sup3.bytes, e0, e0, e0, e0] [(0, sup8.bytes)]) (hk : Es Value.bool w w.heap.size K [true]) : Calls Tryd.prog 17 #[.agg #[.slice A9 5 n9, .slice B9 1 m9, .int .i64 0, .bool true], .slice K 1 1] w (GivesO [sup8.bytes, e0, e0, e0, e0] [] 0 false w) :=
  rrevive_any A9 B9 K n9 m9 1 [sup3.bytes, e0, e0, e0, e0] [(0, sup8.bytes)] [true] 0 true w h hk (by simp) (by simp) (by decide) (fit_more (n := 5) (c := []) (by decide) rfl (by rw [bytes_size]; decide))
theorem a_l1 (A4 B4 : Option Addr) (n4 m4 : Nat) (a : Addr) (w : World) (h : Mem w A4 n4 B4 m4 [sup3.bytes, e0, e0, e0, e0] []) (hg : Glob w a) : Calls Tryd.prog 8 #[.agg #[.slice A4 5 n4, .slice B4 0 m4, .int .i64 0, .bool false]] w fun e w' => e = .returned (.tuple #[.agg #[.int .i64 3, .int .u64 7, .int .u64 0, .int .u64 0, .int .u64 0, .bool false, .bool false, .bool false], .int .i64 0]) ∧ Below w.heap.size w w' := by
  have := load_any A4 B4 n4 m4 [sup3.bytes, e0, e0, e0, e0] [] 0 false sup3.bytes a w h rfl (by simp) (by decide) (by rw [holds_nil, bytes_size]; decide) hg
  rw [x_l1] at this
  exact this
theorem a_l2 (A1 B1 : Option Addr) (n1 m1 : Nat) (a : Addr) (w : World) (h : Mem w A1 n1 B1 m1 [e0, e0, e0, e0, e0] []) (hg : Glob w a) : Calls Tryd.prog 8 #[.agg #[.slice A1 5 n1, .slice B1 0 m1, .int .i64 0, .bool false]] w fun e w' => e = .returned (.tuple #[.agg #[.int .i64 0, .int .u64 0, .int .u64 0, .int .u64 0, .int .u64 0, .bool false, .bool false, .bool false], .int .i64 2]) ∧ Below w.heap.size w w' := by
  have := load_any A1 B1 n1 m1 [e0, e0, e0, e0, e0] [] 0 false e0 a w h rfl (by decide) (by decide) (by decide) hg
  rw [x_l2] at this
  exact this
theorem a_l3 (A10 B10 : Option Addr) (n10 m10 : Nat) (a : Addr) (w : World) (h : Mem w A10 n10 B10 m10 [sup8.bytes, e0, e0, e0, e0] []) (hg : Glob w a) : Calls Tryd.prog 8 #[.agg #[.slice A10 5 n10, .slice B10 0 m10, .int .i64 0, .bool false]] w fun e w' => e = .returned (.tuple #[.agg #[.int .i64 3, .int .u64 8, .int .u64 0, .int .u64 0, .int .u64 0, .bool false, .bool false, .bool false], .int .i64 0]) ∧ Below w.heap.size w w' := by
  have := load_any A10 B10 n10 m10 [sup8.bytes, e0, e0, e0, e0] [] 0 false sup8.bytes a w h rfl (by simp) (by decide) (by rw [holds_nil, bytes_size]; decide) hg
  rw [x_l3] at this
  exact this
theorem a_arm2 (A2 B2 : Option Addr) (n2 m2 : Nat) (w : World) : Calls Tryd.prog 16 #[.agg #[.slice A2 5 n2, .slice B2 0 m2, .int .i64 0, .bool false], .int .i64 2] w fun e w' => e = .returned (.agg #[.slice A2 5 n2, .slice B2 0 m2, .int .i64 2, .bool false]) ∧ Below w.heap.size w w' := rarm_any A2 B2 5 n2 0 m2 0 2 false w
theorem a_f1 (A1 B1 : Option Addr) (n1 m1 : Nat) (w : World) : Calls Tryd.prog 13 #[.agg #[.slice A1 5 n1, .slice B1 0 m1, .int .i64 0, .bool false], .agg #[.int .i64 3, .int .u64 7, .int .u64 0, .int .u64 0, .int .u64 0, .bool false, .bool false, .bool false]] w fun e w' => e = .returned (.bool true) ∧ Below w.heap.size w w' := fits_any A1 B1 5 n1 0 m1 0 false sup3 w (by decide)
theorem a_f0 (A1 B1 : Option Addr) (n1 m1 : Nat) (w : World) : Calls Tryd.prog 13 #[.agg #[.slice A1 5 n1, .slice B1 0 m1, .int .i64 0, .bool false], .agg #[.int .i64 0, .int .u64 0, .int .u64 0, .int .u64 0, .int .u64 0, .bool false, .bool false, .bool false]] w fun e w' => e = .returned (.bool false) ∧ Below w.heap.size w w' := fits_any A1 B1 5 n1 0 m1 0 false Sup.zero w (by decide)

set_option maxRecDepth 100000 in
set_option maxHeartbeats 8000000 in
theorem alive_any (a : Addr) (w : World) (hg : Glob w a) : Calls Tryd.prog 5 #[] w fun e w' => e = .returned (.bool true) ∧ Below w.heap.size w w' := by
  have c1 := a_c1
  have c3 := a_c3
  have r1 := a_lost
  have r2 := a_kept
  have l1 := a_l1
  have l3 := a_l3
  generalize sup3.bytes = y3 at *
  generalize sup8.bytes = y8 at *
  have C1 := Lib.hid c1; clear c1
  have C3 := Lib.hid c3; clear c3
  have R1 := Lib.hid r1; clear r1
  have R2 := Lib.hid r2; clear r2
  have L1 := Lib.hid l1; clear l1
  have L3 := Lib.hid l3; clear l3
  have HG := Lib.hid hg; clear hg
  go_enter Tryd.func5, Tryd.ntmps5
  go_wp2_with fail
  refine (a_new5 _).mono ?_
  rintro e w1 ⟨A1, B1, n1, m1, rfl, hm1, hb⟩
  have KD1 := Lib.hid ((Kept.new (f := 0) (x := false) hm1).up (below1 (o := .cells #[.int .i64 3, .int .u64 7, .int .u64 0, .int .u64 0, .int .u64 0, .bool false, .bool false, .bool false] 31)))
  have XS1 := Lib.hid (Box.new2 w1 (.cells #[.slice A1 5 n1, .slice B1 0 m1, .int .i64 0, .bool false] 25) [.int .i64 3, .int .u64 7, .int .u64 0, .int .u64 0, .int .u64 0, .bool false, .bool false, .bool false] 31)
  have H1 := Lib.hid (ext_alloc (ext_alloc (hb) (.cells #[.slice A1 5 n1, .slice B1 0 m1, .int .i64 0, .bool false] 25)) (.cells #[.int .i64 3, .int .u64 7, .int .u64 0, .int .u64 0, .int .u64 0, .bool false, .bool false, .bool false] 31))
  clear hb
  go_wp2_with fail
  refine (C1.out A1 B1 n1 m1 _ KD1.out.mem).mono ?_
  rintro e w2 ⟨A2, B2, n2, m2, rfl, hm2, hb⟩
  have KD2 := Lib.hid ((KD1.out.up hb).up (below1 (o := .cells #[.slice A2 5 n2, .slice B2 0 m2, .int .i64 0, .bool false] 25)))
  have XS2 := Lib.hid ((XS1.out.below hb).alloc (.cells #[.slice A2 5 n2, .slice B2 0 m2, .int .i64 0, .bool false] 25))
  have KX2 := Lib.hid (Kept.new (f := 0) (x := false) hm2)
  have H2 := Lib.hid (ext_alloc (ext H1.out hb) (.cells #[.slice A2 5 n2, .slice B2 0 m2, .int .i64 0, .bool false] 25))
  clear hb KD1 XS1 H1
  go_wp2_with fail
  refine (rcrash_any A2 B2 5 n2 0 m2 0 false _).mono ?_
  rintro e w3 ⟨rfl, hb⟩
  have KD3 := Lib.hid (KD2.out.up hb)
  have XS3 := Lib.hid (XS2.out.below hb)
  have KX3 := Lib.hid (KX2.out.up hb)
  have H3 := Lib.hid (ext H2.out hb)
  clear hb KD2 XS2 KX2 H2
  go_wp2_with fail
  refine (R1.out A2 B2 n2 m2 _ KX3.out.mem).mono ?_
  rintro e w4 ⟨A4, B4, n4, m4, rfl, hm4, hb⟩
  have KD4 := Lib.hid (KD3.out.up hb)
  have XS4 := Lib.hid (XS3.out.below hb)
  have KX4 := Lib.hid (KX3.out.up hb)
  have H4 := Lib.hid (ext H3.out hb)
  clear hb KD3 XS3 KX3 H3
  go_wp2_with fail
  refine (L1.out A4 B4 n4 m4 a _ hm4 (HG.out.up H4.out)).mono ?_
  rintro e w5 ⟨rfl, hb⟩
  have KD5 := Lib.hid ((KD4.out.up hb).up (below1 (o := .cells #[.int .i64 3, .int .u64 7, .int .u64 0, .int .u64 0, .int .u64 0, .bool false, .bool false, .bool false] 31)))
  have XS5 := Lib.hid ((XS4.out.below hb).alloc (.cells #[.int .i64 3, .int .u64 7, .int .u64 0, .int .u64 0, .int .u64 0, .bool false, .bool false, .bool false] 31))
  have KX5 := Lib.hid ((KX4.out.up hb).up (below1 (o := .cells #[.int .i64 3, .int .u64 7, .int .u64 0, .int .u64 0, .int .u64 0, .bool false, .bool false, .bool false] 31)))
  have XT5 := Lib.hid (Box.new w5 [.int .i64 3, .int .u64 7, .int .u64 0, .int .u64 0, .int .u64 0, .bool false, .bool false, .bool false] 31)
  have H5 := Lib.hid (ext_alloc (ext H4.out hb) (.cells #[.int .i64 3, .int .u64 7, .int .u64 0, .int .u64 0, .int .u64 0, .bool false, .bool false, .bool false] 31))
  clear hb KD4 XS4 KX4 H4
  have kKD := KD5.out.box.cell
  go_wp2_with fail
  refine (a_l2 A1 B1 n1 m1 a _ KD5.out.mem (HG.out.up H5.out)).mono ?_
  rintro e w6 ⟨rfl, hb⟩
  have KD6 := Lib.hid ((KD5.out.up hb).up (below1 (o := .cells #[.int .i64 0, .int .u64 0, .int .u64 0, .int .u64 0, .int .u64 0, .bool false, .bool false, .bool false] 31)))
  have XS6 := Lib.hid ((XS5.out.below hb).alloc (.cells #[.int .i64 0, .int .u64 0, .int .u64 0, .int .u64 0, .int .u64 0, .bool false, .bool false, .bool false] 31))
  have KX6 := Lib.hid ((KX5.out.up hb).up (below1 (o := .cells #[.int .i64 0, .int .u64 0, .int .u64 0, .int .u64 0, .int .u64 0, .bool false, .bool false, .bool false] 31)))
  have XT6 := Lib.hid ((XT5.out.below hb).alloc (.cells #[.int .i64 0, .int .u64 0, .int .u64 0, .int .u64 0, .int .u64 0, .bool false, .bool false, .bool false] 31))
  have H6 := Lib.hid (ext_alloc (ext H5.out hb) (.cells #[.int .i64 0, .int .u64 0, .int .u64 0, .int .u64 0, .int .u64 0, .bool false, .bool false, .bool false] 31))
  clear hb KD5 XS5 KX5 XT5 H5 kKD
  have kKD := KD6.out.box.cell
  go_wp2_with fail
  refine (a_c2 A1 B1 n1 m1 _ KD6.out.mem).mono ?_
  rintro e w7 ⟨A7, B7, n7, m7, rfl, hm7, hb⟩
  have KD7 := Lib.hid ((KD6.out.up hb).up (below1 (o := .cells #[.slice A7 5 n7, .slice B7 0 m7, .int .i64 0, .bool false] 25)))
  have XS7 := Lib.hid ((XS6.out.below hb).alloc (.cells #[.slice A7 5 n7, .slice B7 0 m7, .int .i64 0, .bool false] 25))
  have KX7 := Lib.hid ((KX6.out.up hb).up (below1 (o := .cells #[.slice A7 5 n7, .slice B7 0 m7, .int .i64 0, .bool false] 25)))
  have XT7 := Lib.hid ((XT6.out.below hb).alloc (.cells #[.slice A7 5 n7, .slice B7 0 m7, .int .i64 0, .bool false] 25))
  have H7 := Lib.hid (ext_alloc (ext H6.out hb) (.cells #[.slice A7 5 n7, .slice B7 0 m7, .int .i64 0, .bool false] 25))
  clear hb KD6 XS6 KX6 XT6 H6 kKD
  have kKX := KX7.out.box.cell
  go_wp2_with fail
  refine (a_arm2 A2 B2 n2 m2 _).mono ?_
  rintro e w8 ⟨rfl, hb⟩
  have KD8 := Lib.hid (KD7.out.up hb)
  have XS8 := Lib.hid (XS7.out.below hb)
  have KX8 := Lib.hid (KX7.out.up hb)
  have XT8 := Lib.hid (XT7.out.below hb)
  have H8 := Lib.hid (ext H7.out hb)
  clear hb KD7 XS7 KX7 XT7 H7 kKX
  go_wp2_with fail
  refine (C3.out A2 B2 n2 m2 _ KX8.out.mem).mono ?_
  rintro e w9 ⟨A9, B9, n9, m9, rfl, hm9, hb⟩
  have KD9 := Lib.hid (((KD8.out.up hb).up (below1 (o := .cells #[.slice A9 5 n9, .slice B9 1 m9, .int .i64 0, .bool true] 25))).up (below1 (o := .cells #[.bool true] 4)))
  have XS9 := Lib.hid (((XS8.out.below hb).alloc (.cells #[.slice A9 5 n9, .slice B9 1 m9, .int .i64 0, .bool true] 25)).alloc (.cells #[.bool true] 4))
  have KX9 := Lib.hid (((KX8.out.up hb).up (below1 (o := .cells #[.slice A9 5 n9, .slice B9 1 m9, .int .i64 0, .bool true] 25))).up (below1 (o := .cells #[.bool true] 4)))
  have XT9 := Lib.hid (((XT8.out.below hb).alloc (.cells #[.slice A9 5 n9, .slice B9 1 m9, .int .i64 0, .bool true] 25)).alloc (.cells #[.bool true] 4))
  have KY9 := Lib.hid ((Kept.new (f := 0) (x := true) hm9).up (below1 (o := .cells #[.bool true] 4)))
  have H9 := Lib.hid (ext_alloc (ext_alloc (ext H8.out hb) (.cells #[.slice A9 5 n9, .slice B9 1 m9, .int .i64 0, .bool true] 25)) (.cells #[.bool true] 4))
  clear hb KD8 XS8 KX8 XT8 H8
  go_wp2_with fail
  refine (R2.out A9 B9 _ n9 m9 _ KY9.out.mem (by simpa using es_true (w9.alloc (.cells #[.slice A9 5 n9, .slice B9 1 m9, .int .i64 0, .bool true] 25)))).mono ?_
  rintro e w10 ⟨A10, B10, n10, m10, rfl, hm10, hb⟩
  have KD10 := Lib.hid (KD9.out.up hb)
  have XS10 := Lib.hid (XS9.out.below hb)
  have KX10 := Lib.hid (KX9.out.up hb)
  have XT10 := Lib.hid (XT9.out.below hb)
  have KY10 := Lib.hid (KY9.out.up hb)
  have H10 := Lib.hid (ext H9.out hb)
  clear hb KD9 XS9 KX9 XT9 KY9 H9
  go_wp2_with fail
  refine (L3.out A10 B10 n10 m10 a _ hm10 (HG.out.up H10.out)).mono ?_
  rintro e w11 ⟨rfl, hb⟩
  have KD11 := Lib.hid ((KD10.out.up hb).up (below1 (o := .cells #[.int .i64 3, .int .u64 8, .int .u64 0, .int .u64 0, .int .u64 0, .bool false, .bool false, .bool false] 31)))
  have XS11 := Lib.hid ((XS10.out.below hb).alloc (.cells #[.int .i64 3, .int .u64 8, .int .u64 0, .int .u64 0, .int .u64 0, .bool false, .bool false, .bool false] 31))
  have KX11 := Lib.hid ((KX10.out.up hb).up (below1 (o := .cells #[.int .i64 3, .int .u64 8, .int .u64 0, .int .u64 0, .int .u64 0, .bool false, .bool false, .bool false] 31)))
  have XT11 := Lib.hid ((XT10.out.below hb).alloc (.cells #[.int .i64 3, .int .u64 8, .int .u64 0, .int .u64 0, .int .u64 0, .bool false, .bool false, .bool false] 31))
  have KY11 := Lib.hid ((KY10.out.up hb).up (below1 (o := .cells #[.int .i64 3, .int .u64 8, .int .u64 0, .int .u64 0, .int .u64 0, .bool false, .bool false, .bool false] 31)))
  have XU11 := Lib.hid (Box.new w11 [.int .i64 3, .int .u64 8, .int .u64 0, .int .u64 0, .int .u64 0, .bool false, .bool false, .bool false] 31)
  have H11 := Lib.hid (ext_alloc (ext H10.out hb) (.cells #[.int .i64 3, .int .u64 8, .int .u64 0, .int .u64 0, .int .u64 0, .bool false, .bool false, .bool false] 31))
  clear hb KD10 XS10 KX10 XT10 KY10 H10
  have kKD := KD11.out.box.cell
  have kXS := XS11.out.cell
  have kXT := XT11.out.cell
  have kKY := KY11.out.box.cell
  have kXU := XU11.out.cell
  go_wp2_with fail
  refine (a_f1 A1 B1 n1 m1 _).mono ?_
  rintro e w12 ⟨rfl, hb⟩
  have KD12 := Lib.hid (KD11.out.up hb)
  have XS12 := Lib.hid (XS11.out.below hb)
  have KX12 := Lib.hid (KX11.out.up hb)
  have XT12 := Lib.hid (XT11.out.below hb)
  have KY12 := Lib.hid (KY11.out.up hb)
  have XU12 := Lib.hid (XU11.out.below hb)
  have H12 := Lib.hid (ext H11.out hb)
  clear hb KD11 XS11 KX11 XT11 KY11 XU11 H11 kKD kXS kXT kKY kXU
  have kKD := KD12.out.box.cell
  go_wp2_with fail
  refine (a_f0 A1 B1 n1 m1 _).mono ?_
  rintro e w13 ⟨rfl, hb⟩
  have KD13 := Lib.hid (KD12.out.up hb)
  have XS13 := Lib.hid (XS12.out.below hb)
  have KX13 := Lib.hid (KX12.out.up hb)
  have XT13 := Lib.hid (XT12.out.below hb)
  have KY13 := Lib.hid (KY12.out.up hb)
  have XU13 := Lib.hid (XU12.out.below hb)
  have H13 := Lib.hid (ext H12.out hb)
  clear hb KD12 XS12 KX12 XT12 KY12 XU12 H12 kKD
  go_wp2_with fail
  go_ret
  exact ⟨rfl, H13.out⟩
end Go.Proofs.YtphlebbihfcaoaaDoor
