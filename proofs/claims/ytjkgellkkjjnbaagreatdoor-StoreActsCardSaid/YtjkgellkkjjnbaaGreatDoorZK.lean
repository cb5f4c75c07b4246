/- Stores: the law's fixed example, walked. Under: both package variables as they are laid. -/
import Derived.Test.YtjkgellkkjjnbaaGreatDoorZL
import Derived.Test.YtjkgellkkjjnbaaGreatDoorZJ
namespace Go.Proofs.YtjkgellkkjjnbaaGreatDoor
open Go.RowKit

theorem fld_disk (a0 a1 a2 a3 a4 a5 a6 a7 a8 a9 a10 a11 a12 : Value) (w : World) : (Instr.field 34 (.agg #[a0, a1, a2, a3, a4, a5, a6, a7, a8, a9, a10, a11, a12]) 0).run Tryz.prog w = .ok (.agg #[a0, a1, a2, a3]) w := by kernel_rfl

theorem es_three (w : World) : Es Value.string (w.alloc (.cells #[.string e0, .string e0, .string e0] 9)) (w.alloc (.cells #[.string e0, .string e0, .string e0] 9)).heap.size (some ⟨w.heap.size, 0, none⟩) [e0, e0, e0] := by
  intro j x hj
  have hx := Box.new w [.string e0, .string e0, .string e0] 9
  have ha : (⟨w.heap.size, 0, none⟩ : Addr).add j = ⟨w.heap.size, j, none⟩ := by unfold Addr.add; split <;> simp_all
  refine ⟨_, rfl, by simp, ?_⟩
  rw [ha]
  refine (hx.cell j).trans ?_
  match j, hj with
  | 0, hj => injection hj with hj; subst hj; rfl
  | 1, hj => injection hj with hj; subst hj; rfl
  | 2, hj => injection hj with hj; subst hj; rfl
theorem mem_three (w : World) : Mem (w.alloc (.cells #[.string e0, .string e0, .string e0] 9)) (some ⟨w.heap.size, 0, none⟩) 3 none 0 [e0, e0, e0] [] := ⟨es_three w, ws_nil _ _ _, (fun q => by cases q), fun _ => rfl⟩

theorem k_new (w : World) : Calls Tryz.prog 15 #[.int .i64 3] w fun e w' => ∃ A n B m, e = .returned (.agg #[.slice A x0.s.length n, .slice B x0.c.length m, .int .i64 x0.f, .bool x0.x, .int .i64 x0.b.n, .int .u64 x0.b.c, .int .u64 x0.b.b, .int .u64 x0.b.o, .int .u64 x0.b.p, .bool x0.b.i, .bool x0.b.r, .bool x0.b.d, .int .u32 x0.m]) ∧ Mem w' A n B m x0.s x0.c ∧ Below w.heap.size w w' := rznew_any (N := 3) (by decide) (by decide) w
theorem k_att (A B : Option Addr) (n m : Nat) (w : World) (hm : Mem w A n B m x0.s x0.c) (a : Addr) (hg : Glob w a) : Calls Tryz.prog 10 #[.agg #[.slice A x0.s.length n, .slice B x0.c.length m, .int .i64 x0.f, .bool x0.x]] w (fun e w' => ∃ A n B m, e = .returned (.tuple #[.agg #[.slice A x0.s.length n, .slice B x0.c.length m, .int .i64 x0.f, .bool x0.x, .int .i64 x0.b.n, .int .u64 x0.b.c, .int .u64 x0.b.b, .int .u64 x0.b.o, .int .u64 x0.b.p, .bool x0.b.i, .bool x0.b.r, .bool x0.b.d, .int .u32 x0.m], .int .i64 0]) ∧ Mem w' A n B m x0.s x0.c ∧ Below w.heap.size w w') := zattach_whole x0_whole A B n m w hm x0_fit a hg
theorem k_mark (A B : Option Addr) (n m : Nat) (w : World) (hm : Mem w A n B m x0.s x0.c) : Calls Tryz.prog 22 #[.agg #[.slice A x0.s.length n, .slice B x0.c.length m, .int .i64 x0.f, .bool x0.x, .int .i64 x0.b.n, .int .u64 x0.b.c, .int .u64 x0.b.b, .int .u64 x0.b.o, .int .u64 x0.b.p, .bool x0.b.i, .bool x0.b.r, .bool x0.b.d, .int .u32 x0.m], .int .i64 2] w (fun e w' => ∃ A n B m, e = .returned (.tuple #[.agg #[.slice A x1.s.length n, .slice B x1.c.length m, .int .i64 x1.f, .bool x1.x, .int .i64 x1.b.n, .int .u64 x1.b.c, .int .u64 x1.b.b, .int .u64 x1.b.o, .int .u64 x1.b.p, .bool x1.b.i, .bool x1.b.r, .bool x1.b.d, .int .u32 x1.m], .int .i64 0]) ∧ Mem w' A n B m x1.s x1.c ∧ Below w.heap.size w w') := by
  have h := zmark_of x0 A B n m 2 w hm x0_fit (mask_small x0_whole.mr)
  rw [x1_e] at h
  exact h
theorem k_mark3 (A B : Option Addr) (n m : Nat) (w : World) (hm : Mem w A n B m x0.s x0.c) : Calls Tryz.prog 22 #[.agg #[.slice A x0.s.length n, .slice B x0.c.length m, .int .i64 x0.f, .bool x0.x, .int .i64 x0.b.n, .int .u64 x0.b.c, .int .u64 x0.b.b, .int .u64 x0.b.o, .int .u64 x0.b.p, .bool x0.b.i, .bool x0.b.r, .bool x0.b.d, .int .u32 x0.m], .int .i64 3] w (fun e w' => ∃ A n B m, e = .returned (.tuple #[.agg #[.slice A x0.s.length n, .slice B x0.c.length m, .int .i64 x0.f, .bool x0.x, .int .i64 x0.b.n, .int .u64 x0.b.c, .int .u64 x0.b.b, .int .u64 x0.b.o, .int .u64 x0.b.p, .bool x0.b.i, .bool x0.b.r, .bool x0.b.d, .int .u32 x0.m], .int .i64 4]) ∧ Mem w' A n B m x0.s x0.c ∧ Below w.heap.size w w') := by
  have h := zmark_of x0 A B n m 3 w hm x0_fit (mask_small x0_whole.mr)
  rw [x0_out] at h
  exact h
theorem k_put (A B : Option Addr) (n m : Nat) (w : World) (hm : Mem w A n B m x1.s x1.c) : Calls Tryz.prog 24 #[.agg #[.slice A x1.s.length n, .slice B x1.c.length m, .int .i64 x1.f, .bool x1.x, .int .i64 x1.b.n, .int .u64 x1.b.c, .int .u64 x1.b.b, .int .u64 x1.b.o, .int .u64 x1.b.p, .bool x1.b.i, .bool x1.b.r, .bool x1.b.d, .int .u32 x1.m], .int .i64 2, .string ⟨#[97, 98, 99, 100, 101, 102, 103, 104]⟩] w (fun e w' => ∃ A n B m, e = .returned (.tuple #[.agg #[.slice A x2.s.length n, .slice B x2.c.length m, .int .i64 x2.f, .bool x2.x, .int .i64 x2.b.n, .int .u64 x2.b.c, .int .u64 x2.b.b, .int .u64 x2.b.o, .int .u64 x2.b.p, .bool x2.b.i, .bool x2.b.r, .bool x2.b.d, .int .u32 x2.m], .int .i64 0]) ∧ Mem w' A n B m x2.s x2.c ∧ Below w.heap.size w w') := by
  have h := zput_of x1 A B n m 2 d8 w hm x1_fit
  rw [x2_e] at h
  exact h
theorem k_revive (A B : Option Addr) (n m : Nat) (w : World) (hm : Mem w A n B m x2.s x2.c) : Calls Tryz.prog 20 #[.agg #[.slice A x2.s.length n, .slice B x2.c.length m, .int .i64 0, .bool true], .slice none 0 0] w fun e w' => ∃ A n B m, e = .returned (.agg #[.slice A x2.s.length n, .slice B x2.c.length m, .int .i64 x2.f, .bool false]) ∧ Mem w' A n B m x2.s x2.c ∧ Below w.heap.size w w' := by
  have h := rrevive_any A B none n m 0 x2.s x2.c [] 0 true w hm (es_nil _ _ _ _) x2_fit.l64 (by rw [x2_c]; decide) (by simp [maxLen]) x2_fit.mis
  rw [(sure_again x2_whole x2_f x2_c rfl).1] at h
  rw [x2_f]
  refine h.mono fun e w' g => ?_
  obtain ⟨A1, B1, n1, m1, g1, g2, g3⟩ := g
  rw [x2_c]
  exact ⟨A1, n1, B1, m1, g1, g2, g3⟩
theorem k_att2 (A B : Option Addr) (n m : Nat) (w : World) (hm : Mem w A n B m x2.s x2.c) (a : Addr) (hg : Glob w a) : Calls Tryz.prog 10 #[.agg #[.slice A x2.s.length n, .slice B x2.c.length m, .int .i64 x2.f, .bool false]] w (fun e w' => ∃ A n B m, e = .returned (.tuple #[.agg #[.slice A x2.s.length n, .slice B x2.c.length m, .int .i64 x2.f, .bool x2.x, .int .i64 x2.b.n, .int .u64 x2.b.c, .int .u64 x2.b.b, .int .u64 x2.b.o, .int .u64 x2.b.p, .bool x2.b.i, .bool x2.b.r, .bool x2.b.d, .int .u32 x2.m], .int .i64 0]) ∧ Mem w' A n B m x2.s x2.c ∧ Below w.heap.size w w') := zattach_whole x2_whole A B n m w hm x2_fit a hg
theorem k_read (A B : Option Addr) (n m : Nat) (w : World) (hm : Mem w A n B m x2.s x2.c) : Calls Tryz.prog 25 #[.agg #[.slice A x2.s.length n, .slice B x2.c.length m, .int .i64 x2.f, .bool x2.x, .int .i64 x2.b.n, .int .u64 x2.b.c, .int .u64 x2.b.b, .int .u64 x2.b.o, .int .u64 x2.b.p, .bool x2.b.i, .bool x2.b.r, .bool x2.b.d, .int .u32 x2.m], .int .i64 2] w fun e w' => e = .returned (.tuple #[.string ⟨#[97, 98, 99, 100, 101, 102, 103, 104]⟩, .int .i64 0]) ∧ Below w.heap.size w w' := by
  have h := zread_of x2 A B n m 2 w hm x2_fit
  rw [x2_read] at h
  exact h
theorem k_wipe (A B : Option Addr) (n m : Nat) (w : World) (hm : Mem w A n B m x2.s x2.c) : Calls Tryz.prog 23 #[.agg #[.slice A x2.s.length n, .slice B x2.c.length m, .int .i64 x2.f, .bool x2.x, .int .i64 x2.b.n, .int .u64 x2.b.c, .int .u64 x2.b.b, .int .u64 x2.b.o, .int .u64 x2.b.p, .bool x2.b.i, .bool x2.b.r, .bool x2.b.d, .int .u32 x2.m], .int .i64 2] w (fun e w' => ∃ A n B m, e = .returned (.tuple #[.agg #[.slice A x4.s.length n, .slice B x4.c.length m, .int .i64 x4.f, .bool x4.x, .int .i64 x4.b.n, .int .u64 x4.b.c, .int .u64 x4.b.b, .int .u64 x4.b.o, .int .u64 x4.b.p, .bool x4.b.i, .bool x4.b.r, .bool x4.b.d, .int .u32 x4.m], .int .i64 0]) ∧ Mem w' A n B m x4.s x4.c ∧ Below w.heap.size w w') := by
  have h := zwipe_of x2 A B n m 2 w hm x2_fit (mask_small x2_whole.mr)
  rw [x4_e] at h
  exact h
theorem k_commit (A B : Option Addr) (n m : Nat) (w : World) (hm : Mem w A n B m x4.s x4.c) : Calls Tryz.prog 26 #[.agg #[.slice A x4.s.length n, .slice B x4.c.length m, .int .i64 x4.f, .bool x4.x, .int .i64 x4.b.n, .int .u64 x4.b.c, .int .u64 x4.b.b, .int .u64 x4.b.o, .int .u64 x4.b.p, .bool x4.b.i, .bool x4.b.r, .bool x4.b.d, .int .u32 x4.m], .agg #[.int .i64 3, .int .u64 8, .int .u64 0, .int .u64 0, .int .u64 0, .bool false, .bool false, .bool false]] w (fun e w' => ∃ A n B m, e = .returned (.tuple #[.agg #[.slice A x5.s.length n, .slice B x5.c.length m, .int .i64 x5.f, .bool x5.x, .int .i64 x5.b.n, .int .u64 x5.b.c, .int .u64 x5.b.b, .int .u64 x5.b.o, .int .u64 x5.b.p, .bool x5.b.i, .bool x5.b.r, .bool x5.b.d, .int .u32 x5.m], .int .i64 0]) ∧ Mem w' A n B m x5.s x5.c ∧ Below w.heap.size w w') := by
  have h := zcommit_of x4 A B n m q8 w hm x4_fit q8_wide
  rw [x5_e] at h
  exact h
theorem k_bad (A B : Option Addr) (n m : Nat) (w : World) (hm : Mem w A n B m [e0, e0, e0] []) (a : Addr) (hg : Glob w a) : Calls Tryz.prog 10 #[.agg #[.slice A 3 n, .slice B 0 m, .int .i64 0, .bool false]] w fun e w' => ∃ A n B m, e = .returned (.tuple #[.agg #[.slice A Sto.zero.s.length n, .slice B Sto.zero.c.length m, .int .i64 Sto.zero.f, .bool Sto.zero.x, .int .i64 Sto.zero.b.n, .int .u64 Sto.zero.b.c, .int .u64 Sto.zero.b.b, .int .u64 Sto.zero.b.o, .int .u64 Sto.zero.b.p, .bool Sto.zero.b.i, .bool Sto.zero.b.r, .bool Sto.zero.b.d, .int .u32 Sto.zero.m], .int .i64 2]) ∧ Mem w' A n B m Sto.zero.s Sto.zero.c ∧ Below w.heap.size w w' := by
  have h := zattach_any A B n m [e0, e0, e0] [] 0 false w hm bad_fit a hg
  rw [att_bad x_bad (by decide), x_bad] at h
  exact h
theorem k_join (A B : Option Addr) (n m : Nat) (w : World) (hm : Mem w A n B m x5.s x5.c) : Calls Tryz.prog 27 #[.agg #[.slice A x5.s.length n, .slice B x5.c.length m, .int .i64 x5.f, .bool x5.x, .int .i64 x5.b.n, .int .u64 x5.b.c, .int .u64 x5.b.b, .int .u64 x5.b.o, .int .u64 x5.b.p, .bool x5.b.i, .bool x5.b.r, .bool x5.b.d, .int .u32 x5.m], .int .u32 5] w (fun e w' => ∃ A n B m, e = .returned (.tuple #[.agg #[.slice A x6.s.length n, .slice B x6.c.length m, .int .i64 x6.f, .bool x6.x, .int .i64 x6.b.n, .int .u64 x6.b.c, .int .u64 x6.b.b, .int .u64 x6.b.o, .int .u64 x6.b.p, .bool x6.b.i, .bool x6.b.r, .bool x6.b.d, .int .u32 x6.m], .int .i64 0]) ∧ Mem w' A n B m x6.s x6.c ∧ Below w.heap.size w w') := by
  have h := zjoin_of x5 A B n m 5 w hm x5_fit (mask_small x5_whole.mr) (by decide)
  rw [x6_e] at h
  exact h
theorem k_same (A B : Option Addr) (n m : Nat) (w : World) (hm : Mem w A n B m x0.s x0.c) : Calls Tryz.prog 13 #[.agg #[.slice A x0.s.length n, .slice B x0.c.length m, .int .i64 x0.f, .bool x0.x, .int .i64 x0.b.n, .int .u64 x0.b.c, .int .u64 x0.b.b, .int .u64 x0.b.o, .int .u64 x0.b.p, .bool x0.b.i, .bool x0.b.r, .bool x0.b.d, .int .u32 x0.m], .agg #[.slice A x0.s.length n, .slice B x0.c.length m, .int .i64 x0.f, .bool x0.x, .int .i64 x0.b.n, .int .u64 x0.b.c, .int .u64 x0.b.b, .int .u64 x0.b.o, .int .u64 x0.b.p, .bool x0.b.i, .bool x0.b.r, .bool x0.b.d, .int .u32 x0.m]] w fun e w' => e = .returned (.bool true) ∧ Below w.heap.size w w' := by
  have h := zsame_of x0 x0 A B n m A B n m w hm hm x0_fit x0_fit
  rw [Sto.same_self] at h
  exact h
theorem k_other (A B : Option Addr) (n m : Nat) (w : World) (hm : Mem w A n B m x0.s x0.c) (A2 B2 : Option Addr) (n2 m2 : Nat) (hm2 : Mem w A2 n2 B2 m2 x1.s x1.c) : Calls Tryz.prog 13 #[.agg #[.slice A x0.s.length n, .slice B x0.c.length m, .int .i64 x0.f, .bool x0.x, .int .i64 x0.b.n, .int .u64 x0.b.c, .int .u64 x0.b.b, .int .u64 x0.b.o, .int .u64 x0.b.p, .bool x0.b.i, .bool x0.b.r, .bool x0.b.d, .int .u32 x0.m], .agg #[.slice A2 x1.s.length n2, .slice B2 x1.c.length m2, .int .i64 x1.f, .bool x1.x, .int .i64 x1.b.n, .int .u64 x1.b.c, .int .u64 x1.b.b, .int .u64 x1.b.o, .int .u64 x1.b.p, .bool x1.b.i, .bool x1.b.r, .bool x1.b.d, .int .u32 x1.m]] w fun e w' => e = .returned (.bool false) ∧ Below w.heap.size w w' := by
  have h := zsame_of x0 x1 A B n m A2 B2 n2 m2 w hm hm2 x0_fit x1_fit
  have e : x0.same x1 = false := by unfold Sto.same; rw [x_other, Bool.and_false, Bool.and_false]
  rw [e] at h
  exact h

set_option maxRecDepth 100000 in
set_option maxHeartbeats 8000000 in
theorem zalive_any (w : World) (a : Addr) (hg : Glob w a) : Calls Tryz.prog 7 #[] w (Yes w) := by
  have HG := Lib.hid hg; clear hg
  have HB := Lib.hid (Below.refl w.heap.size w)
  unfold Yes
  go_enter Tryz.func7, Tryz.ntmps7
  go_wp2_with fail
  refine (k_new _).mono ?_
  rintro e w1 ⟨A0, n0, B0, m0, rfl, hm, hb⟩
  replace HG := Lib.hid (HG.out.up hb)
  replace HB := Lib.hid (ext HB.out hb)
  have M0 := Lib.hid hm
  clear hb hm
  have fd := fld_disk
  go_wp2_with fail
  refine (k_att A0 B0 n0 m0 _ M0.out _ HG.out).mono ?_
  rintro e w2 ⟨Aa, na, Ba, ma, rfl, hm, hb⟩
  replace HG := Lib.hid (HG.out.up hb)
  replace M0 := Lib.hid (M0.out.up hb)
  replace HB := Lib.hid (ext HB.out hb)
  have Ma := Lib.hid hm
  clear hb hm
  clear fd
  go_upto_region 2 with fail
  have hb : Below w2.heap.size w2 (w2.alloc (.cells ([.slice Aa x0.s.length na, .slice Ba x0.c.length ma, .int .i64 x0.f, .bool x0.x, .int .i64 x0.b.n, .int .u64 x0.b.c, .int .u64 x0.b.b, .int .u64 x0.b.o, .int .u64 x0.b.p, .bool x0.b.i, .bool x0.b.r, .bool x0.b.d, .int .u32 x0.m] : List Value).toArray 34)) := below1
  have Xs := Lib.hid (Box.new w2 [.slice Aa x0.s.length na, .slice Ba x0.c.length ma, .int .i64 x0.f, .bool x0.x, .int .i64 x0.b.n, .int .u64 x0.b.c, .int .u64 x0.b.b, .int .u64 x0.b.o, .int .u64 x0.b.p, .bool x0.b.i, .bool x0.b.r, .bool x0.b.d, .int .u32 x0.m] 34)
  replace HG := Lib.hid (HG.out.up hb)
  replace M0 := Lib.hid (M0.out.up hb)
  replace Ma := Lib.hid (Ma.out.up hb)
  replace HB := Lib.hid (ext HB.out hb)
  generalize w2.alloc (.cells #[.slice Aa x0.s.length na, .slice Ba x0.c.length ma, .int .i64 x0.f, .bool x0.x, .int .i64 x0.b.n, .int .u64 x0.b.c, .int .u64 x0.b.b, .int .u64 x0.b.o, .int .u64 x0.b.p, .bool x0.b.i, .bool x0.b.r, .bool x0.b.d, .int .u32 x0.m] 34) = w3 at *
  clear hb
  have kXs := Xs.out.cell
  go_wp2_with fail
  refine (k_mark Aa Ba na ma _ Ma.out).mono ?_
  rintro e w4 ⟨Ab, nb, Bb, mb, rfl, hm, hb⟩
  clear kXs
  replace HG := Lib.hid (HG.out.up hb)
  replace M0 := Lib.hid (M0.out.up hb)
  replace Ma := Lib.hid (Ma.out.up hb)
  replace Xs := Lib.hid (Xs.out.below hb)
  replace HB := Lib.hid (ext HB.out hb)
  have Mb := Lib.hid hm
  clear hb hm
  go_upto_region 3 with fail
  have hb : Below w4.heap.size w4 (w4.alloc (.cells ([.slice Ab x1.s.length nb, .slice Bb x1.c.length mb, .int .i64 x1.f, .bool x1.x, .int .i64 x1.b.n, .int .u64 x1.b.c, .int .u64 x1.b.b, .int .u64 x1.b.o, .int .u64 x1.b.p, .bool x1.b.i, .bool x1.b.r, .bool x1.b.d, .int .u32 x1.m] : List Value).toArray 34)) := below1
  have Xm := Lib.hid (Box.new w4 [.slice Ab x1.s.length nb, .slice Bb x1.c.length mb, .int .i64 x1.f, .bool x1.x, .int .i64 x1.b.n, .int .u64 x1.b.c, .int .u64 x1.b.b, .int .u64 x1.b.o, .int .u64 x1.b.p, .bool x1.b.i, .bool x1.b.r, .bool x1.b.d, .int .u32 x1.m] 34)
  replace HG := Lib.hid (HG.out.up hb)
  replace M0 := Lib.hid (M0.out.up hb)
  replace Ma := Lib.hid (Ma.out.up hb)
  replace Xs := Lib.hid (Xs.out.below hb)
  replace Mb := Lib.hid (Mb.out.up hb)
  replace HB := Lib.hid (ext HB.out hb)
  generalize w4.alloc (.cells #[.slice Ab x1.s.length nb, .slice Bb x1.c.length mb, .int .i64 x1.f, .bool x1.x, .int .i64 x1.b.n, .int .u64 x1.b.c, .int .u64 x1.b.b, .int .u64 x1.b.o, .int .u64 x1.b.p, .bool x1.b.i, .bool x1.b.r, .bool x1.b.d, .int .u32 x1.m] 34) = w5 at *
  clear hb
  have kXm := Xm.out.cell
  go_wp2_with fail
  refine (k_put Ab Bb nb mb _ Mb.out).mono ?_
  rintro e w6 ⟨Ac, nc, Bc, mc, rfl, hm, hb⟩
  clear kXm
  replace HG := Lib.hid (HG.out.up hb)
  replace M0 := Lib.hid (M0.out.up hb)
  replace Ma := Lib.hid (Ma.out.up hb)
  replace Xs := Lib.hid (Xs.out.below hb)
  replace Mb := Lib.hid (Mb.out.up hb)
  replace Xm := Lib.hid (Xm.out.below hb)
  replace HB := Lib.hid (ext HB.out hb)
  have Mc := Lib.hid hm
  clear hb hm
  go_upto_region 4 with fail
  have hb : Below w6.heap.size w6 (w6.alloc (.cells ([.slice Ac x2.s.length nc, .slice Bc x2.c.length mc, .int .i64 x2.f, .bool x2.x, .int .i64 x2.b.n, .int .u64 x2.b.c, .int .u64 x2.b.b, .int .u64 x2.b.o, .int .u64 x2.b.p, .bool x2.b.i, .bool x2.b.r, .bool x2.b.d, .int .u32 x2.m] : List Value).toArray 34)) := below1
  have Xp := Lib.hid (Box.new w6 [.slice Ac x2.s.length nc, .slice Bc x2.c.length mc, .int .i64 x2.f, .bool x2.x, .int .i64 x2.b.n, .int .u64 x2.b.c, .int .u64 x2.b.b, .int .u64 x2.b.o, .int .u64 x2.b.p, .bool x2.b.i, .bool x2.b.r, .bool x2.b.d, .int .u32 x2.m] 34)
  replace HG := Lib.hid (HG.out.up hb)
  replace M0 := Lib.hid (M0.out.up hb)
  replace Ma := Lib.hid (Ma.out.up hb)
  replace Xs := Lib.hid (Xs.out.below hb)
  replace Mb := Lib.hid (Mb.out.up hb)
  replace Xm := Lib.hid (Xm.out.below hb)
  replace Mc := Lib.hid (Mc.out.up hb)
  replace HB := Lib.hid (ext HB.out hb)
  generalize w6.alloc (.cells #[.slice Ac x2.s.length nc, .slice Bc x2.c.length mc, .int .i64 x2.f, .bool x2.x, .int .i64 x2.b.n, .int .u64 x2.b.c, .int .u64 x2.b.b, .int .u64 x2.b.o, .int .u64 x2.b.p, .bool x2.b.i, .bool x2.b.r, .bool x2.b.d, .int .u32 x2.m] 34) = w7 at *
  clear hb
  have kXp := Xp.out.cell
  go_wp2_with fail
  refine (rcrash_any Ac Bc x2.s.length nc x2.c.length mc x2.f x2.x _).mono ?_
  rintro e w8 ⟨rfl, hb⟩
  clear kXp
  replace HG := Lib.hid (HG.out.up hb)
  replace M0 := Lib.hid (M0.out.up hb)
  replace Ma := Lib.hid (Ma.out.up hb)
  replace Xs := Lib.hid (Xs.out.below hb)
  replace Mb := Lib.hid (Mb.out.up hb)
  replace Xm := Lib.hid (Xm.out.below hb)
  replace Mc := Lib.hid (Mc.out.up hb)
  replace Xp := Lib.hid (Xp.out.below hb)
  replace HB := Lib.hid (ext HB.out hb)
  clear hb
  go_wp2_with fail
  refine (k_revive Ac Bc nc mc _ Mc.out).mono ?_
  rintro e w9 ⟨Ad, nd, Bd, md, rfl, hm, hb⟩
  replace HG := Lib.hid (HG.out.up hb)
  replace M0 := Lib.hid (M0.out.up hb)
  replace Ma := Lib.hid (Ma.out.up hb)
  replace Xs := Lib.hid (Xs.out.below hb)
  replace Mb := Lib.hid (Mb.out.up hb)
  replace Xm := Lib.hid (Xm.out.below hb)
  replace Mc := Lib.hid (Mc.out.up hb)
  replace Xp := Lib.hid (Xp.out.below hb)
  replace HB := Lib.hid (ext HB.out hb)
  have Md := Lib.hid hm
  clear hb hm
  go_wp2_with fail
  refine (k_att2 Ad Bd nd md _ Md.out _ HG.out).mono ?_
  rintro e w10 ⟨Ae, ne, Be, me, rfl, hm, hb⟩
  replace HG := Lib.hid (HG.out.up hb)
  replace M0 := Lib.hid (M0.out.up hb)
  replace Ma := Lib.hid (Ma.out.up hb)
  replace Xs := Lib.hid (Xs.out.below hb)
  replace Mb := Lib.hid (Mb.out.up hb)
  replace Xm := Lib.hid (Xm.out.below hb)
  replace Mc := Lib.hid (Mc.out.up hb)
  replace Xp := Lib.hid (Xp.out.below hb)
  replace Md := Lib.hid (Md.out.up hb)
  replace HB := Lib.hid (ext HB.out hb)
  have Me := Lib.hid hm
  clear hb hm
  go_upto_region 5 with fail
  have hb : Below w10.heap.size w10 (w10.alloc (.cells ([.slice Ae x2.s.length ne, .slice Be x2.c.length me, .int .i64 x2.f, .bool x2.x, .int .i64 x2.b.n, .int .u64 x2.b.c, .int .u64 x2.b.b, .int .u64 x2.b.o, .int .u64 x2.b.p, .bool x2.b.i, .bool x2.b.r, .bool x2.b.d, .int .u32 x2.m] : List Value).toArray 34)) := below1
  have Xx := Lib.hid (Box.new w10 [.slice Ae x2.s.length ne, .slice Be x2.c.length me, .int .i64 x2.f, .bool x2.x, .int .i64 x2.b.n, .int .u64 x2.b.c, .int .u64 x2.b.b, .int .u64 x2.b.o, .int .u64 x2.b.p, .bool x2.b.i, .bool x2.b.r, .bool x2.b.d, .int .u32 x2.m] 34)
  replace HG := Lib.hid (HG.out.up hb)
  replace M0 := Lib.hid (M0.out.up hb)
  replace Ma := Lib.hid (Ma.out.up hb)
  replace Xs := Lib.hid (Xs.out.below hb)
  replace Mb := Lib.hid (Mb.out.up hb)
  replace Xm := Lib.hid (Xm.out.below hb)
  replace Mc := Lib.hid (Mc.out.up hb)
  replace Xp := Lib.hid (Xp.out.below hb)
  replace Md := Lib.hid (Md.out.up hb)
  replace Me := Lib.hid (Me.out.up hb)
  replace HB := Lib.hid (ext HB.out hb)
  generalize w10.alloc (.cells #[.slice Ae x2.s.length ne, .slice Be x2.c.length me, .int .i64 x2.f, .bool x2.x, .int .i64 x2.b.n, .int .u64 x2.b.c, .int .u64 x2.b.b, .int .u64 x2.b.o, .int .u64 x2.b.p, .bool x2.b.i, .bool x2.b.r, .bool x2.b.d, .int .u32 x2.m] 34) = w11 at *
  clear hb
  have kXx := Xx.out.cell
  go_wp2_with fail
  refine (k_read Ae Be ne me _ Me.out).mono ?_
  rintro e w12 ⟨rfl, hb⟩
  clear kXx
  replace HG := Lib.hid (HG.out.up hb)
  replace M0 := Lib.hid (M0.out.up hb)
  replace Ma := Lib.hid (Ma.out.up hb)
  replace Xs := Lib.hid (Xs.out.below hb)
  replace Mb := Lib.hid (Mb.out.up hb)
  replace Xm := Lib.hid (Xm.out.below hb)
  replace Mc := Lib.hid (Mc.out.up hb)
  replace Xp := Lib.hid (Xp.out.below hb)
  replace Md := Lib.hid (Md.out.up hb)
  replace Me := Lib.hid (Me.out.up hb)
  replace Xx := Lib.hid (Xx.out.below hb)
  replace HB := Lib.hid (ext HB.out hb)
  clear hb
  have kXp := Xp.out.cell
  go_wp2_with fail
  refine (k_wipe Ac Bc nc mc _ Mc.out).mono ?_
  rintro e w13 ⟨Af, nf, Bf, mf, rfl, hm, hb⟩
  clear kXp
  replace HG := Lib.hid (HG.out.up hb)
  replace M0 := Lib.hid (M0.out.up hb)
  replace Ma := Lib.hid (Ma.out.up hb)
  replace Xs := Lib.hid (Xs.out.below hb)
  replace Mb := Lib.hid (Mb.out.up hb)
  replace Xm := Lib.hid (Xm.out.below hb)
  replace Mc := Lib.hid (Mc.out.up hb)
  replace Xp := Lib.hid (Xp.out.below hb)
  replace Md := Lib.hid (Md.out.up hb)
  replace Me := Lib.hid (Me.out.up hb)
  replace Xx := Lib.hid (Xx.out.below hb)
  replace HB := Lib.hid (ext HB.out hb)
  have Mf := Lib.hid hm
  clear hb hm
  go_upto_region 7 with fail
  have hb : Below w13.heap.size w13 (w13.alloc (.cells ([.slice Af x4.s.length nf, .slice Bf x4.c.length mf, .int .i64 x4.f, .bool x4.x, .int .i64 x4.b.n, .int .u64 x4.b.c, .int .u64 x4.b.b, .int .u64 x4.b.o, .int .u64 x4.b.p, .bool x4.b.i, .bool x4.b.r, .bool x4.b.d, .int .u32 x4.m] : List Value).toArray 34)) := below1
  have Xw := Lib.hid (Box.new w13 [.slice Af x4.s.length nf, .slice Bf x4.c.length mf, .int .i64 x4.f, .bool x4.x, .int .i64 x4.b.n, .int .u64 x4.b.c, .int .u64 x4.b.b, .int .u64 x4.b.o, .int .u64 x4.b.p, .bool x4.b.i, .bool x4.b.r, .bool x4.b.d, .int .u32 x4.m] 34)
  replace HG := Lib.hid (HG.out.up hb)
  replace M0 := Lib.hid (M0.out.up hb)
  replace Ma := Lib.hid (Ma.out.up hb)
  replace Xs := Lib.hid (Xs.out.below hb)
  replace Mb := Lib.hid (Mb.out.up hb)
  replace Xm := Lib.hid (Xm.out.below hb)
  replace Mc := Lib.hid (Mc.out.up hb)
  replace Xp := Lib.hid (Xp.out.below hb)
  replace Md := Lib.hid (Md.out.up hb)
  replace Me := Lib.hid (Me.out.up hb)
  replace Xx := Lib.hid (Xx.out.below hb)
  replace Mf := Lib.hid (Mf.out.up hb)
  replace HB := Lib.hid (ext HB.out hb)
  generalize w13.alloc (.cells #[.slice Af x4.s.length nf, .slice Bf x4.c.length mf, .int .i64 x4.f, .bool x4.x, .int .i64 x4.b.n, .int .u64 x4.b.c, .int .u64 x4.b.b, .int .u64 x4.b.o, .int .u64 x4.b.p, .bool x4.b.i, .bool x4.b.r, .bool x4.b.d, .int .u32 x4.m] 34) = w14 at *
  clear hb
  have kXw := Xw.out.cell
  go_wp2_with fail
  refine (k_commit Af Bf nf mf _ Mf.out).mono ?_
  rintro e w15 ⟨Ag, ng, Bg, mg, rfl, hm, hb⟩
  clear kXw
  replace HG := Lib.hid (HG.out.up hb)
  replace M0 := Lib.hid (M0.out.up hb)
  replace Ma := Lib.hid (Ma.out.up hb)
  replace Xs := Lib.hid (Xs.out.below hb)
  replace Mb := Lib.hid (Mb.out.up hb)
  replace Xm := Lib.hid (Xm.out.below hb)
  replace Mc := Lib.hid (Mc.out.up hb)
  replace Xp := Lib.hid (Xp.out.below hb)
  replace Md := Lib.hid (Md.out.up hb)
  replace Me := Lib.hid (Me.out.up hb)
  replace Xx := Lib.hid (Xx.out.below hb)
  replace Mf := Lib.hid (Mf.out.up hb)
  replace Xw := Lib.hid (Xw.out.below hb)
  replace HB := Lib.hid (ext HB.out hb)
  have Mg := Lib.hid hm
  clear hb hm
  go_upto_region 8 with fail
  have hb : Below w15.heap.size w15 (w15.alloc (.cells ([.slice Ag x5.s.length ng, .slice Bg x5.c.length mg, .int .i64 x5.f, .bool x5.x, .int .i64 x5.b.n, .int .u64 x5.b.c, .int .u64 x5.b.b, .int .u64 x5.b.o, .int .u64 x5.b.p, .bool x5.b.i, .bool x5.b.r, .bool x5.b.d, .int .u32 x5.m] : List Value).toArray 34)) := below1
  have Xc := Lib.hid (Box.new w15 [.slice Ag x5.s.length ng, .slice Bg x5.c.length mg, .int .i64 x5.f, .bool x5.x, .int .i64 x5.b.n, .int .u64 x5.b.c, .int .u64 x5.b.b, .int .u64 x5.b.o, .int .u64 x5.b.p, .bool x5.b.i, .bool x5.b.r, .bool x5.b.d, .int .u32 x5.m] 34)
  replace HG := Lib.hid (HG.out.up hb)
  replace M0 := Lib.hid (M0.out.up hb)
  replace Ma := Lib.hid (Ma.out.up hb)
  replace Xs := Lib.hid (Xs.out.below hb)
  replace Mb := Lib.hid (Mb.out.up hb)
  replace Xm := Lib.hid (Xm.out.below hb)
  replace Mc := Lib.hid (Mc.out.up hb)
  replace Xp := Lib.hid (Xp.out.below hb)
  replace Md := Lib.hid (Md.out.up hb)
  replace Me := Lib.hid (Me.out.up hb)
  replace Xx := Lib.hid (Xx.out.below hb)
  replace Mf := Lib.hid (Mf.out.up hb)
  replace Xw := Lib.hid (Xw.out.below hb)
  replace Mg := Lib.hid (Mg.out.up hb)
  replace HB := Lib.hid (ext HB.out hb)
  generalize w15.alloc (.cells #[.slice Ag x5.s.length ng, .slice Bg x5.c.length mg, .int .i64 x5.f, .bool x5.x, .int .i64 x5.b.n, .int .u64 x5.b.c, .int .u64 x5.b.b, .int .u64 x5.b.o, .int .u64 x5.b.p, .bool x5.b.i, .bool x5.b.r, .bool x5.b.d, .int .u32 x5.m] 34) = w16 at *
  clear hb
  have M3 := Lib.hid (mem_three w16)
  have hb : Below w16.heap.size w16 (w16.alloc (.cells ([.string e0, .string e0, .string e0] : List Value).toArray 9)) := below1
  have HG2 := Lib.hid (HG.out.up hb)
  go_wp2_with fail
  refine (k_bad _ _ _ _ _ M3.out _ HG2.out).mono ?_
  rintro e w17 ⟨Ah, nh, Bh, mh, rfl, hm, hb2⟩
  replace hb := ext hb hb2
  clear hb2 HG2 M3 hm
  replace HG := Lib.hid (HG.out.up hb)
  replace M0 := Lib.hid (M0.out.up hb)
  replace Ma := Lib.hid (Ma.out.up hb)
  replace Xs := Lib.hid (Xs.out.below hb)
  replace Mb := Lib.hid (Mb.out.up hb)
  replace Xm := Lib.hid (Xm.out.below hb)
  replace Mc := Lib.hid (Mc.out.up hb)
  replace Xp := Lib.hid (Xp.out.below hb)
  replace Md := Lib.hid (Md.out.up hb)
  replace Me := Lib.hid (Me.out.up hb)
  replace Xx := Lib.hid (Xx.out.below hb)
  replace Mf := Lib.hid (Mf.out.up hb)
  replace Xw := Lib.hid (Xw.out.below hb)
  replace Mg := Lib.hid (Mg.out.up hb)
  replace Xc := Lib.hid (Xc.out.below hb)
  replace HB := Lib.hid (ext HB.out hb)
  clear hb
  go_upto_region 9 with fail
  have hb : Below w17.heap.size w17 (w17.alloc (.cells ([.slice Ah Sto.zero.s.length nh, .slice Bh Sto.zero.c.length mh, .int .i64 Sto.zero.f, .bool Sto.zero.x, .int .i64 Sto.zero.b.n, .int .u64 Sto.zero.b.c, .int .u64 Sto.zero.b.b, .int .u64 Sto.zero.b.o, .int .u64 Sto.zero.b.p, .bool Sto.zero.b.i, .bool Sto.zero.b.r, .bool Sto.zero.b.d, .int .u32 Sto.zero.m] : List Value).toArray 34)) := below1
  have Xl := Lib.hid (Box.new w17 [.slice Ah Sto.zero.s.length nh, .slice Bh Sto.zero.c.length mh, .int .i64 Sto.zero.f, .bool Sto.zero.x, .int .i64 Sto.zero.b.n, .int .u64 Sto.zero.b.c, .int .u64 Sto.zero.b.b, .int .u64 Sto.zero.b.o, .int .u64 Sto.zero.b.p, .bool Sto.zero.b.i, .bool Sto.zero.b.r, .bool Sto.zero.b.d, .int .u32 Sto.zero.m] 34)
  replace HG := Lib.hid (HG.out.up hb)
  replace M0 := Lib.hid (M0.out.up hb)
  replace Ma := Lib.hid (Ma.out.up hb)
  replace Xs := Lib.hid (Xs.out.below hb)
  replace Mb := Lib.hid (Mb.out.up hb)
  replace Xm := Lib.hid (Xm.out.below hb)
  replace Mc := Lib.hid (Mc.out.up hb)
  replace Xp := Lib.hid (Xp.out.below hb)
  replace Md := Lib.hid (Md.out.up hb)
  replace Me := Lib.hid (Me.out.up hb)
  replace Xx := Lib.hid (Xx.out.below hb)
  replace Mf := Lib.hid (Mf.out.up hb)
  replace Xw := Lib.hid (Xw.out.below hb)
  replace Mg := Lib.hid (Mg.out.up hb)
  replace Xc := Lib.hid (Xc.out.below hb)
  replace HB := Lib.hid (ext HB.out hb)
  generalize w17.alloc (.cells #[.slice Ah Sto.zero.s.length nh, .slice Bh Sto.zero.c.length mh, .int .i64 Sto.zero.f, .bool Sto.zero.x, .int .i64 Sto.zero.b.n, .int .u64 Sto.zero.b.c, .int .u64 Sto.zero.b.b, .int .u64 Sto.zero.b.o, .int .u64 Sto.zero.b.p, .bool Sto.zero.b.i, .bool Sto.zero.b.r, .bool Sto.zero.b.d, .int .u32 Sto.zero.m] 34) = w18 at *
  clear hb
  have kXs := Xs.out.cell
  go_wp2_with fail
  refine (k_mark3 Aa Ba na ma _ Ma.out).mono ?_
  rintro e w19 ⟨Ai, ni, Bi, mi, rfl, hm, hb⟩
  clear kXs
  replace HG := Lib.hid (HG.out.up hb)
  replace M0 := Lib.hid (M0.out.up hb)
  replace Ma := Lib.hid (Ma.out.up hb)
  replace Xs := Lib.hid (Xs.out.below hb)
  replace Mb := Lib.hid (Mb.out.up hb)
  replace Xm := Lib.hid (Xm.out.below hb)
  replace Mc := Lib.hid (Mc.out.up hb)
  replace Xp := Lib.hid (Xp.out.below hb)
  replace Md := Lib.hid (Md.out.up hb)
  replace Me := Lib.hid (Me.out.up hb)
  replace Xx := Lib.hid (Xx.out.below hb)
  replace Mf := Lib.hid (Mf.out.up hb)
  replace Xw := Lib.hid (Xw.out.below hb)
  replace Mg := Lib.hid (Mg.out.up hb)
  replace Xc := Lib.hid (Xc.out.below hb)
  replace Xl := Lib.hid (Xl.out.below hb)
  replace HB := Lib.hid (ext HB.out hb)
  clear hb hm
  go_upto_region 10 with fail
  have hb : Below w19.heap.size w19 (w19.alloc (.cells ([.slice Ai x0.s.length ni, .slice Bi x0.c.length mi, .int .i64 x0.f, .bool x0.x, .int .i64 x0.b.n, .int .u64 x0.b.c, .int .u64 x0.b.b, .int .u64 x0.b.o, .int .u64 x0.b.p, .bool x0.b.i, .bool x0.b.r, .bool x0.b.d, .int .u32 x0.m] : List Value).toArray 34)) := below1
  have Xn := Lib.hid (Box.new w19 [.slice Ai x0.s.length ni, .slice Bi x0.c.length mi, .int .i64 x0.f, .bool x0.x, .int .i64 x0.b.n, .int .u64 x0.b.c, .int .u64 x0.b.b, .int .u64 x0.b.o, .int .u64 x0.b.p, .bool x0.b.i, .bool x0.b.r, .bool x0.b.d, .int .u32 x0.m] 34)
  replace HG := Lib.hid (HG.out.up hb)
  replace M0 := Lib.hid (M0.out.up hb)
  replace Ma := Lib.hid (Ma.out.up hb)
  replace Xs := Lib.hid (Xs.out.below hb)
  replace Mb := Lib.hid (Mb.out.up hb)
  replace Xm := Lib.hid (Xm.out.below hb)
  replace Mc := Lib.hid (Mc.out.up hb)
  replace Xp := Lib.hid (Xp.out.below hb)
  replace Md := Lib.hid (Md.out.up hb)
  replace Me := Lib.hid (Me.out.up hb)
  replace Xx := Lib.hid (Xx.out.below hb)
  replace Mf := Lib.hid (Mf.out.up hb)
  replace Xw := Lib.hid (Xw.out.below hb)
  replace Mg := Lib.hid (Mg.out.up hb)
  replace Xc := Lib.hid (Xc.out.below hb)
  replace Xl := Lib.hid (Xl.out.below hb)
  replace HB := Lib.hid (ext HB.out hb)
  generalize w19.alloc (.cells #[.slice Ai x0.s.length ni, .slice Bi x0.c.length mi, .int .i64 x0.f, .bool x0.x, .int .i64 x0.b.n, .int .u64 x0.b.c, .int .u64 x0.b.b, .int .u64 x0.b.o, .int .u64 x0.b.p, .bool x0.b.i, .bool x0.b.r, .bool x0.b.d, .int .u32 x0.m] 34) = w20 at *
  clear hb
  have kXc := Xc.out.cell
  go_wp2_with fail
  refine (k_join Ag Bg ng mg _ Mg.out).mono ?_
  rintro e w21 ⟨Aj, nj, Bj, mj, rfl, hm, hb⟩
  clear kXc
  replace HG := Lib.hid (HG.out.up hb)
  replace M0 := Lib.hid (M0.out.up hb)
  replace Ma := Lib.hid (Ma.out.up hb)
  replace Xs := Lib.hid (Xs.out.below hb)
  replace Mb := Lib.hid (Mb.out.up hb)
  replace Xm := Lib.hid (Xm.out.below hb)
  replace Mc := Lib.hid (Mc.out.up hb)
  replace Xp := Lib.hid (Xp.out.below hb)
  replace Md := Lib.hid (Md.out.up hb)
  replace Me := Lib.hid (Me.out.up hb)
  replace Xx := Lib.hid (Xx.out.below hb)
  replace Mf := Lib.hid (Mf.out.up hb)
  replace Xw := Lib.hid (Xw.out.below hb)
  replace Mg := Lib.hid (Mg.out.up hb)
  replace Xc := Lib.hid (Xc.out.below hb)
  replace Xl := Lib.hid (Xl.out.below hb)
  replace Xn := Lib.hid (Xn.out.below hb)
  replace HB := Lib.hid (ext HB.out hb)
  have Mj := Lib.hid hm
  clear hb hm
  go_upto_region 11 with fail
  have hb : Below w21.heap.size w21 (w21.alloc (.cells ([.slice Aj x6.s.length nj, .slice Bj x6.c.length mj, .int .i64 x6.f, .bool x6.x, .int .i64 x6.b.n, .int .u64 x6.b.c, .int .u64 x6.b.b, .int .u64 x6.b.o, .int .u64 x6.b.p, .bool x6.b.i, .bool x6.b.r, .bool x6.b.d, .int .u32 x6.m] : List Value).toArray 34)) := below1
  have Xu := Lib.hid (Box.new w21 [.slice Aj x6.s.length nj, .slice Bj x6.c.length mj, .int .i64 x6.f, .bool x6.x, .int .i64 x6.b.n, .int .u64 x6.b.c, .int .u64 x6.b.b, .int .u64 x6.b.o, .int .u64 x6.b.p, .bool x6.b.i, .bool x6.b.r, .bool x6.b.d, .int .u32 x6.m] 34)
  replace HG := Lib.hid (HG.out.up hb)
  replace M0 := Lib.hid (M0.out.up hb)
  replace Ma := Lib.hid (Ma.out.up hb)
  replace Xs := Lib.hid (Xs.out.below hb)
  replace Mb := Lib.hid (Mb.out.up hb)
  replace Xm := Lib.hid (Xm.out.below hb)
  replace Mc := Lib.hid (Mc.out.up hb)
  replace Xp := Lib.hid (Xp.out.below hb)
  replace Md := Lib.hid (Md.out.up hb)
  replace Me := Lib.hid (Me.out.up hb)
  replace Xx := Lib.hid (Xx.out.below hb)
  replace Mf := Lib.hid (Mf.out.up hb)
  replace Xw := Lib.hid (Xw.out.below hb)
  replace Mg := Lib.hid (Mg.out.up hb)
  replace Xc := Lib.hid (Xc.out.below hb)
  replace Xl := Lib.hid (Xl.out.below hb)
  replace Xn := Lib.hid (Xn.out.below hb)
  replace Mj := Lib.hid (Mj.out.up hb)
  replace HB := Lib.hid (ext HB.out hb)
  generalize w21.alloc (.cells #[.slice Aj x6.s.length nj, .slice Bj x6.c.length mj, .int .i64 x6.f, .bool x6.x, .int .i64 x6.b.n, .int .u64 x6.b.c, .int .u64 x6.b.b, .int .u64 x6.b.o, .int .u64 x6.b.p, .bool x6.b.i, .bool x6.b.r, .bool x6.b.d, .int .u32 x6.m] 34) = w22 at *
  clear hb
  have f1 := x2_m
  have f2 := x4_m
  have f3 := x4_c
  have f4 := x5_b
  have f5 := x6_m
  have f6 : x5.c.length = 0 := by rw [x5_c]; rfl
  have kXs := Xs.out.cell
  have kXm := Xm.out.cell
  have kXx := Xx.out.cell
  have kXw := Xw.out.cell
  have kXc := Xc.out.cell
  have kXu := Xu.out.cell
  go_wp2_with fail
  refine (k_same Aa Ba na ma _ Ma.out).mono ?_
  rintro e w23 ⟨rfl, hb⟩
  clear kXs kXm kXx kXw kXc kXu
  replace HG := Lib.hid (HG.out.up hb)
  replace M0 := Lib.hid (M0.out.up hb)
  replace Ma := Lib.hid (Ma.out.up hb)
  replace Xs := Lib.hid (Xs.out.below hb)
  replace Mb := Lib.hid (Mb.out.up hb)
  replace Xm := Lib.hid (Xm.out.below hb)
  replace Mc := Lib.hid (Mc.out.up hb)
  replace Xp := Lib.hid (Xp.out.below hb)
  replace Md := Lib.hid (Md.out.up hb)
  replace Me := Lib.hid (Me.out.up hb)
  replace Xx := Lib.hid (Xx.out.below hb)
  replace Mf := Lib.hid (Mf.out.up hb)
  replace Xw := Lib.hid (Xw.out.below hb)
  replace Mg := Lib.hid (Mg.out.up hb)
  replace Xc := Lib.hid (Xc.out.below hb)
  replace Xl := Lib.hid (Xl.out.below hb)
  replace Xn := Lib.hid (Xn.out.below hb)
  replace Mj := Lib.hid (Mj.out.up hb)
  replace Xu := Lib.hid (Xu.out.below hb)
  replace HB := Lib.hid (ext HB.out hb)
  clear hb
  have kXs := Xs.out.cell
  have kXm := Xm.out.cell
  go_wp2_with fail
  refine (k_other Aa Ba na ma _ Ma.out Ab Bb nb mb Mb.out).mono ?_
  rintro e w24 ⟨rfl, hb⟩
  clear kXs kXm
  replace HG := Lib.hid (HG.out.up hb)
  replace M0 := Lib.hid (M0.out.up hb)
  replace Ma := Lib.hid (Ma.out.up hb)
  replace Xs := Lib.hid (Xs.out.below hb)
  replace Mb := Lib.hid (Mb.out.up hb)
  replace Xm := Lib.hid (Xm.out.below hb)
  replace Mc := Lib.hid (Mc.out.up hb)
  replace Xp := Lib.hid (Xp.out.below hb)
  replace Md := Lib.hid (Md.out.up hb)
  replace Me := Lib.hid (Me.out.up hb)
  replace Xx := Lib.hid (Xx.out.below hb)
  replace Mf := Lib.hid (Mf.out.up hb)
  replace Xw := Lib.hid (Xw.out.below hb)
  replace Mg := Lib.hid (Mg.out.up hb)
  replace Xc := Lib.hid (Xc.out.below hb)
  replace Xl := Lib.hid (Xl.out.below hb)
  replace Xn := Lib.hid (Xn.out.below hb)
  replace Mj := Lib.hid (Mj.out.up hb)
  replace Xu := Lib.hid (Xu.out.below hb)
  replace HB := Lib.hid (ext HB.out hb)
  clear hb
  go_wp2_with fail
  go_ret
  exact ⟨ret_bool (by simp), HB.out⟩

end Go.Proofs.YtjkgellkkjjnbaaGreatDoor
