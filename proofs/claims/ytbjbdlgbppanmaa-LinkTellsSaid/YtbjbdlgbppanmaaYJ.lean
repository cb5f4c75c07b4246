/- Links: the latter half of LinkTells' walk. Under: lists of up to a hundred texts. -/
import Derived.Test.YtbjbdlgbppanmaaYI
namespace Go.Proofs.Ytbjbdlgbppanmaa
open Go.RowKit

theorem Held.knows {W0 w : World} {L : List (Nat × List Value)} {b : Nat} {vs : List Value} (h : Held W0 L [] w) (hx : Box w b vs) : Held W0 ((b, vs) :: L) [] w := ⟨h.below, Boxs.cons hx h.boxs, by simp, by simp, by simp⟩
theorem Held.anew {W0 w : World} {L : List (Nat × List Value)} (h : Held W0 L [] w) : Held w L [] w := ⟨Below.refl _ _, h.boxs, by simp, by simp, by simp⟩
theorem rksame_self (x : Lnk) (A B : Option Addr) (n m : Nat) (C D : Option Addr) (k l : Nat) (w : World) (hl : x.a.length ≤ 100000) (hl2 : x.b.length ≤ 100000) (hx : Lk w x A n B m) (hy : Lk w x C k D l) : Calls Try.prog 12 #[lkV x A n B m, lkV x C k D l] w fun e w' => e = .returned (.bool true) ∧ Below w.heap.size w w' := by
  have := rksameG_any x A B n m x C D k l w hx hy hl hl2
  rw [x.same_self] at this
  exact this

/-- The code behind the fourth part. -/
def rest5 : Option Code → Code
  | some (.seq _ (.seq _ (.seq _ (.seq _ c)))) => c
  | _ => .ret

set_option maxRecDepth 100000 in
set_option maxHeartbeats 16000000 in
theorem ktells_rest (u : Bool) (s : Int) (a b : List ByteArray) (A B : Option Addr) (n m : Nat) (u2 : Bool) (s2 : Int) (a2 b2 : List ByteArray) (A2 B2 : Option Addr) (n2 m2 : Nat) (g : Int) (w : World) (R1 : Option Addr) (r1 : Nat) (R2 : Option Addr) (r2 : Nat) (yo e1 e2 : Nat) (w5 : World) (h5 : Held w [(yo, [.bool u, .int .u64 s, .slice R1 a.length r1, .slice R2 b.length r2]), (w.heap.size + 1, [.bool u2, .int .u64 s2, .slice A2 a2.length n2, .slice B2 b2.length m2]), (w.heap.size, [.bool u, .int .u64 s, .slice A a.length n, .slice B b.length m])] [] w5) (hko : Lk w5 ⟨u, s, a, b⟩ R1 r1 R2 r2) (hkl : Lk w5 ⟨u, s, a, b⟩ A n B m) (hkz : Lk w5 ⟨u2, s2, a2, b2⟩ A2 n2 B2 m2) (mu yu : Bool) (ms ys er : Int) (ma mb ya yb : List ByteArray) (f1 : ByteArray) (ok ii sm : Bool) (hma : ma.length ≤ 100000) (hmb : mb.length ≤ 100000) (hya : ya.length ≤ 100000) (hyb : yb.length ≤ 100000) (hxa : a.length ≤ 100000) (hxb : b.length ≤ 100000)
    (tk : ∀ (A1 : Option Addr) (n1 : Nat) (B1 : Option Addr) (m1 : Nat) (w : World), Lk w ⟨u, s, a, b⟩ A1 n1 B1 m1 → Calls Try.prog 8 #[.agg #[.bool u, .int .u64 s, .slice A1 a.length n1, .slice B1 b.length m1], .int .i64 g] w (GivesK ⟨mu, ms, ma, mb⟩ (fun v => .tuple #[.string f1, v, .bool ok]) w))
    (sd : ∀ (A1 : Option Addr) (n1 : Nat) (B1 : Option Addr) (m1 : Nat) (Q : Option Addr) (w : World), Lk w ⟨u, s, a, b⟩ A1 n1 B1 m1 → Es Value.string w w.heap.size Q [⟨#[112]⟩, ⟨#[113]⟩] → Calls Try.prog 10 #[.agg #[.bool u, .int .u64 s, .slice A1 a.length n1, .slice B1 b.length m1], .int .i64 g, .slice Q 2 2] w (GivesK ⟨yu, ys, ya, yb⟩ (fun v => .tuple #[v, .int .i64 er]) w))
    (op : ∀ (A1 : Option Addr) (n1 : Nat) (B1 : Option Addr) (m1 : Nat) (w : World), Lk w ⟨u, s, a, b⟩ A1 n1 B1 m1 → Calls Try.prog 13 #[.agg #[.bool u, .int .u64 s, .slice A1 a.length n1, .slice B1 b.length m1]] w (GivesK ⟨true, nextS s, [], []⟩ id w))
    (cs : ∀ (A1 : Option Addr) (n1 : Nat) (B1 : Option Addr) (m1 : Nat) (w : World), Lk w ⟨u, s, a, b⟩ A1 n1 B1 m1 → Calls Try.prog 15 #[.agg #[.bool u, .int .u64 s, .slice A1 a.length n1, .slice B1 b.length m1]] w (GivesK ⟨false, s, [], []⟩ id w))
    (il : ∀ (A1 : Option Addr) (n1 : Nat) (B1 : Option Addr) (m1 : Nat) (w : World), Lk w ⟨u, s, a, b⟩ A1 n1 B1 m1 → Calls Try.prog 17 #[.agg #[.bool u, .int .u64 s, .slice A1 a.length n1, .slice B1 b.length m1]] w fun e w' => e = .returned (.bool ii) ∧ Below w.heap.size w w')
    (sa : ∀ (w : World), Lk w ⟨u, s, a, b⟩ A n B m → Lk w ⟨u2, s2, a2, b2⟩ A2 n2 B2 m2 → Calls Try.prog 19 #[.agg #[.bool u, .int .u64 s, .slice A a.length n, .slice B b.length m], .agg #[.bool u2, .int .u64 s2, .slice A2 a2.length n2, .slice B2 b2.length m2]] w fun e w' => e = .returned (.bool sm) ∧ Below w.heap.size w w')
    (rtk : ∀ (A1 : Option Addr) (n1 : Nat) (B1 : Option Addr) (m1 : Nat) (w : World), Lk w ⟨u, s, a, b⟩ A1 n1 B1 m1 → Calls Try.prog 9 #[.agg #[.bool u, .int .u64 s, .slice A1 a.length n1, .slice B1 b.length m1], .int .i64 g] w (GivesK ⟨mu, ms, ma, mb⟩ (fun v => .tuple #[.string f1, v, .bool ok]) w))
    (rsd : ∀ (A1 : Option Addr) (n1 : Nat) (B1 : Option Addr) (m1 : Nat) (Q : Option Addr) (w : World), Lk w ⟨u, s, a, b⟩ A1 n1 B1 m1 → Es Value.string w w.heap.size Q [⟨#[112]⟩, ⟨#[113]⟩] → Calls Try.prog 11 #[.agg #[.bool u, .int .u64 s, .slice A1 a.length n1, .slice B1 b.length m1], .int .i64 g, .slice Q 2 2] w (GivesK ⟨yu, ys, ya, yb⟩ (fun v => .tuple #[v, .int .i64 er]) w))
    (rop : ∀ (A1 : Option Addr) (n1 : Nat) (B1 : Option Addr) (m1 : Nat) (w : World), Lk w ⟨u, s, a, b⟩ A1 n1 B1 m1 → Calls Try.prog 14 #[.agg #[.bool u, .int .u64 s, .slice A1 a.length n1, .slice B1 b.length m1]] w (GivesK ⟨true, nextS s, [], []⟩ id w))
    (rcs : ∀ (A1 : Option Addr) (n1 : Nat) (B1 : Option Addr) (m1 : Nat) (w : World), Lk w ⟨u, s, a, b⟩ A1 n1 B1 m1 → Calls Try.prog 16 #[.agg #[.bool u, .int .u64 s, .slice A1 a.length n1, .slice B1 b.length m1]] w (GivesK ⟨false, s, [], []⟩ id w))
    (ril : ∀ (A1 : Option Addr) (n1 : Nat) (B1 : Option Addr) (m1 : Nat) (w : World), Lk w ⟨u, s, a, b⟩ A1 n1 B1 m1 → Calls Try.prog 18 #[.agg #[.bool u, .int .u64 s, .slice A1 a.length n1, .slice B1 b.length m1]] w fun e w' => e = .returned (.bool ii) ∧ Below w.heap.size w w')
    (rsa : ∀ (w : World), Lk w ⟨u, s, a, b⟩ A n B m → Lk w ⟨u2, s2, a2, b2⟩ A2 n2 B2 m2 → Calls Try.prog 12 #[.agg #[.bool u, .int .u64 s, .slice A a.length n, .slice B b.length m], .agg #[.bool u2, .int .u64 s2, .slice A2 a2.length n2, .slice B2 b2.length m2]] w fun e w' => e = .returned (.bool sm) ∧ Below w.heap.size w w') :
    Code.wp Try.prog (rest5 Try.f3.body) (bodyPost Try.prog Try.f3 (Yes w)) { tmps := #[.agg #[.bool u, .int .u64 s, .slice A a.length n, .slice B b.length m], .agg #[.bool u2, .int .u64 s2, .slice A2 a2.length n2, .slice B2 b2.length m2], .int .i64 g, .pointer (some ⟨w.heap.size, 0, none⟩), .pointer (some ⟨w.heap.size + 1, 0, none⟩), undef, .bool false, .pointer (some ⟨yo, 0, none⟩), undef, undef, undef, undef, undef, undef, undef, undef, undef, undef, .bool true, .bool false, .agg #[.bool u, .int .u64 s, .slice A a.length n, .slice B b.length m], .bool false, .bool false, .agg #[.bool u2, .int .u64 s2, .slice A2 a2.length n2, .slice B2 b2.length m2], .bool false, .bool false, .pointer (some ⟨w.heap.size, 0, none⟩), .bool u, .pointer (some ⟨w.heap.size, 1, none⟩), .int .u64 s, .slice (some ⟨e1, 0, none⟩) 0 0, .pointer (some ⟨w.heap.size, 2, none⟩), .pointer (some ⟨w.heap.size, 2, none⟩), .slice A a.length n, .slice R1 a.length r1, .slice (some ⟨e2, 0, none⟩) 0 0, .pointer (some ⟨w.heap.size, 2, none⟩), .pointer (some ⟨w.heap.size, 3, none⟩), .slice B b.length m, .slice R2 b.length r2, .agg #[.slice R1 a.length r1, .slice R2 b.length r2], .agg #[.bool u, .int .u64 s, .slice R1 a.length r1, .slice R2 b.length r2], undef, undef, undef, undef, undef, undef, undef, undef, undef, undef, undef, undef, undef, undef, undef, undef, undef, undef, undef, undef, undef, undef, undef, undef, undef, undef, undef, undef, undef, undef, undef, undef, undef, undef, undef, undef, undef, undef, undef, undef, undef, undef, undef, undef, undef, undef, undef, undef, undef, undef, undef, undef, undef, undef, undef, undef, undef, undef, undef, undef, undef, undef, undef, undef, undef, undef, undef, undef, undef, undef, undef, undef, undef, undef, undef, undef, undef, undef, undef, undef, undef, undef, undef, undef, undef, undef], defers := [] } w5 := by
  have Wtk := Lib.hid tk; clear tk
  have Wsd := Lib.hid sd; clear sd
  have Wop := Lib.hid op; clear op
  have Wcs := Lib.hid cs; clear cs
  have Wil := Lib.hid il; clear il
  have Wsa := Lib.hid sa; clear sa
  have Wrtk := Lib.hid rtk; clear rtk
  have Wrsd := Lib.hid rsd; clear rsd
  have Wrop := Lib.hid rop; clear rop
  have Wrcs := Lib.hid rcs; clear rcs
  have Wril := Lib.hid ril; clear ril
  have Wrsa := Lib.hid rsa; clear rsa
  have Bhma := Lib.hid hma; clear hma
  have Bhmb := Lib.hid hmb; clear hmb
  have Bhya := Lib.hid hya; clear hya
  have Bhyb := Lib.hid hyb; clear hyb
  have Bhxa := Lib.hid hxa; clear hxa
  have Bhxb := Lib.hid hxb; clear hxb
  have H5 := Lib.hid h5
  have KO := Lib.hid hko
  have KL := Lib.hid hkl
  have KZ := Lib.hid hkz
  clear h5 hko hkl hkz
  dsimp only [rest5, Try.f3]
  have k0 := H5.out.boxs.hd.cell
  have k1 := H5.out.boxs.tl.hd.cell
  have k2 := H5.out.boxs.tl.tl.hd.cell
  go_wp2_with fail
  refine (Wtk.out _ _ _ _ _ KO.out).mono ?_
  rintro e w6 ⟨A6, n6, B6, m6, rfl, hk, hb⟩
  clear k0 k1 k2
  have H6 := Lib.hid (((H5.out).up hb).lay [.bool mu, .int .u64 ms, .slice A6 ma.length n6, .slice B6 mb.length m6] 26)
  replace KO := Lib.hid (((KO.out).up hb).alloc (.cells ([.bool mu, .int .u64 ms, .slice A6 ma.length n6, .slice B6 mb.length m6] : List Value).toArray 26))
  replace KL := Lib.hid (((KL.out).up hb).alloc (.cells ([.bool mu, .int .u64 ms, .slice A6 ma.length n6, .slice B6 mb.length m6] : List Value).toArray 26))
  replace KZ := Lib.hid (((KZ.out).up hb).alloc (.cells ([.bool mu, .int .u64 ms, .slice A6 ma.length n6, .slice B6 mb.length m6] : List Value).toArray 26))
  have KM := Lib.hid (hk.alloc (.cells ([.bool mu, .int .u64 ms, .slice A6 ma.length n6, .slice B6 mb.length m6] : List Value).toArray 26))
  clear hb hk
  have k0 := H6.out.boxs.hd.cell
  have k1 := H6.out.boxs.tl.hd.cell
  have k2 := H6.out.boxs.tl.tl.hd.cell
  have k3 := H6.out.boxs.tl.tl.tl.hd.cell
  go_wp2_with fail
  refine (Wrtk.out _ _ _ _ _ KL.out).mono ?_
  rintro e w7 ⟨A7, n7, B7, m7, rfl, hk, hb⟩
  clear k0 k1 k2 k3
  have H7 := Lib.hid (((H6.out).up hb).lay [.bool mu, .int .u64 ms, .slice A7 ma.length n7, .slice B7 mb.length m7] 26)
  replace KO := Lib.hid (((KO.out).up hb).alloc (.cells ([.bool mu, .int .u64 ms, .slice A7 ma.length n7, .slice B7 mb.length m7] : List Value).toArray 26))
  replace KL := Lib.hid (((KL.out).up hb).alloc (.cells ([.bool mu, .int .u64 ms, .slice A7 ma.length n7, .slice B7 mb.length m7] : List Value).toArray 26))
  replace KZ := Lib.hid (((KZ.out).up hb).alloc (.cells ([.bool mu, .int .u64 ms, .slice A7 ma.length n7, .slice B7 mb.length m7] : List Value).toArray 26))
  replace KM := Lib.hid (((KM.out).up hb).alloc (.cells ([.bool mu, .int .u64 ms, .slice A7 ma.length n7, .slice B7 mb.length m7] : List Value).toArray 26))
  have KN := Lib.hid (hk.alloc (.cells ([.bool mu, .int .u64 ms, .slice A7 ma.length n7, .slice B7 mb.length m7] : List Value).toArray 26))
  clear hb hk
  have k0 := H7.out.boxs.hd.cell
  have k1 := H7.out.boxs.tl.hd.cell
  have k2 := H7.out.boxs.tl.tl.hd.cell
  have k3 := H7.out.boxs.tl.tl.tl.hd.cell
  have k4 := H7.out.boxs.tl.tl.tl.tl.hd.cell
  go_wp2_with fail
  refine (Wsd.out _ _ _ _ _ _ (KO.out.alloc (.cells #[.string ⟨#[112]⟩, .string ⟨#[113]⟩] 9)) (es_two2 _ _ ⟨#[112]⟩ ⟨#[113]⟩ 9)).mono ?_
  rintro e w8 ⟨A8, n8, B8, m8, rfl, hk, hb⟩
  clear k0 k1 k2 k3 k4
  have H8 := Lib.hid (((H7.out.alloc (.cells #[.string ⟨#[112]⟩, .string ⟨#[113]⟩] 9)).up hb).lay [.bool yu, .int .u64 ys, .slice A8 ya.length n8, .slice B8 yb.length m8] 26)
  replace KO := Lib.hid (((KO.out.alloc (.cells #[.string ⟨#[112]⟩, .string ⟨#[113]⟩] 9)).up hb).alloc (.cells ([.bool yu, .int .u64 ys, .slice A8 ya.length n8, .slice B8 yb.length m8] : List Value).toArray 26))
  replace KL := Lib.hid (((KL.out.alloc (.cells #[.string ⟨#[112]⟩, .string ⟨#[113]⟩] 9)).up hb).alloc (.cells ([.bool yu, .int .u64 ys, .slice A8 ya.length n8, .slice B8 yb.length m8] : List Value).toArray 26))
  replace KZ := Lib.hid (((KZ.out.alloc (.cells #[.string ⟨#[112]⟩, .string ⟨#[113]⟩] 9)).up hb).alloc (.cells ([.bool yu, .int .u64 ys, .slice A8 ya.length n8, .slice B8 yb.length m8] : List Value).toArray 26))
  replace KM := Lib.hid (((KM.out.alloc (.cells #[.string ⟨#[112]⟩, .string ⟨#[113]⟩] 9)).up hb).alloc (.cells ([.bool yu, .int .u64 ys, .slice A8 ya.length n8, .slice B8 yb.length m8] : List Value).toArray 26))
  replace KN := Lib.hid (((KN.out.alloc (.cells #[.string ⟨#[112]⟩, .string ⟨#[113]⟩] 9)).up hb).alloc (.cells ([.bool yu, .int .u64 ys, .slice A8 ya.length n8, .slice B8 yb.length m8] : List Value).toArray 26))
  have KX := Lib.hid (hk.alloc (.cells ([.bool yu, .int .u64 ys, .slice A8 ya.length n8, .slice B8 yb.length m8] : List Value).toArray 26))
  clear hb hk
  have k0 := H8.out.boxs.hd.cell
  have k1 := H8.out.boxs.tl.hd.cell
  have k2 := H8.out.boxs.tl.tl.hd.cell
  have k3 := H8.out.boxs.tl.tl.tl.hd.cell
  have k4 := H8.out.boxs.tl.tl.tl.tl.hd.cell
  have k5 := H8.out.boxs.tl.tl.tl.tl.tl.hd.cell
  go_wp2_with fail
  refine (Wrsd.out _ _ _ _ _ _ (KL.out.alloc (.cells #[.string ⟨#[112]⟩, .string ⟨#[113]⟩] 9)) (es_two2 _ _ ⟨#[112]⟩ ⟨#[113]⟩ 9)).mono ?_
  rintro e w9 ⟨A9, n9, B9, m9, rfl, hk, hb⟩
  clear k0 k1 k2 k3 k4 k5
  have H9 := Lib.hid (((H8.out.alloc (.cells #[.string ⟨#[112]⟩, .string ⟨#[113]⟩] 9)).up hb).lay [.bool yu, .int .u64 ys, .slice A9 ya.length n9, .slice B9 yb.length m9] 26)
  replace KO := Lib.hid (((KO.out.alloc (.cells #[.string ⟨#[112]⟩, .string ⟨#[113]⟩] 9)).up hb).alloc (.cells ([.bool yu, .int .u64 ys, .slice A9 ya.length n9, .slice B9 yb.length m9] : List Value).toArray 26))
  replace KL := Lib.hid (((KL.out.alloc (.cells #[.string ⟨#[112]⟩, .string ⟨#[113]⟩] 9)).up hb).alloc (.cells ([.bool yu, .int .u64 ys, .slice A9 ya.length n9, .slice B9 yb.length m9] : List Value).toArray 26))
  replace KZ := Lib.hid (((KZ.out.alloc (.cells #[.string ⟨#[112]⟩, .string ⟨#[113]⟩] 9)).up hb).alloc (.cells ([.bool yu, .int .u64 ys, .slice A9 ya.length n9, .slice B9 yb.length m9] : List Value).toArray 26))
  replace KM := Lib.hid (((KM.out.alloc (.cells #[.string ⟨#[112]⟩, .string ⟨#[113]⟩] 9)).up hb).alloc (.cells ([.bool yu, .int .u64 ys, .slice A9 ya.length n9, .slice B9 yb.length m9] : List Value).toArray 26))
  replace KN := Lib.hid (((KN.out.alloc (.cells #[.string ⟨#[112]⟩, .string ⟨#[113]⟩] 9)).up hb).alloc (.cells ([.bool yu, .int .u64 ys, .slice A9 ya.length n9, .slice B9 yb.length m9] : List Value).toArray 26))
  replace KX := Lib.hid (((KX.out.alloc (.cells #[.string ⟨#[112]⟩, .string ⟨#[113]⟩] 9)).up hb).alloc (.cells ([.bool yu, .int .u64 ys, .slice A9 ya.length n9, .slice B9 yb.length m9] : List Value).toArray 26))
  have KY := Lib.hid (hk.alloc (.cells ([.bool yu, .int .u64 ys, .slice A9 ya.length n9, .slice B9 yb.length m9] : List Value).toArray 26))
  clear hb hk
  have e1 : (f1.toList == f1.toList) = true := beq_self_eq_true _
  have e2 : (ok == ok) = true := beq_self_eq_true _
  have e3 : (er == er) = true := beq_self_eq_true _
  have e4 : (ii == ii) = true := beq_self_eq_true _
  have e5 : (sm == sm) = true := beq_self_eq_true _
  go_wp2_with fail
  refine held_startC2 (S := Held _ _ []) (by kernel_rfl) H9.out.anew.drew (fun v0 hv0 hH0 => ?_)
  clear hv0
  refine wpAnyH_take (i := 0) (v := ?_) rfl (by kernel_rfl) (by kernel_rfl) (by kernel_rfl) (fun _ _ _ h => h) (Or.inl ⟨by rfl, ?_⟩) hH0 ?_
  rotate_left
  · (intro v hSw; go_simp; try with_reducible rfl)
  simp only [Act.put, List.setIfInBounds_toArray, List.set_cons_zero, List.set_cons_succ, List.getElem_toArray, List.getElem_cons_zero]
  refine wpAnyH_take (i := 1) (v := ?_) rfl (by kernel_rfl) (by kernel_rfl) (by kernel_rfl) (fun _ _ _ h => h) (Or.inl ⟨by rfl, ?_⟩) hH0 ?_
  rotate_left
  · (intro v hSw; go_simp; try with_reducible rfl)
  simp only [Act.put, List.setIfInBounds_toArray, List.set_cons_zero, List.set_cons_succ, List.getElem_toArray, List.getElem_cons_zero, List.getElem_cons_succ]
  refine wpAnyH_take (i := 2) (v := ?_) rfl (by kernel_rfl) (by kernel_rfl) (by kernel_rfl) (fun _ _ _ h => h) (Or.inl ⟨by rfl, ?_⟩) hH0 ?_
  rotate_left
  · (intro v hSw; go_simp; try with_reducible rfl)
  simp only [Act.put, List.setIfInBounds_toArray, List.set_cons_zero, List.set_cons_succ, List.getElem_toArray, List.getElem_cons_zero, List.getElem_cons_succ]
  refine wpAnyH_take (i := 3) (v := ?_) rfl (by kernel_rfl) (by kernel_rfl) (by kernel_rfl) (fun _ _ _ h => h) (Or.inl ⟨by rfl, ?_⟩) hH0 ?_
  rotate_left
  · (intro v hSw; go_simp; try with_reducible rfl)
  simp only [Act.put, List.setIfInBounds_toArray, List.set_cons_zero, List.set_cons_succ, List.getElem_toArray, List.getElem_cons_zero, List.getElem_cons_succ]
  refine wpAnyH_take (i := 4) (v := ?_) rfl (by kernel_rfl) (by kernel_rfl) (by kernel_rfl) (fun _ _ _ h => h) (Or.inl ⟨by rfl, ?_⟩) hH0 ?_
  rotate_left
  · (intro v hSw; have k0 := hSw.boxs.tl.tl.tl.hd.cell; go_simp; try with_reducible rfl)
  simp only [Act.put, List.setIfInBounds_toArray, List.set_cons_zero, List.set_cons_succ, List.getElem_toArray, List.getElem_cons_zero, List.getElem_cons_succ]
  refine wpAnyH_take (i := 5) (v := ?_) rfl (by kernel_rfl) (by kernel_rfl) (by kernel_rfl) (fun _ _ _ h => h) (Or.inl ⟨by rfl, ?_⟩) hH0 ?_
  rotate_left
  · (intro v hSw; have k0 := hSw.boxs.tl.tl.hd.cell; go_simp; try with_reducible rfl)
  simp only [Act.put, List.setIfInBounds_toArray, List.set_cons_zero, List.set_cons_succ, List.getElem_toArray, List.getElem_cons_zero, List.getElem_cons_succ]
  refine wpAnyH_ready (rs := [6]) (by kernel_rfl) (by simp) ?_
  refine AllReadyH.cons rfl (fun K hK => ?_) AllReadyH.nil
  go_simp
  refine (rksame_self ⟨mu, ms, ma, mb⟩ _ _ _ _ _ _ _ _ _ Bhma.out Bhmb.out (KM.out.up hH0.below) (KN.out.up hH0.below)).mono ?_
  rintro e v1 ⟨rfl, hb⟩
  go_wp2_with fail
  refine hK.out _ _ (hH0.up hb) (fun hH1 => ?_)
  clear hb hK K hH0
  refine wpAnyH_take (i := 7) (v := ?_) rfl (by kernel_rfl) (by kernel_rfl) (by kernel_rfl) (fun _ _ _ h => h) (Or.inl ⟨by rfl, ?_⟩) hH1 ?_
  rotate_left
  · (intro v hSw; go_simp; try with_reducible rfl)
  simp only [Act.put, List.setIfInBounds_toArray, List.set_cons_zero, List.set_cons_succ, List.getElem_toArray, List.getElem_cons_zero, List.getElem_cons_succ]
  refine wpAnyH_take (i := 8) (v := ?_) rfl (by kernel_rfl) (by kernel_rfl) (by kernel_rfl) (fun _ _ _ h => h) (Or.inl ⟨by rfl, ?_⟩) hH1 ?_
  rotate_left
  · (intro v hSw; go_simp; try with_reducible rfl)
  simp only [Act.put, List.setIfInBounds_toArray, List.set_cons_zero, List.set_cons_succ, List.getElem_toArray, List.getElem_cons_zero, List.getElem_cons_succ]
  refine wpAnyH_take (i := 9) (v := ?_) rfl (by kernel_rfl) (by kernel_rfl) (by kernel_rfl) (fun _ _ _ h => h) (Or.inl ⟨by rfl, ?_⟩) hH1 ?_
  rotate_left
  · (intro v hSw; go_simp; try with_reducible rfl)
  simp only [Act.put, List.setIfInBounds_toArray, List.set_cons_zero, List.set_cons_succ, List.getElem_toArray, List.getElem_cons_zero, List.getElem_cons_succ]
  refine wpAnyH_take (i := 10) (v := ?_) rfl (by kernel_rfl) (by kernel_rfl) (by kernel_rfl) (fun _ _ _ h => h) (Or.inl ⟨by rfl, ?_⟩) hH1 ?_
  rotate_left
  · (intro v hSw; go_simp; try with_reducible rfl)
  simp only [Act.put, List.setIfInBounds_toArray, List.set_cons_zero, List.set_cons_succ, List.getElem_toArray, List.getElem_cons_zero, List.getElem_cons_succ]
  refine wpAnyH_take (i := 11) (v := ?_) rfl (by kernel_rfl) (by kernel_rfl) (by kernel_rfl) (fun _ _ _ h => h) (Or.inl ⟨by rfl, ?_⟩) hH1 ?_
  rotate_left
  · (intro v hSw; go_simp; try with_reducible rfl)
  simp only [Act.put, List.setIfInBounds_toArray, List.set_cons_zero, List.set_cons_succ, List.getElem_toArray, List.getElem_cons_zero, List.getElem_cons_succ]
  refine wpAnyH_take (i := 12) (v := ?_) rfl (by kernel_rfl) (by kernel_rfl) (by kernel_rfl) (fun _ _ _ h => h) (Or.inl ⟨by rfl, ?_⟩) hH1 ?_
  rotate_left
  · (intro v hSw; go_simp; try with_reducible rfl)
  simp only [Act.put, List.setIfInBounds_toArray, List.set_cons_zero, List.set_cons_succ, List.getElem_toArray, List.getElem_cons_zero, List.getElem_cons_succ]
  refine wpAnyH_take (i := 13) (v := ?_) rfl (by kernel_rfl) (by kernel_rfl) (by kernel_rfl) (fun _ _ _ h => h) (Or.inl ⟨by rfl, ?_⟩) hH1 ?_
  rotate_left
  · (intro v hSw; go_simp; try with_reducible rfl)
  simp only [Act.put, List.setIfInBounds_toArray, List.set_cons_zero, List.set_cons_succ, List.getElem_toArray, List.getElem_cons_zero, List.getElem_cons_succ]
  refine wpAnyH_take (i := 14) (v := ?_) rfl (by kernel_rfl) (by kernel_rfl) (by kernel_rfl) (fun _ _ _ h => h) (Or.inl ⟨by rfl, ?_⟩) hH1 ?_
  rotate_left
  · (intro v hSw; have k0 := hSw.boxs.tl.hd.cell; go_simp; try with_reducible rfl)
  simp only [Act.put, List.setIfInBounds_toArray, List.set_cons_zero, List.set_cons_succ, List.getElem_toArray, List.getElem_cons_zero, List.getElem_cons_succ]
  refine wpAnyH_take (i := 15) (v := ?_) rfl (by kernel_rfl) (by kernel_rfl) (by kernel_rfl) (fun _ _ _ h => h) (Or.inl ⟨by rfl, ?_⟩) hH1 ?_
  rotate_left
  · (intro v hSw; have k0 := hSw.boxs.hd.cell; go_simp; try with_reducible rfl)
  simp only [Act.put, List.setIfInBounds_toArray, List.set_cons_zero, List.set_cons_succ, List.getElem_toArray, List.getElem_cons_zero, List.getElem_cons_succ]
  refine wpAnyH_ready (rs := [16]) (by kernel_rfl) (by simp) ?_
  refine AllReadyH.cons rfl (fun K hK => ?_) AllReadyH.nil
  go_simp
  refine (rksame_self ⟨yu, ys, ya, yb⟩ _ _ _ _ _ _ _ _ _ Bhya.out Bhyb.out (KX.out.up hH1.below) (KY.out.up hH1.below)).mono ?_
  rintro e v2 ⟨rfl, hb⟩
  go_wp2_with fail
  refine hK.out _ _ (hH1.up hb) (fun hH2 => ?_)
  clear hb hK K hH1
  refine wpAnyH_take (i := 17) (v := ?_) rfl (by kernel_rfl) (by kernel_rfl) (by kernel_rfl) (fun _ _ _ h => h) (Or.inl ⟨by rfl, ?_⟩) hH2 ?_
  rotate_left
  · (intro v hSw; go_simp; try with_reducible rfl)
  simp only [Act.put, List.setIfInBounds_toArray, List.set_cons_zero, List.set_cons_succ, List.getElem_toArray, List.getElem_cons_zero, List.getElem_cons_succ]
  refine wpAnyH_take (i := 18) (v := ?_) rfl (by kernel_rfl) (by kernel_rfl) (by kernel_rfl) (fun _ _ _ h => h) (Or.inl ⟨by rfl, ?_⟩) hH2 ?_
  rotate_left
  · (intro v hSw; go_simp; try with_reducible rfl)
  simp only [Act.put, List.setIfInBounds_toArray, List.set_cons_zero, List.set_cons_succ, List.getElem_toArray, List.getElem_cons_zero, List.getElem_cons_succ]
  refine wpAnyH_take (i := 19) (v := ?_) rfl (by kernel_rfl) (by kernel_rfl) (by kernel_rfl) (fun _ _ _ h => h) (Or.inl ⟨by rfl, ?_⟩) hH2 ?_
  rotate_left
  · (intro v hSw; go_simp; try with_reducible rfl)
  simp only [Act.put, List.setIfInBounds_toArray, List.set_cons_zero, List.set_cons_succ, List.getElem_toArray, List.getElem_cons_zero, List.getElem_cons_succ]
  refine wpAnyH_take (i := 20) (v := ?_) rfl (by kernel_rfl) (by kernel_rfl) (by kernel_rfl) (fun _ _ _ h => h) (Or.inl ⟨by rfl, ?_⟩) hH2 ?_
  rotate_left
  · (intro v hSw; go_simp; try with_reducible rfl)
  simp only [Act.put, List.setIfInBounds_toArray, List.set_cons_zero, List.set_cons_succ, List.getElem_toArray, List.getElem_cons_zero, List.getElem_cons_succ]
  refine wpAnyH_take (i := 21) (v := ?_) rfl (by kernel_rfl) (by kernel_rfl) (by kernel_rfl) (fun _ _ _ h => h) (Or.inl ⟨by rfl, ?_⟩) hH2 ?_
  rotate_left
  · (intro v hSw; go_simp; try with_reducible rfl)
  simp only [Act.put, List.setIfInBounds_toArray, List.set_cons_zero, List.set_cons_succ, List.getElem_toArray, List.getElem_cons_zero, List.getElem_cons_succ]
  refine wpAnyH_take (i := 22) (v := ?_) rfl (by kernel_rfl) (by kernel_rfl) (by kernel_rfl) (fun _ _ _ h => h) (Or.inl ⟨by rfl, ?_⟩) hH2 ?_
  rotate_left
  · (intro v hSw; go_simp; try with_reducible rfl)
  simp only [Act.put, List.setIfInBounds_toArray, List.set_cons_zero, List.set_cons_succ, List.getElem_toArray, List.getElem_cons_zero, List.getElem_cons_succ]
  refine wpAnyH_take (i := 23) (v := ?_) rfl (by kernel_rfl) (by kernel_rfl) (by kernel_rfl) (fun _ _ _ h => h) (Or.inl ⟨by rfl, ?_⟩) hH2 ?_
  rotate_left
  · (intro v hSw; go_simp; try with_reducible rfl)
  simp only [Act.put, List.setIfInBounds_toArray, List.set_cons_zero, List.set_cons_succ, List.getElem_toArray, List.getElem_cons_zero, List.getElem_cons_succ]
  refine wpAnyH_take (i := 24) (v := ?_) rfl (by kernel_rfl) (by kernel_rfl) (by kernel_rfl) (fun _ _ _ h => h) (Or.inl ⟨by rfl, ?_⟩) hH2 ?_
  rotate_left
  · (intro v hSw; have k0 := hSw.boxs.tl.tl.tl.tl.hd.cell; go_simp; try with_reducible rfl)
  simp only [Act.put, List.setIfInBounds_toArray, List.set_cons_zero, List.set_cons_succ, List.getElem_toArray, List.getElem_cons_zero, List.getElem_cons_succ]
  refine wpAnyH_take (i := 26) (v := ?_) rfl (by kernel_rfl) (by kernel_rfl) (by kernel_rfl) (fun _ _ _ h => h) (Or.inl ⟨by rfl, ?_⟩) hH2 ?_
  rotate_left
  · (intro v hSw; have k0 := hSw.boxs.tl.tl.tl.tl.tl.tl.hd.cell; go_simp; try with_reducible rfl)
  simp only [Act.put, List.setIfInBounds_toArray, List.set_cons_zero, List.set_cons_succ, List.getElem_toArray, List.getElem_cons_zero, List.getElem_cons_succ]
  refine wpAnyH_ready (rs := [25]) (by kernel_rfl) (by simp) ?_
  refine AllReadyH.cons rfl (fun K hK => ?_) AllReadyH.nil
  go_simp
  refine (Wop.out _ _ _ _ _ (KO.out.up hH2.below)).mono ?_
  rintro e v3 ⟨A95, n95, B95, m95, rfl, hk, hb⟩
  have KA := Lib.hid hk
  go_wp2_with fail
  refine hK.out _ _ (hH2.up hb) (fun hH3 => ?_)
  clear hb hk hK K hH2
  refine wpAnyH_ready (rs := [27]) (by kernel_rfl) (by simp) ?_
  refine AllReadyH.cons rfl (fun K hK => ?_) AllReadyH.nil
  go_simp
  refine (Wrop.out _ _ _ _ _ (KL.out.up hH3.below)).mono ?_
  rintro e v4 ⟨A97, n97, B97, m97, rfl, hk, hb⟩
  have KC := Lib.hid hk
  replace KA := Lib.hid (KA.out.up hb)
  go_wp2_with fail
  refine hK.out _ _ (hH3.up hb) (fun hH4 => ?_)
  clear hb hk hK K hH3
  refine wpAnyH_ready (rs := [28]) (by kernel_rfl) (by simp) ?_
  refine AllReadyH.cons rfl (fun K hK => ?_) AllReadyH.nil
  go_simp
  refine (rksame_self ⟨true, nextS s, [], []⟩ _ _ _ _ _ _ _ _ _ (Nat.zero_le _) (Nat.zero_le _) KA.out KC.out).mono ?_
  rintro e v5 ⟨rfl, hb⟩
  go_wp2_with fail
  refine hK.out _ _ (hH4.up hb) (fun hH5 => ?_)
  clear hb hK K hH4 KA KC
  refine wpAnyH_take (i := 29) (v := ?_) rfl (by kernel_rfl) (by kernel_rfl) (by kernel_rfl) (fun _ _ _ h => h) (Or.inl ⟨by rfl, ?_⟩) hH5 ?_
  rotate_left
  · (intro v hSw; go_simp; try with_reducible rfl)
  simp only [Act.put, List.setIfInBounds_toArray, List.set_cons_zero, List.set_cons_succ, List.getElem_toArray, List.getElem_cons_zero, List.getElem_cons_succ]
  refine wpAnyH_take (i := 30) (v := ?_) rfl (by kernel_rfl) (by kernel_rfl) (by kernel_rfl) (fun _ _ _ h => h) (Or.inl ⟨by rfl, ?_⟩) hH5 ?_
  rotate_left
  · (intro v hSw; go_simp; try with_reducible rfl)
  simp only [Act.put, List.setIfInBounds_toArray, List.set_cons_zero, List.set_cons_succ, List.getElem_toArray, List.getElem_cons_zero, List.getElem_cons_succ]
  refine wpAnyH_take (i := 31) (v := ?_) rfl (by kernel_rfl) (by kernel_rfl) (by kernel_rfl) (fun _ _ _ h => h) (Or.inl ⟨by rfl, ?_⟩) hH5 ?_
  rotate_left
  · (intro v hSw; have k0 := hSw.boxs.tl.tl.tl.tl.hd.cell; go_simp; try with_reducible rfl)
  simp only [Act.put, List.setIfInBounds_toArray, List.set_cons_zero, List.set_cons_succ, List.getElem_toArray, List.getElem_cons_zero, List.getElem_cons_succ]
  refine wpAnyH_take (i := 33) (v := ?_) rfl (by kernel_rfl) (by kernel_rfl) (by kernel_rfl) (fun _ _ _ h => h) (Or.inl ⟨by rfl, ?_⟩) hH5 ?_
  rotate_left
  · (intro v hSw; have k0 := hSw.boxs.tl.tl.tl.tl.tl.tl.hd.cell; go_simp; try with_reducible rfl)
  simp only [Act.put, List.setIfInBounds_toArray, List.set_cons_zero, List.set_cons_succ, List.getElem_toArray, List.getElem_cons_zero, List.getElem_cons_succ]
  refine wpAnyH_ready (rs := [32]) (by kernel_rfl) (by simp) ?_
  refine AllReadyH.cons rfl (fun K hK => ?_) AllReadyH.nil
  go_simp
  refine (Wcs.out _ _ _ _ _ (KO.out.up hH5.below)).mono ?_
  rintro e v6 ⟨A102, n102, B102, m102, rfl, hk, hb⟩
  have KA := Lib.hid hk
  go_wp2_with fail
  refine hK.out _ _ (hH5.up hb) (fun hH6 => ?_)
  clear hb hk hK K hH5
  refine wpAnyH_ready (rs := [34]) (by kernel_rfl) (by simp) ?_
  refine AllReadyH.cons rfl (fun K hK => ?_) AllReadyH.nil
  go_simp
  refine (Wrcs.out _ _ _ _ _ (KL.out.up hH6.below)).mono ?_
  rintro e v7 ⟨A104, n104, B104, m104, rfl, hk, hb⟩
  have KC := Lib.hid hk
  replace KA := Lib.hid (KA.out.up hb)
  go_wp2_with fail
  refine hK.out _ _ (hH6.up hb) (fun hH7 => ?_)
  clear hb hk hK K hH6
  refine wpAnyH_ready (rs := [35]) (by kernel_rfl) (by simp) ?_
  refine AllReadyH.cons rfl (fun K hK => ?_) AllReadyH.nil
  go_simp
  refine (rksame_self ⟨false, s, [], []⟩ _ _ _ _ _ _ _ _ _ (Nat.zero_le _) (Nat.zero_le _) KA.out KC.out).mono ?_
  rintro e v8 ⟨rfl, hb⟩
  go_wp2_with fail
  refine hK.out _ _ (hH7.up hb) (fun hH8 => ?_)
  clear hb hK K hH7 KA KC
  refine wpAnyH_take (i := 36) (v := ?_) rfl (by kernel_rfl) (by kernel_rfl) (by kernel_rfl) (fun _ _ _ h => h) (Or.inl ⟨by rfl, ?_⟩) hH8 ?_
  rotate_left
  · (intro v hSw; go_simp; try with_reducible rfl)
  simp only [Act.put, List.setIfInBounds_toArray, List.set_cons_zero, List.set_cons_succ, List.getElem_toArray, List.getElem_cons_zero, List.getElem_cons_succ]
  refine wpAnyH_take (i := 37) (v := ?_) rfl (by kernel_rfl) (by kernel_rfl) (by kernel_rfl) (fun _ _ _ h => h) (Or.inl ⟨by rfl, ?_⟩) hH8 ?_
  rotate_left
  · (intro v hSw; go_simp; try with_reducible rfl)
  simp only [Act.put, List.setIfInBounds_toArray, List.set_cons_zero, List.set_cons_succ, List.getElem_toArray, List.getElem_cons_zero, List.getElem_cons_succ]
  refine wpAnyH_take (i := 38) (v := ?_) rfl (by kernel_rfl) (by kernel_rfl) (by kernel_rfl) (fun _ _ _ h => h) (Or.inl ⟨by rfl, ?_⟩) hH8 ?_
  rotate_left
  · (intro v hSw; have k0 := hSw.boxs.tl.tl.tl.tl.tl.tl.hd.cell; go_simp; try with_reducible rfl)
  simp only [Act.put, List.setIfInBounds_toArray, List.set_cons_zero, List.set_cons_succ, List.getElem_toArray, List.getElem_cons_zero, List.getElem_cons_succ]
  refine wpAnyH_take (i := 40) (v := ?_) rfl (by kernel_rfl) (by kernel_rfl) (by kernel_rfl) (fun _ _ _ h => h) (Or.inl ⟨by rfl, ?_⟩) hH8 ?_
  rotate_left
  · (intro v hSw; have k0 := hSw.boxs.tl.tl.tl.tl.tl.tl.hd.cell; go_simp; try with_reducible rfl)
  simp only [Act.put, List.setIfInBounds_toArray, List.set_cons_zero, List.set_cons_succ, List.getElem_toArray, List.getElem_cons_zero, List.getElem_cons_succ]
  refine wpAnyH_ready (rs := [39]) (by kernel_rfl) (by simp) ?_
  refine AllReadyH.cons rfl (fun K hK => ?_) AllReadyH.nil
  go_simp
  refine (Wil.out _ _ _ _ _ (KL.out.up hH8.below)).mono ?_
  rintro e v9 ⟨rfl, hb⟩
  go_wp2_with fail
  refine hK.out _ _ (hH8.up hb) (fun hH9 => ?_)
  clear hb hK K hH8
  refine wpAnyH_ready (rs := [41]) (by kernel_rfl) (by simp) ?_
  refine AllReadyH.cons rfl (fun K hK => ?_) AllReadyH.nil
  go_simp
  refine (Wril.out _ _ _ _ _ (KL.out.up hH9.below)).mono ?_
  rintro e v10 ⟨rfl, hb⟩
  go_wp2_with fail
  refine hK.out _ _ (hH9.up hb) (fun hH10 => ?_)
  clear hb hK K hH9
  refine wpAnyH_take (i := 42) (v := ?_) rfl (by kernel_rfl) (by kernel_rfl) (by kernel_rfl) (fun _ _ _ h => h) (Or.inl ⟨by rfl, ?_⟩) hH10 ?_
  rotate_left
  · (intro v hSw; go_simp; try with_reducible rfl)
  simp only [Act.put, List.setIfInBounds_toArray, List.set_cons_zero, List.set_cons_succ, List.getElem_toArray, List.getElem_cons_zero, List.getElem_cons_succ]
  refine wpAnyH_take (i := 43) (v := ?_) rfl (by kernel_rfl) (by kernel_rfl) (by kernel_rfl) (fun _ _ _ h => h) (Or.inl ⟨by rfl, ?_⟩) hH10 ?_
  rotate_left
  · (intro v hSw; go_simp; try with_reducible rfl)
  simp only [Act.put, List.setIfInBounds_toArray, List.set_cons_zero, List.set_cons_succ, List.getElem_toArray, List.getElem_cons_zero, List.getElem_cons_succ]
  refine wpAnyH_take (i := 44) (v := ?_) rfl (by kernel_rfl) (by kernel_rfl) (by kernel_rfl) (fun _ _ _ h => h) (Or.inl ⟨by rfl, ?_⟩) hH10 ?_
  rotate_left
  · (intro v hSw; go_simp; try with_reducible rfl)
  simp only [Act.put, List.setIfInBounds_toArray, List.set_cons_zero, List.set_cons_succ, List.getElem_toArray, List.getElem_cons_zero, List.getElem_cons_succ]
  refine wpAnyH_take (i := 45) (v := ?_) rfl (by kernel_rfl) (by kernel_rfl) (by kernel_rfl) (fun _ _ _ h => h) (Or.inl ⟨by rfl, ?_⟩) hH10 ?_
  rotate_left
  · (intro v hSw; have k0 := hSw.boxs.tl.tl.tl.tl.tl.tl.hd.cell; go_simp; try with_reducible rfl)
  simp only [Act.put, List.setIfInBounds_toArray, List.set_cons_zero, List.set_cons_succ, List.getElem_toArray, List.getElem_cons_zero, List.getElem_cons_succ]
  refine wpAnyH_take (i := 46) (v := ?_) rfl (by kernel_rfl) (by kernel_rfl) (by kernel_rfl) (fun _ _ _ h => h) (Or.inl ⟨by rfl, ?_⟩) hH10 ?_
  rotate_left
  · (intro v hSw; have k0 := hSw.boxs.tl.tl.tl.tl.tl.hd.cell; go_simp; try with_reducible rfl)
  simp only [Act.put, List.setIfInBounds_toArray, List.set_cons_zero, List.set_cons_succ, List.getElem_toArray, List.getElem_cons_zero, List.getElem_cons_succ]
  refine wpAnyH_take (i := 48) (v := ?_) rfl (by kernel_rfl) (by kernel_rfl) (by kernel_rfl) (fun _ _ _ h => h) (Or.inl ⟨by rfl, ?_⟩) hH10 ?_
  rotate_left
  · (intro v hSw; have k0 := hSw.boxs.tl.tl.tl.tl.tl.tl.hd.cell; go_simp; try with_reducible rfl)
  simp only [Act.put, List.setIfInBounds_toArray, List.set_cons_zero, List.set_cons_succ, List.getElem_toArray, List.getElem_cons_zero, List.getElem_cons_succ]
  refine wpAnyH_take (i := 49) (v := ?_) rfl (by kernel_rfl) (by kernel_rfl) (by kernel_rfl) (fun _ _ _ h => h) (Or.inl ⟨by rfl, ?_⟩) hH10 ?_
  rotate_left
  · (intro v hSw; have k0 := hSw.boxs.tl.tl.tl.tl.tl.hd.cell; go_simp; try with_reducible rfl)
  simp only [Act.put, List.setIfInBounds_toArray, List.set_cons_zero, List.set_cons_succ, List.getElem_toArray, List.getElem_cons_zero, List.getElem_cons_succ]
  refine wpAnyH_ready (rs := [47]) (by kernel_rfl) (by simp) ?_
  refine AllReadyH.cons rfl (fun K hK => ?_) AllReadyH.nil
  go_simp
  refine (Wsa.out _ (KL.out.up hH10.below) (KZ.out.up hH10.below)).mono ?_
  rintro e v11 ⟨rfl, hb⟩
  go_wp2_with fail
  refine hK.out _ _ (hH10.up hb) (fun hH11 => ?_)
  clear hb hK K hH10
  refine wpAnyH_ready (rs := [50]) (by kernel_rfl) (by simp) ?_
  refine AllReadyH.cons rfl (fun K hK => ?_) AllReadyH.nil
  go_simp
  refine (Wrsa.out _ (KL.out.up hH11.below) (KZ.out.up hH11.below)).mono ?_
  rintro e v12 ⟨rfl, hb⟩
  go_wp2_with fail
  refine hK.out _ _ (hH11.up hb) (fun hH12 => ?_)
  clear hb hK K hH11
  refine wpAnyH_take (i := 51) (v := ?_) rfl (by kernel_rfl) (by kernel_rfl) (by kernel_rfl) (fun _ _ _ h => h) (Or.inl ⟨by rfl, ?_⟩) hH12 ?_
  rotate_left
  · (intro v hSw; go_simp; try with_reducible rfl)
  simp only [Act.put, List.setIfInBounds_toArray, List.set_cons_zero, List.set_cons_succ, List.getElem_toArray, List.getElem_cons_zero, List.getElem_cons_succ]
  refine wpAnyH_take (i := 52) (v := ?_) rfl (by kernel_rfl) (by kernel_rfl) (by kernel_rfl) (fun _ _ _ h => h) (Or.inl ⟨by rfl, ?_⟩) hH12 ?_
  rotate_left
  · (intro v hSw; go_simp; try with_reducible rfl)
  simp only [Act.put, List.setIfInBounds_toArray, List.set_cons_zero, List.set_cons_succ, List.getElem_toArray, List.getElem_cons_zero, List.getElem_cons_succ]
  refine wpAnyH_take (i := 53) (v := ?_) rfl (by kernel_rfl) (by kernel_rfl) (by kernel_rfl) (fun _ _ _ h => h) (Or.inl ⟨by rfl, ?_⟩) hH12 ?_
  rotate_left
  · (intro v hSw; go_simp; try with_reducible rfl)
  simp only [Act.put, List.setIfInBounds_toArray, List.set_cons_zero, List.set_cons_succ, List.getElem_toArray, List.getElem_cons_zero, List.getElem_cons_succ]
  refine wpAnyH_take (i := 54) (v := ?_) rfl (by kernel_rfl) (by kernel_rfl) (by kernel_rfl) (fun _ _ _ h => h) (Or.inl ⟨by rfl, ?_⟩) hH12 ?_
  rotate_left
  · (intro v hSw; have k0 := hSw.boxs.tl.tl.tl.tl.hd.cell; go_simp; try with_reducible rfl)
  simp only [Act.put, List.setIfInBounds_toArray, List.set_cons_zero, List.set_cons_succ, List.getElem_toArray, List.getElem_cons_zero, List.getElem_cons_succ]
  refine wpAnyH_take (i := 55) (v := ?_) rfl (by kernel_rfl) (by kernel_rfl) (by kernel_rfl) (fun _ _ _ h => h) (Or.inl ⟨by rfl, ?_⟩) hH12 ?_
  rotate_left
  · (intro v hSw; have k0 := hSw.boxs.tl.tl.tl.tl.tl.tl.hd.cell; go_simp; try with_reducible rfl)
  simp only [Act.put, List.setIfInBounds_toArray, List.set_cons_zero, List.set_cons_succ, List.getElem_toArray, List.getElem_cons_zero, List.getElem_cons_succ]
  refine wpAnyH_ready (rs := [56]) (by kernel_rfl) (by simp) ?_
  refine AllReadyH.cons rfl (fun K hK => ?_) AllReadyH.nil
  go_simp
  refine (rksame_self ⟨u, s, a, b⟩ _ _ _ _ _ _ _ _ _ Bhxa.out Bhxb.out (KO.out.up hH12.below) (KL.out.up hH12.below)).mono ?_
  rintro e v13 ⟨rfl, hb⟩
  go_wp2_with fail
  refine hK.out _ _ (hH12.up hb) (fun hH13 => ?_)
  clear hb hK K hH12
  refine wpAnyH_take (i := 57) (v := ?_) rfl (by kernel_rfl) (by kernel_rfl) (by kernel_rfl) (fun _ _ _ h => h) (Or.inl ⟨by rfl, ?_⟩) hH13 ?_
  rotate_left
  · (intro v hSw; go_simp; try with_reducible rfl)
  simp only [Act.put, List.setIfInBounds_toArray, List.set_cons_zero, List.set_cons_succ, List.getElem_toArray, List.getElem_cons_zero, List.getElem_cons_succ]
  refine wpAnyH_take (i := 58) (v := ?_) rfl (by kernel_rfl) (by kernel_rfl) (by kernel_rfl) (fun _ _ _ h => h) (Or.inl ⟨by rfl, ?_⟩) hH13 ?_
  rotate_left
  · (intro v hSw; go_simp; try with_reducible rfl)
  simp only [Act.put, List.setIfInBounds_toArray, List.set_cons_zero, List.set_cons_succ, List.getElem_toArray, List.getElem_cons_zero, List.getElem_cons_succ]
  refine wpAnyH_done (by kernel_rfl) ?_ _
  have HZ := Lib.hid hH13
  go_wp2_with fail
  go_ret
  exact ⟨rfl, ext H9.out.below HZ.out.below⟩

end Go.Proofs.Ytbjbdlgbppanmaa
