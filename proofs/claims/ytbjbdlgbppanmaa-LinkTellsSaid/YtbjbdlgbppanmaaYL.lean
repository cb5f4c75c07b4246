/- Links: the former half of LinkTells' walk. Under: lists of up to a hundred texts. -/
import Derived.Test.YtbjbdlgbppanmaaYJ
namespace Go.Proofs.Ytbjbdlgbppanmaa
open Go.RowKit

set_option maxRecDepth 100000 in
set_option maxHeartbeats 16000000 in
theorem ktells_go (u : Bool) (s : Int) (a b : List ByteArray) (A B : Option Addr) (n m : Nat) (u2 : Bool) (s2 : Int) (a2 b2 : List ByteArray) (A2 B2 : Option Addr) (n2 m2 : Nat) (g : Int) (w : World) (hk : Lk w ⟨u, s, a, b⟩ A n B m) (hk2 : Lk w ⟨u2, s2, a2, b2⟩ A2 n2 B2 m2) (hg1 : Lnk.great ⟨u, s, a, b⟩ = false) (hg2 : Lnk.great ⟨u2, s2, a2, b2⟩ = false) (mu yu : Bool) (ms ys er : Int) (ma mb ya yb : List ByteArray) (f1 : ByteArray) (ok ii sm : Bool) (hma : ma.length ≤ 100000) (hmb : mb.length ≤ 100000) (hya : ya.length ≤ 100000) (hyb : yb.length ≤ 100000) (hxa : a.length ≤ 100000) (hxb : b.length ≤ 100000)
    (tk : ∀ (A1 : Option Addr) (n1 : Nat) (B1 : Option Addr) (m1 : Nat) (w : World), Lk w ⟨u, s, a, b⟩ A1 n1 B1 m1 → Calls Try.prog 8 #[.agg #[.bool u, .int .u64 s, .slice A1 a.length n1, .slice B1 b.length m1], .int .i64 g] w (GivesK ⟨mu, ms, ma, mb⟩ (fun v => .tuple #[.string f1, v, .bool ok]) w))
    (sd : ∀ (A1 : Option Addr) (n1 : Nat) (B1 : Option Addr) (m1 : Nat) (Q : Option Addr) (w : World), Lk w ⟨u, s, a, b⟩ A1 n1 B1 m1 → Es Value.string w w.heap.size Q [⟨#[112]⟩, ⟨#[113]⟩] → Calls Try.prog 10 #[.agg #[.bool u, .int .u64 s, .slice A1 a.length n1, .slice B1 b.length m1], .int .i64 g, .slice Q 2 2] w (GivesK ⟨yu, ys, ya, yb⟩ (fun v => .tuple #[v, .int .i64 er]) w))
    (op : ∀ (A1 : Option Addr) (n1 : Nat) (B1 : Option Addr) (m1 : Nat) (w : World), Lk w ⟨u, s, a, b⟩ A1 n1 B1 m1 → Calls Try.prog 13 #[.agg #[.bool u, .int .u64 s, .slice A1 a.length n1, .slice B1 b.length m1]] w (GivesK ⟨true, nextS s, [], []⟩ id w))
    (cs : ∀ (A1 : Option Addr) (n1 : Nat) (B1 : Option Addr) (m1 : Nat) (w : World), Lk w ⟨u, s, a, b⟩ A1 n1 B1 m1 → Calls Try.prog 15 #[.agg #[.bool u, .int .u64 s, .slice A1 a.length n1, .slice B1 b.length m1]] w (GivesK ⟨false, s, [], []⟩ id w))
    (il : ∀ (A1 : Option Addr) (n1 : Nat) (B1 : Option Addr) (m1 : Nat) (w : World), Lk w ⟨u, s, a, b⟩ A1 n1 B1 m1 → Calls Try.prog 17 #[.agg #[.bool u, .int .u64 s, .slice A1 a.length n1, .slice B1 b.length m1]] w fun e w' => e = .returned (.bool ii) ∧ Below w.heap.size w w')
    (sa : ∀ (w : World), Lk w ⟨u, s, a, b⟩ A n B m → Lk w ⟨u2, s2, a2, b2⟩ A2 n2 B2 m2 → Calls Try.prog 19 #[.agg #[.bool u, .int .u64 s, .slice A a.length n, .slice B b.length m], .agg #[.bool u2, .int .u64 s2, .slice A2 a2.length n2, .slice B2 b2.length m2]] w fun e w' => e = .returned (.bool sm) ∧ Below w.heap.size w w')
    (rtk : ∀ (A1 : Option Addr) (n1 : Nat) (B1 : Option Addr) (m1 : Nat) (w : World), Lk w ⟨u, s, a, b⟩ A1 n1 B1 m1 → Calls Try.prog 9 #[.agg #[.bool u, .int .u64 s, .slice A1 a.length n1, .slice B1 b.length m1], .int .i64 g] w (GivesK ⟨mu, ms, ma, mb⟩ (fun v => .tuple #[.string f1, v, .bool ok]) w))
    (rsd : ∀ (A1 : Option Addr) (n1 : Nat) (B1 : Option Addr) (m1 : Nat) (Q : Option Addr) (w : World), Lk w ⟨u, s, a, b⟩ A1 n1 B1 m1 → Es Value.string w w.heap.size Q [⟨#[112]⟩, ⟨#[113]⟩] → Calls Try.prog 11 #[.agg #[.bool u, .int .u64 s, .slice A1 a.length n1, .slice B1 b.length m1], .int .i64 g, .slice Q 2 2] w (GivesK ⟨yu, ys, ya, yb⟩ (fun v => .tuple #[v, .int .i64 er]) w))
    (rop : ∀ (A1 : Option Addr) (n1 : Nat) (B1 : Option Addr) (m1 : Nat) (w : World), Lk w ⟨u, s, a, b⟩ A1 n1 B1 m1 → Calls Try.prog 14 #[.agg #[.bool u, .int .u64 s, .slice A1 a.length n1, .slice B1 b.length m1]] w (GivesK ⟨true, nextS s, [], []⟩ id w))
    (rcs : ∀ (A1 : Option Addr) (n1 : Nat) (B1 : Option Addr) (m1 : Nat) (w : World), Lk w ⟨u, s, a, b⟩ A1 n1 B1 m1 → Calls Try.prog 16 #[.agg #[.bool u, .int .u64 s, .slice A1 a.length n1, .slice B1 b.length m1]] w (GivesK ⟨false, s, [], []⟩ id w))
    (ril : ∀ (A1 : Option Addr) (n1 : Nat) (B1 : Option Addr) (m1 : Nat) (w : World), Lk w ⟨u, s, a, b⟩ A1 n1 B1 m1 → Calls Try.prog 18 #[.agg #[.bool u, .int .u64 s, .slice A1 a.length n1, .slice B1 b.length m1]] w fun e w' => e = .returned (.bool ii) ∧ Below w.heap.size w w')
    (rsa : ∀ (w : World), Lk w ⟨u, s, a, b⟩ A n B m → Lk w ⟨u2, s2, a2, b2⟩ A2 n2 B2 m2 → Calls Try.prog 12 #[.agg #[.bool u, .int .u64 s, .slice A a.length n, .slice B b.length m], .agg #[.bool u2, .int .u64 s2, .slice A2 a2.length n2, .slice B2 b2.length m2]] w fun e w' => e = .returned (.bool sm) ∧ Below w.heap.size w w') :
    Calls Try.prog 3 #[.agg #[.bool u, .int .u64 s, .slice A a.length n, .slice B b.length m], .agg #[.bool u2, .int .u64 s2, .slice A2 a2.length n2, .slice B2 b2.length m2], .int .i64 g] w (Yes w) := by
  have Wtk := Lib.hid tk; clear tk
  have Wsd := Lib.hid sd; clear sd
  have Wop := Lib.hid op; clear op
  have Wcs := Lib.hid cs; clear cs
  have Wil := Lib.hid il; clear il
  have Wsa := Lib.hid sa; clear sa
  have Wrtk := Lib.hid rtk; clear rtk
  have Wrsd := Lib.hid rsd; clear rsd
  have Wrop := Lib.hid rop; clear rop
  have Wrcs := Lib.hid rcs; clear rcs
  have Wril := Lib.hid ril; clear ril
  have Wrsa := Lib.hid rsa; clear rsa
  have Bhma := Lib.hid hma; clear hma
  have Bhmb := Lib.hid hmb; clear hmb
  have Bhya := Lib.hid hya; clear hya
  have Bhyb := Lib.hid hyb; clear hyb
  have Bhxa := Lib.hid hxa; clear hxa
  have Bhxb := Lib.hid hxb; clear hxb
  have g1 := fun w => rkgreatG_any ⟨u, s, a, b⟩ A B n m w
  have g2 := fun w => rkgreatG_any ⟨u2, s2, a2, b2⟩ A2 B2 n2 m2 w
  rw [hg1] at g1
  rw [hg2] at g2
  have l1 := small_great hg1
  have G1 := Lib.hid g1; clear g1 hg1
  have G2 := Lib.hid g2; clear g2 hg2
  have LE1 := Lib.hid (show a.length ≤ 1000000 from by have := l1.1; dsimp only at this; omega)
  have LE2 := Lib.hid (show b.length ≤ 1000000 from by have := l1.2; dsimp only at this; omega)
  clear l1
  have H0 := Lib.hid (((Held.refl w).lay [.bool u, .int .u64 s, .slice A a.length n, .slice B b.length m] 26).lay [.bool u2, .int .u64 s2, .slice A2 a2.length n2, .slice B2 b2.length m2] 26)
  rw [World.size_alloc] at H0
  have K0 := Lib.hid ((hk.alloc (.cells ([.bool u, .int .u64 s, .slice A a.length n, .slice B b.length m] : List Value).toArray 26)).alloc (.cells ([.bool u2, .int .u64 s2, .slice A2 a2.length n2, .slice B2 b2.length m2] : List Value).toArray 26))
  have J0 := Lib.hid ((hk2.alloc (.cells ([.bool u, .int .u64 s, .slice A a.length n, .slice B b.length m] : List Value).toArray 26)).alloc (.cells ([.bool u2, .int .u64 s2, .slice A2 a2.length n2, .slice B2 b2.length m2] : List Value).toArray 26))
  clear hk hk2
  go_enter Try.func3, Try.ntmps3
  go_wp2_with fail
  refine (kalive_any _).mono ?_
  rintro e w1 ⟨rfl, hb⟩
  have H1 := Lib.hid (H0.out.up hb)
  have K1 := Lib.hid (K0.out.up hb)
  have J1 := Lib.hid (J0.out.up hb)
  clear hb H0 K0 J0
  have k0 := H1.out.b0.cell
  have k1 := H1.out.b1.cell
  go_wp2_with fail
  refine (G1.out _).mono ?_
  rintro e w2 ⟨rfl, hb⟩
  have H2 := Lib.hid (H1.out.up hb)
  have K2 := Lib.hid (K1.out.up hb)
  have J2 := Lib.hid (J1.out.up hb)
  clear hb H1 K1 J1 k0 k1
  have k0 := H2.out.b0.cell
  have k1 := H2.out.b1.cell
  go_wp2_with fail
  refine (G2.out _).mono ?_
  rintro e w4 ⟨rfl, hb⟩
  have H4 := Lib.hid (H2.out.up hb)
  have K4 := Lib.hid (K2.out.up hb)
  have J4 := Lib.hid (J2.out.up hb)
  clear hb H2 K2 J2 k0 k1 G1 G2
  go_upto_region 5 with fail
  rename_i K0 aK
  have HK : ∀ (R1 : Option Addr) (r1 : Nat) (R2 : Option Addr) (r2 : Nat) (yo e1 e2 : Nat) (w5 : World), Below w4.heap.size w4 w5 → Lk w5 ⟨u, s, a, b⟩ R1 r1 R2 r2 → Box w5 yo [.bool u, .int .u64 s, .slice R1 a.length r1, .slice R2 b.length r2] → K0 { tmps := #[.agg #[.bool u, .int .u64 s, .slice A a.length n, .slice B b.length m], .agg #[.bool u2, .int .u64 s2, .slice A2 a2.length n2, .slice B2 b2.length m2], .int .i64 g, .pointer (some ⟨w.heap.size, 0, none⟩), .pointer (some ⟨w.heap.size + 1, 0, none⟩), undef, .bool false, .pointer (some ⟨yo, 0, none⟩), undef, undef, undef, undef, undef, undef, undef, undef, undef, undef, .bool true, .bool false, .agg #[.bool u, .int .u64 s, .slice A a.length n, .slice B b.length m], .bool false, .bool false, .agg #[.bool u2, .int .u64 s2, .slice A2 a2.length n2, .slice B2 b2.length m2], .bool false, .bool false, .pointer (some ⟨w.heap.size, 0, none⟩), .bool u, .pointer (some ⟨w.heap.size, 1, none⟩), .int .u64 s, .slice (some ⟨e1, 0, none⟩) 0 0, .pointer (some ⟨w.heap.size, 2, none⟩), .pointer (some ⟨w.heap.size, 2, none⟩), .slice A a.length n, .slice R1 a.length r1, .slice (some ⟨e2, 0, none⟩) 0 0, .pointer (some ⟨w.heap.size, 2, none⟩), .pointer (some ⟨w.heap.size, 3, none⟩), .slice B b.length m, .slice R2 b.length r2, .agg #[.slice R1 a.length r1, .slice R2 b.length r2], .agg #[.bool u, .int .u64 s, .slice R1 a.length r1, .slice R2 b.length r2], undef, undef, undef, undef, undef, undef, undef, undef, undef, undef, undef, undef, undef, undef, undef, undef, undef, undef, undef, undef, undef, undef, undef, undef, undef, undef, undef, undef, undef, undef, undef, undef, undef, undef, undef, undef, undef, undef, undef, undef, undef, undef, undef, undef, undef, undef, undef, undef, undef, undef, undef, undef, undef, undef, undef, undef, undef, undef, undef, undef, undef, undef, undef, undef, undef, undef, undef, undef, undef, undef, undef, undef, undef, undef, undef, undef, undef, undef, undef, undef, undef, undef, undef, undef, undef, undef], defers := [] } w5 := by
    intro R1 r1 R2 r2 yo e1 e2 w5 hbv hka hky
    refine aK _ _ ?_
    exact ktells_rest u s a b A B n m u2 s2 a2 b2 A2 B2 n2 m2 g w R1 r1 R2 r2 yo e1 e2 w5 ((H4.out.up hbv).knows hky) hka (K4.out.up hbv) (J4.out.up hbv) mu yu ms ys er ma mb ya yb f1 ok ii sm Bhma.out Bhmb.out Bhya.out Bhyb.out Bhxa.out Bhxb.out Wtk.out Wsd.out Wop.out Wcs.out Wil.out Wsa.out Wrtk.out Wrsd.out Wrop.out Wrcs.out Wril.out Wrsa.out
  clear aK
  have HXB := Lib.hid H4.out.b1.lt
  refine held_startC2 (S := Held _ [(w.heap.size, [.bool u, .int .u64 s, .slice A a.length n, .slice B b.length m])] []) (by kernel_rfl) (held_know H4.out.b1).drew (fun v0 hv0 hH0 => ?_)
  clear hv0
  refine wpAnyH_take (i := 0) (v := ?_) rfl (by kernel_rfl) (by kernel_rfl) (by kernel_rfl) (fun _ _ _ h => h) (Or.inl ⟨by rfl, ?_⟩) hH0 ?_
  rotate_left
  · (intro v hSw; have k0 := hSw.b0.cell; go_simp; try with_reducible rfl)
  simp only [Act.put, List.setIfInBounds_toArray, List.set_cons_zero, List.set_cons_succ, List.getElem_toArray, List.getElem_cons_zero]
  refine wpAnyH_take (i := 1) (v := ?_) rfl (by kernel_rfl) (by kernel_rfl) (by kernel_rfl) (fun _ _ _ h => h) (Or.inl ⟨by rfl, ?_⟩) hH0 ?_
  rotate_left
  · (intro v hSw; have k0 := hSw.b0.cell; go_simp; try with_reducible rfl)
  simp only [Act.put, List.setIfInBounds_toArray, List.set_cons_zero, List.set_cons_succ, List.getElem_toArray, List.getElem_cons_zero, List.getElem_cons_succ]
  refine wpAnyH_take (i := 2) (v := ?_) rfl (by kernel_rfl) (by kernel_rfl) (by kernel_rfl) (fun _ _ _ h => h) (Or.inl ⟨by rfl, ?_⟩) hH0 ?_
  rotate_left
  · (intro v hSw; have k0 := hSw.b0.cell; go_simp; try with_reducible rfl)
  simp only [Act.put, List.setIfInBounds_toArray, List.set_cons_zero, List.set_cons_succ, List.getElem_toArray, List.getElem_cons_zero, List.getElem_cons_succ]
  refine wpAnyH_take (i := 3) (v := ?_) rfl (by kernel_rfl) (by kernel_rfl) (by kernel_rfl) (fun _ _ _ h => h) (Or.inl ⟨by rfl, ?_⟩) hH0 ?_
  rotate_left
  · (intro v hSw; have k0 := hSw.b0.cell; go_simp; try with_reducible rfl)
  simp only [Act.put, List.setIfInBounds_toArray, List.set_cons_zero, List.set_cons_succ, List.getElem_toArray, List.getElem_cons_zero, List.getElem_cons_succ]
  refine wpAnyH_take (i := 5) (v := ?_) rfl (by kernel_rfl) (by kernel_rfl) (by kernel_rfl) (fun _ _ _ h => h) (Or.inl ⟨by rfl, ?_⟩) hH0 ?_
  rotate_left
  · (intro v hSw; have k0 := hSw.b0.cell; go_simp; try with_reducible rfl)
  simp only [Act.put, List.setIfInBounds_toArray, List.set_cons_zero, List.set_cons_succ, List.getElem_toArray, List.getElem_cons_zero, List.getElem_cons_succ]
  refine wpAnyH_take (i := 6) (v := ?_) rfl (by kernel_rfl) (by kernel_rfl) (by kernel_rfl) (fun _ _ _ h => h) (Or.inl ⟨by rfl, ?_⟩) hH0 ?_
  rotate_left
  · (intro v hSw; have k0 := hSw.b0.cell; go_simp; try with_reducible rfl)
  simp only [Act.put, List.setIfInBounds_toArray, List.set_cons_zero, List.set_cons_succ, List.getElem_toArray, List.getElem_cons_zero, List.getElem_cons_succ]
  refine wpAnyH_take (i := 7) (v := ?_) rfl (by kernel_rfl) (by kernel_rfl) (by kernel_rfl) (fun _ _ _ h => h) (Or.inl ⟨by rfl, ?_⟩) hH0 ?_
  rotate_left
  · (intro v hSw; have k0 := hSw.b0.cell; go_simp; try with_reducible rfl)
  simp only [Act.put, List.setIfInBounds_toArray, List.set_cons_zero, List.set_cons_succ, List.getElem_toArray, List.getElem_cons_zero, List.getElem_cons_succ]
  refine wpAnyH_take (i := 10) (v := ?_) rfl (by kernel_rfl) (by kernel_rfl) (by kernel_rfl) (fun _ _ _ h => h) (Or.inl ⟨by rfl, ?_⟩) hH0 ?_
  rotate_left
  · (intro v hSw; have k0 := hSw.b0.cell; go_simp; try with_reducible rfl)
  simp only [Act.put, List.setIfInBounds_toArray, List.set_cons_zero, List.set_cons_succ, List.getElem_toArray, List.getElem_cons_zero, List.getElem_cons_succ]
  refine wpAnyH_take (i := 11) (v := ?_) rfl (by kernel_rfl) (by kernel_rfl) (by kernel_rfl) (fun _ _ _ h => h) (Or.inl ⟨by rfl, ?_⟩) hH0 ?_
  rotate_left
  · (intro v hSw; have k0 := hSw.b0.cell; go_simp; try with_reducible rfl)
  simp only [Act.put, List.setIfInBounds_toArray, List.set_cons_zero, List.set_cons_succ, List.getElem_toArray, List.getElem_cons_zero, List.getElem_cons_succ]
  refine wpAnyH_take (i := 12) (v := ?_) rfl (by kernel_rfl) (by kernel_rfl) (by kernel_rfl) (fun _ _ _ h => h) (Or.inl ⟨by rfl, ?_⟩) hH0 ?_
  rotate_left
  · (intro v hSw; have k0 := hSw.b0.cell; go_simp; try with_reducible rfl)
  simp only [Act.put, List.setIfInBounds_toArray, List.set_cons_zero, List.set_cons_succ, List.getElem_toArray, List.getElem_cons_zero, List.getElem_cons_succ]
  refine wpAnyH_ready (rs := [4, 9, 16]) (by kernel_rfl) (by simp) ?_
  refine AllReadyH.cons rfl (fun K hK => ?_) ?_
  · try have KN := Lib.hid (Nat.ne_of_lt KB2.out.box.lt)
    try replace KB2 := Lib.hid (KB2.out.up (below1 (o := .cells #[] 9)))
    try replace KR2 := Lib.hid (KR2.out.up (below1 (o := .cells #[] 9)))
    try replace KY := Lib.hid (KY.out.alloc (.cells #[] 9))
    have KB1 := Lib.hid (Bare.new v0)
    have HL1 := Lib.hid (hH0.below.size)
    go_simp
    refine hK.out _ _ (hH0.alloc (.cells #[] 9)) (fun hH1 => ?_)
    clear hK K hH0
    generalize v0.alloc (.cells #[] 9) = v1 at *
    refine wpAnyH_ready (rs := [8, 9, 16]) (by kernel_rfl) (by simp) ?_
    refine AllReadyH.cons rfl (fun K hK => ?_) ?_
    · try simp only [Act.put, List.setIfInBounds_toArray, List.set_cons_zero, List.set_cons_succ, List.getElem_toArray, List.getElem_cons_zero, List.getElem_cons_succ]
      refine Eq.mpr (if_pos (by rfl)) ?_
      refine app_bareW (Operand.tmp 30) (Operand.tmp 33) rfl _ _ KB1.out rfl A n a K4.out.na rfl (K4.out.ea.up hH1.below) LE1.out (fun R1 r1 v2 hrow hgrow => ?_)
      have KR1 := Lib.hid hrow
      try replace KR2 := Lib.hid (KR2.out.gr KB1.out.box hgrow)
      try replace KY := Lib.hid (KY.out.gr hgrow (box_ne KB1.out.box KY.out))
      try replace KB2 := Lib.hid (KB2.out.gr hgrow (by first | exact KN.out | exact KN.out.symm))
      have hH2x := hH1.gr KB1.out.box hgrow HL1.out
      clear hrow hgrow KB1
      refine hK.out _ _ hH2x (fun hH2 => ?_)
      clear hK K hH1 hH2x
      refine wpAnyH_ready (rs := [9, 16]) (by kernel_rfl) (by simp) ?_
      refine AllReadyH.cons rfl (fun K hK => ?_) ?_
      · try have KN := Lib.hid (Nat.ne_of_lt KB1.out.box.lt)
        try replace KB1 := Lib.hid (KB1.out.up (below1 (o := .cells #[] 9)))
        try replace KR1 := Lib.hid (KR1.out.up (below1 (o := .cells #[] 9)))
        try replace KY := Lib.hid (KY.out.alloc (.cells #[] 9))
        have KB2 := Lib.hid (Bare.new v2)
        have HL2 := Lib.hid (hH2.below.size)
        go_simp
        refine hK.out _ _ (hH2.alloc (.cells #[] 9)) (fun hH3 => ?_)
        clear hK K hH2
        generalize v2.alloc (.cells #[] 9) = v3 at *
        refine wpAnyH_ready (rs := [13, 16]) (by kernel_rfl) (by simp) ?_
        refine AllReadyH.cons rfl (fun K hK => ?_) ?_
        · try simp only [Act.put, List.setIfInBounds_toArray, List.set_cons_zero, List.set_cons_succ, List.getElem_toArray, List.getElem_cons_zero, List.getElem_cons_succ]
          refine Eq.mpr (if_pos (by rfl)) ?_
          refine app_bareW (Operand.tmp 35) (Operand.tmp 38) rfl _ _ KB2.out rfl B m b K4.out.nb rfl (K4.out.eb.up hH3.below) LE2.out (fun R2 r2 v4 hrow hgrow => ?_)
          have KR2 := Lib.hid hrow
          try replace KR1 := Lib.hid (KR1.out.gr KB2.out.box hgrow)
          try replace KY := Lib.hid (KY.out.gr hgrow (box_ne KB2.out.box KY.out))
          try replace KB1 := Lib.hid (KB1.out.gr hgrow (by first | exact KN.out | exact KN.out.symm))
          have hH4x := hH3.gr KB2.out.box hgrow HL2.out
          clear hrow hgrow KB2
          refine hK.out _ _ hH4x (fun hH4 => ?_)
          clear hK K hH3 hH4x
          refine wpAnyH_take (i := 14) (v := ?_) rfl (by kernel_rfl) (by kernel_rfl) (by kernel_rfl) (fun _ _ _ h => h) (Or.inl ⟨by rfl, ?_⟩) hH4 ?_
          rotate_left
          · (intro v hSw; have k0 := hSw.b0.cell; go_simp; try with_reducible rfl)
          simp only [Act.put, List.setIfInBounds_toArray, List.set_cons_zero, List.set_cons_succ, List.getElem_toArray, List.getElem_cons_zero, List.getElem_cons_succ]
          refine wpAnyH_take (i := 15) (v := ?_) rfl (by kernel_rfl) (by kernel_rfl) (by kernel_rfl) (fun _ _ _ h => h) (Or.inl ⟨by rfl, ?_⟩) hH4 ?_
          rotate_left
          · (intro v hSw; have k0 := hSw.b0.cell; go_simp; try with_reducible rfl)
          simp only [Act.put, List.setIfInBounds_toArray, List.set_cons_zero, List.set_cons_succ, List.getElem_toArray, List.getElem_cons_zero, List.getElem_cons_succ]
          refine wpAnyH_ready (rs := [16]) (by kernel_rfl) (by simp) ?_
          refine AllReadyH.cons rfl (fun K hK => ?_) AllReadyH.nil
          try replace KB1 := Lib.hid (KB1.out.up (below1 (o := .cells #[.bool false, .int .u64 0, .slice none 0 0, .slice none 0 0] 26)))
          try replace KB2 := Lib.hid (KB2.out.up (below1 (o := .cells #[.bool false, .int .u64 0, .slice none 0 0, .slice none 0 0] 26)))
          try replace KR1 := Lib.hid (KR1.out.up (below1 (o := .cells #[.bool false, .int .u64 0, .slice none 0 0, .slice none 0 0] 26)))
          try replace KR2 := Lib.hid (KR2.out.up (below1 (o := .cells #[.bool false, .int .u64 0, .slice none 0 0, .slice none 0 0] 26)))
          have KY := Lib.hid (Box.new v4 [.bool false, .int .u64 0, .slice none 0 0, .slice none 0 0] 26)
          have HYB := Lib.hid (hH4.below.size)
          go_simp
          refine hK.out _ _ (hH4.alloc (.cells #[.bool false, .int .u64 0, .slice none 0 0, .slice none 0 0] 26)) (fun hH5 => ?_)
          clear hK K hH4
          generalize v4.alloc (.cells #[.bool false, .int .u64 0, .slice none 0 0, .slice none 0 0] 26) = v5 at *
          refine wpAnyH_ready (rs := [17]) (by kernel_rfl) (by simp) ?_
          refine AllReadyH.cons rfl (fun K hK => ?_) AllReadyH.nil
          have kx := KY.out.cell
          have fx := KY.out.frozen
          go_simp
          refine hK.out _ _ (hH5.past4 HXB.out HYB.out _ _ _ _) (fun hH6 => ?_)
          have KA := Lib.hid ((Lk.mk KR1.out.es KR2.out.es KR1.out.no KR2.out.no KR1.out.le KR2.out.le : Lk _ ⟨u, s, a, b⟩ R1 r1 R2 r2).four_no KY.out (noT_lk _ _ _ _ _ _ _ _) (.bool u) (.int .u64 s) (.slice R1 a.length r1) (.slice R2 b.length r2))
          replace KY := Lib.hid (KY.out.four (.bool u) (.int .u64 s) (.slice R1 a.length r1) (.slice R2 b.length r2))
          clear hK K hH5 kx fx KR1 KR2
          generalize (((v5.setCell ⟨v4.heap.size, 0, none⟩ (.bool u)).setCell ⟨v4.heap.size, 1, none⟩ (.int .u64 s)).setCell ⟨v4.heap.size, 2, none⟩ (.slice R1 a.length r1)).setCell ⟨v4.heap.size, 3, none⟩ (.slice R2 b.length r2) = v6 at *
          refine wpAnyH_done (by kernel_rfl) ?_ _
          exact HK R1 r1 R2 r2 v4.heap.size v0.heap.size v2.heap.size v6 hH6.below KA.out KY.out
        refine AllReadyH.cons rfl (fun K hK => ?_) AllReadyH.nil
        try replace KB1 := Lib.hid (KB1.out.up (below1 (o := .cells #[.bool false, .int .u64 0, .slice none 0 0, .slice none 0 0] 26)))
        try replace KB2 := Lib.hid (KB2.out.up (below1 (o := .cells #[.bool false, .int .u64 0, .slice none 0 0, .slice none 0 0] 26)))
        try replace KR1 := Lib.hid (KR1.out.up (below1 (o := .cells #[.bool false, .int .u64 0, .slice none 0 0, .slice none 0 0] 26)))
        try replace KR2 := Lib.hid (KR2.out.up (below1 (o := .cells #[.bool false, .int .u64 0, .slice none 0 0, .slice none 0 0] 26)))
        have KY := Lib.hid (Box.new v3 [.bool false, .int .u64 0, .slice none 0 0, .slice none 0 0] 26)
        have HYB := Lib.hid (hH3.below.size)
        go_simp
        refine hK.out _ _ (hH3.alloc (.cells #[.bool false, .int .u64 0, .slice none 0 0, .slice none 0 0] 26)) (fun hH7 => ?_)
        clear hK K hH3
        generalize v3.alloc (.cells #[.bool false, .int .u64 0, .slice none 0 0, .slice none 0 0] 26) = v7 at *
        refine wpAnyH_ready (rs := [13]) (by kernel_rfl) (by simp) ?_
        refine AllReadyH.cons rfl (fun K hK => ?_) AllReadyH.nil
        try simp only [Act.put, List.setIfInBounds_toArray, List.set_cons_zero, List.set_cons_succ, List.getElem_toArray, List.getElem_cons_zero, List.getElem_cons_succ]
        refine Eq.mpr (if_pos (by rfl)) ?_
        refine app_bareW (Operand.tmp 35) (Operand.tmp 38) rfl _ _ KB2.out rfl B m b K4.out.nb rfl (K4.out.eb.up hH7.below) LE2.out (fun R2 r2 v8 hrow hgrow => ?_)
        have KR2 := Lib.hid hrow
        try replace KR1 := Lib.hid (KR1.out.gr KB2.out.box hgrow)
        try replace KY := Lib.hid (KY.out.gr hgrow (box_ne KB2.out.box KY.out))
        try replace KB1 := Lib.hid (KB1.out.gr hgrow (by first | exact KN.out | exact KN.out.symm))
        have hH8x := hH7.gr KB2.out.box hgrow HL2.out
        clear hrow hgrow KB2
        refine hK.out _ _ hH8x (fun hH8 => ?_)
        clear hK K hH7 hH8x
        refine wpAnyH_take (i := 14) (v := ?_) rfl (by kernel_rfl) (by kernel_rfl) (by kernel_rfl) (fun _ _ _ h => h) (Or.inl ⟨by rfl, ?_⟩) hH8 ?_
        rotate_left
        · (intro v hSw; have k0 := hSw.b0.cell; go_simp; try with_reducible rfl)
        simp only [Act.put, List.setIfInBounds_toArray, List.set_cons_zero, List.set_cons_succ, List.getElem_toArray, List.getElem_cons_zero, List.getElem_cons_succ]
        refine wpAnyH_take (i := 15) (v := ?_) rfl (by kernel_rfl) (by kernel_rfl) (by kernel_rfl) (fun _ _ _ h => h) (Or.inl ⟨by rfl, ?_⟩) hH8 ?_
        rotate_left
        · (intro v hSw; have k0 := hSw.b0.cell; go_simp; try with_reducible rfl)
        simp only [Act.put, List.setIfInBounds_toArray, List.set_cons_zero, List.set_cons_succ, List.getElem_toArray, List.getElem_cons_zero, List.getElem_cons_succ]
        refine wpAnyH_ready (rs := [17]) (by kernel_rfl) (by simp) ?_
        refine AllReadyH.cons rfl (fun K hK => ?_) AllReadyH.nil
        have kx := KY.out.cell
        have fx := KY.out.frozen
        go_simp
        refine hK.out _ _ (hH8.past4 HXB.out HYB.out _ _ _ _) (fun hH9 => ?_)
        have KA := Lib.hid ((Lk.mk KR1.out.es KR2.out.es KR1.out.no KR2.out.no KR1.out.le KR2.out.le : Lk _ ⟨u, s, a, b⟩ R1 r1 R2 r2).four_no KY.out (noT_lk _ _ _ _ _ _ _ _) (.bool u) (.int .u64 s) (.slice R1 a.length r1) (.slice R2 b.length r2))
        replace KY := Lib.hid (KY.out.four (.bool u) (.int .u64 s) (.slice R1 a.length r1) (.slice R2 b.length r2))
        clear hK K hH8 kx fx KR1 KR2
        generalize (((v8.setCell ⟨v3.heap.size, 0, none⟩ (.bool u)).setCell ⟨v3.heap.size, 1, none⟩ (.int .u64 s)).setCell ⟨v3.heap.size, 2, none⟩ (.slice R1 a.length r1)).setCell ⟨v3.heap.size, 3, none⟩ (.slice R2 b.length r2) = v9 at *
        refine wpAnyH_done (by kernel_rfl) ?_ _
        exact HK R1 r1 R2 r2 v3.heap.size v0.heap.size v2.heap.size v9 hH9.below KA.out KY.out
      refine AllReadyH.cons rfl (fun K hK => ?_) AllReadyH.nil
      try replace KB1 := Lib.hid (KB1.out.up (below1 (o := .cells #[.bool false, .int .u64 0, .slice none 0 0, .slice none 0 0] 26)))
      try replace KB2 := Lib.hid (KB2.out.up (below1 (o := .cells #[.bool false, .int .u64 0, .slice none 0 0, .slice none 0 0] 26)))
      try replace KR1 := Lib.hid (KR1.out.up (below1 (o := .cells #[.bool false, .int .u64 0, .slice none 0 0, .slice none 0 0] 26)))
      try replace KR2 := Lib.hid (KR2.out.up (below1 (o := .cells #[.bool false, .int .u64 0, .slice none 0 0, .slice none 0 0] 26)))
      have KY := Lib.hid (Box.new v2 [.bool false, .int .u64 0, .slice none 0 0, .slice none 0 0] 26)
      have HYB := Lib.hid (hH2.below.size)
      go_simp
      refine hK.out _ _ (hH2.alloc (.cells #[.bool false, .int .u64 0, .slice none 0 0, .slice none 0 0] 26)) (fun hH10 => ?_)
      clear hK K hH2
      generalize v2.alloc (.cells #[.bool false, .int .u64 0, .slice none 0 0, .slice none 0 0] 26) = v10 at *
      refine wpAnyH_ready (rs := [9]) (by kernel_rfl) (by simp) ?_
      refine AllReadyH.cons rfl (fun K hK => ?_) AllReadyH.nil
      try have KN := Lib.hid (Nat.ne_of_lt KB1.out.box.lt)
      try replace KB1 := Lib.hid (KB1.out.up (below1 (o := .cells #[] 9)))
      try replace KR1 := Lib.hid (KR1.out.up (below1 (o := .cells #[] 9)))
      try replace KY := Lib.hid (KY.out.alloc (.cells #[] 9))
      have KB2 := Lib.hid (Bare.new v10)
      have HL2 := Lib.hid (hH10.below.size)
      go_simp
      refine hK.out _ _ (hH10.alloc (.cells #[] 9)) (fun hH11 => ?_)
      clear hK K hH10
      generalize v10.alloc (.cells #[] 9) = v11 at *
      refine wpAnyH_ready (rs := [13]) (by kernel_rfl) (by simp) ?_
      refine AllReadyH.cons rfl (fun K hK => ?_) AllReadyH.nil
      try simp only [Act.put, List.setIfInBounds_toArray, List.set_cons_zero, List.set_cons_succ, List.getElem_toArray, List.getElem_cons_zero, List.getElem_cons_succ]
      refine Eq.mpr (if_pos (by rfl)) ?_
      refine app_bareW (Operand.tmp 35) (Operand.tmp 38) rfl _ _ KB2.out rfl B m b K4.out.nb rfl (K4.out.eb.up hH11.below) LE2.out (fun R2 r2 v12 hrow hgrow => ?_)
      have KR2 := Lib.hid hrow
      try replace KR1 := Lib.hid (KR1.out.gr KB2.out.box hgrow)
      try replace KY := Lib.hid (KY.out.gr hgrow (box_ne KB2.out.box KY.out))
      try replace KB1 := Lib.hid (KB1.out.gr hgrow (by first | exact KN.out | exact KN.out.symm))
      have hH12x := hH11.gr KB2.out.box hgrow HL2.out
      clear hrow hgrow KB2
      refine hK.out _ _ hH12x (fun hH12 => ?_)
      clear hK K hH11 hH12x
      refine wpAnyH_take (i := 14) (v := ?_) rfl (by kernel_rfl) (by kernel_rfl) (by kernel_rfl) (fun _ _ _ h => h) (Or.inl ⟨by rfl, ?_⟩) hH12 ?_
      rotate_left
      · (intro v hSw; have k0 := hSw.b0.cell; go_simp; try with_reducible rfl)
      simp only [Act.put, List.setIfInBounds_toArray, List.set_cons_zero, List.set_cons_succ, List.getElem_toArray, List.getElem_cons_zero, List.getElem_cons_succ]
      refine wpAnyH_take (i := 15) (v := ?_) rfl (by kernel_rfl) (by kernel_rfl) (by kernel_rfl) (fun _ _ _ h => h) (Or.inl ⟨by rfl, ?_⟩) hH12 ?_
      rotate_left
      · (intro v hSw; have k0 := hSw.b0.cell; go_simp; try with_reducible rfl)
      simp only [Act.put, List.setIfInBounds_toArray, List.set_cons_zero, List.set_cons_succ, List.getElem_toArray, List.getElem_cons_zero, List.getElem_cons_succ]
      refine wpAnyH_ready (rs := [17]) (by kernel_rfl) (by simp) ?_
      refine AllReadyH.cons rfl (fun K hK => ?_) AllReadyH.nil
      have kx := KY.out.cell
      have fx := KY.out.frozen
      go_simp
      refine hK.out _ _ (hH12.past4 HXB.out HYB.out _ _ _ _) (fun hH13 => ?_)
      have KA := Lib.hid ((Lk.mk KR1.out.es KR2.out.es KR1.out.no KR2.out.no KR1.out.le KR2.out.le : Lk _ ⟨u, s, a, b⟩ R1 r1 R2 r2).four_no KY.out (noT_lk _ _ _ _ _ _ _ _) (.bool u) (.int .u64 s) (.slice R1 a.length r1) (.slice R2 b.length r2))
      replace KY := Lib.hid (KY.out.four (.bool u) (.int .u64 s) (.slice R1 a.length r1) (.slice R2 b.length r2))
      clear hK K hH12 kx fx KR1 KR2
      generalize (((v12.setCell ⟨v2.heap.size, 0, none⟩ (.bool u)).setCell ⟨v2.heap.size, 1, none⟩ (.int .u64 s)).setCell ⟨v2.heap.size, 2, none⟩ (.slice R1 a.length r1)).setCell ⟨v2.heap.size, 3, none⟩ (.slice R2 b.length r2) = v13 at *
      refine wpAnyH_done (by kernel_rfl) ?_ _
      exact HK R1 r1 R2 r2 v2.heap.size v0.heap.size v10.heap.size v13 hH13.below KA.out KY.out
    refine AllReadyH.cons rfl (fun K hK => ?_) ?_
    · try have KN := Lib.hid (Nat.ne_of_lt KB1.out.box.lt)
      try replace KB1 := Lib.hid (KB1.out.up (below1 (o := .cells #[] 9)))
      try replace KR1 := Lib.hid (KR1.out.up (below1 (o := .cells #[] 9)))
      try replace KY := Lib.hid (KY.out.alloc (.cells #[] 9))
      have KB2 := Lib.hid (Bare.new v1)
      have HL2 := Lib.hid (hH1.below.size)
      go_simp
      refine hK.out _ _ (hH1.alloc (.cells #[] 9)) (fun hH14 => ?_)
      clear hK K hH1
      generalize v1.alloc (.cells #[] 9) = v14 at *
      refine wpAnyH_ready (rs := [8, 16]) (by kernel_rfl) (by simp) ?_
      refine AllReadyH.cons rfl (fun K hK => ?_) ?_
      · try simp only [Act.put, List.setIfInBounds_toArray, List.set_cons_zero, List.set_cons_succ, List.getElem_toArray, List.getElem_cons_zero, List.getElem_cons_succ]
        refine Eq.mpr (if_pos (by rfl)) ?_
        refine app_bareW (Operand.tmp 30) (Operand.tmp 33) rfl _ _ KB1.out rfl A n a K4.out.na rfl (K4.out.ea.up hH14.below) LE1.out (fun R1 r1 v15 hrow hgrow => ?_)
        have KR1 := Lib.hid hrow
        try replace KR2 := Lib.hid (KR2.out.gr KB1.out.box hgrow)
        try replace KY := Lib.hid (KY.out.gr hgrow (box_ne KB1.out.box KY.out))
        try replace KB2 := Lib.hid (KB2.out.gr hgrow (by first | exact KN.out | exact KN.out.symm))
        have hH15x := hH14.gr KB1.out.box hgrow HL1.out
        clear hrow hgrow KB1
        refine hK.out _ _ hH15x (fun hH15 => ?_)
        clear hK K hH14 hH15x
        refine wpAnyH_ready (rs := [13, 16]) (by kernel_rfl) (by simp) ?_
        refine AllReadyH.cons rfl (fun K hK => ?_) ?_
        · try simp only [Act.put, List.setIfInBounds_toArray, List.set_cons_zero, List.set_cons_succ, List.getElem_toArray, List.getElem_cons_zero, List.getElem_cons_succ]
          refine Eq.mpr (if_pos (by rfl)) ?_
          refine app_bareW (Operand.tmp 35) (Operand.tmp 38) rfl _ _ KB2.out rfl B m b K4.out.nb rfl (K4.out.eb.up hH15.below) LE2.out (fun R2 r2 v16 hrow hgrow => ?_)
          have KR2 := Lib.hid hrow
          try replace KR1 := Lib.hid (KR1.out.gr KB2.out.box hgrow)
          try replace KY := Lib.hid (KY.out.gr hgrow (box_ne KB2.out.box KY.out))
          try replace KB1 := Lib.hid (KB1.out.gr hgrow (by first | exact KN.out | exact KN.out.symm))
          have hH16x := hH15.gr KB2.out.box hgrow HL2.out
          clear hrow hgrow KB2
          refine hK.out _ _ hH16x (fun hH16 => ?_)
          clear hK K hH15 hH16x
          refine wpAnyH_take (i := 14) (v := ?_) rfl (by kernel_rfl) (by kernel_rfl) (by kernel_rfl) (fun _ _ _ h => h) (Or.inl ⟨by rfl, ?_⟩) hH16 ?_
          rotate_left
          · (intro v hSw; have k0 := hSw.b0.cell; go_simp; try with_reducible rfl)
          simp only [Act.put, List.setIfInBounds_toArray, List.set_cons_zero, List.set_cons_succ, List.getElem_toArray, List.getElem_cons_zero, List.getElem_cons_succ]
          refine wpAnyH_take (i := 15) (v := ?_) rfl (by kernel_rfl) (by kernel_rfl) (by kernel_rfl) (fun _ _ _ h => h) (Or.inl ⟨by rfl, ?_⟩) hH16 ?_
          rotate_left
          · (intro v hSw; have k0 := hSw.b0.cell; go_simp; try with_reducible rfl)
          simp only [Act.put, List.setIfInBounds_toArray, List.set_cons_zero, List.set_cons_succ, List.getElem_toArray, List.getElem_cons_zero, List.getElem_cons_succ]
          refine wpAnyH_ready (rs := [16]) (by kernel_rfl) (by simp) ?_
          refine AllReadyH.cons rfl (fun K hK => ?_) AllReadyH.nil
          try replace KB1 := Lib.hid (KB1.out.up (below1 (o := .cells #[.bool false, .int .u64 0, .slice none 0 0, .slice none 0 0] 26)))
          try replace KB2 := Lib.hid (KB2.out.up (below1 (o := .cells #[.bool false, .int .u64 0, .slice none 0 0, .slice none 0 0] 26)))
          try replace KR1 := Lib.hid (KR1.out.up (below1 (o := .cells #[.bool false, .int .u64 0, .slice none 0 0, .slice none 0 0] 26)))
          try replace KR2 := Lib.hid (KR2.out.up (below1 (o := .cells #[.bool false, .int .u64 0, .slice none 0 0, .slice none 0 0] 26)))
          have KY := Lib.hid (Box.new v16 [.bool false, .int .u64 0, .slice none 0 0, .slice none 0 0] 26)
          have HYB := Lib.hid (hH16.below.size)
          go_simp
          refine hK.out _ _ (hH16.alloc (.cells #[.bool false, .int .u64 0, .slice none 0 0, .slice none 0 0] 26)) (fun hH17 => ?_)
          clear hK K hH16
          generalize v16.alloc (.cells #[.bool false, .int .u64 0, .slice none 0 0, .slice none 0 0] 26) = v17 at *
          refine wpAnyH_ready (rs := [17]) (by kernel_rfl) (by simp) ?_
          refine AllReadyH.cons rfl (fun K hK => ?_) AllReadyH.nil
          have kx := KY.out.cell
          have fx := KY.out.frozen
          go_simp
          refine hK.out _ _ (hH17.past4 HXB.out HYB.out _ _ _ _) (fun hH18 => ?_)
          have KA := Lib.hid ((Lk.mk KR1.out.es KR2.out.es KR1.out.no KR2.out.no KR1.out.le KR2.out.le : Lk _ ⟨u, s, a, b⟩ R1 r1 R2 r2).four_no KY.out (noT_lk _ _ _ _ _ _ _ _) (.bool u) (.int .u64 s) (.slice R1 a.length r1) (.slice R2 b.length r2))
          replace KY := Lib.hid (KY.out.four (.bool u) (.int .u64 s) (.slice R1 a.length r1) (.slice R2 b.length r2))
          clear hK K hH17 kx fx KR1 KR2
          generalize (((v17.setCell ⟨v16.heap.size, 0, none⟩ (.bool u)).setCell ⟨v16.heap.size, 1, none⟩ (.int .u64 s)).setCell ⟨v16.heap.size, 2, none⟩ (.slice R1 a.length r1)).setCell ⟨v16.heap.size, 3, none⟩ (.slice R2 b.length r2) = v18 at *
          refine wpAnyH_done (by kernel_rfl) ?_ _
          exact HK R1 r1 R2 r2 v16.heap.size v0.heap.size v1.heap.size v18 hH18.below KA.out KY.out
        refine AllReadyH.cons rfl (fun K hK => ?_) AllReadyH.nil
        try replace KB1 := Lib.hid (KB1.out.up (below1 (o := .cells #[.bool false, .int .u64 0, .slice none 0 0, .slice none 0 0] 26)))
        try replace KB2 := Lib.hid (KB2.out.up (below1 (o := .cells #[.bool false, .int .u64 0, .slice none 0 0, .slice none 0 0] 26)))
        try replace KR1 := Lib.hid (KR1.out.up (below1 (o := .cells #[.bool false, .int .u64 0, .slice none 0 0, .slice none 0 0] 26)))
        try replace KR2 := Lib.hid (KR2.out.up (below1 (o := .cells #[.bool false, .int .u64 0, .slice none 0 0, .slice none 0 0] 26)))
        have KY := Lib.hid (Box.new v15 [.bool false, .int .u64 0, .slice none 0 0, .slice none 0 0] 26)
        have HYB := Lib.hid (hH15.below.size)
        go_simp
        refine hK.out _ _ (hH15.alloc (.cells #[.bool false, .int .u64 0, .slice none 0 0, .slice none 0 0] 26)) (fun hH19 => ?_)
        clear hK K hH15
        generalize v15.alloc (.cells #[.bool false, .int .u64 0, .slice none 0 0, .slice none 0 0] 26) = v19 at *
        refine wpAnyH_ready (rs := [13]) (by kernel_rfl) (by simp) ?_
        refine AllReadyH.cons rfl (fun K hK => ?_) AllReadyH.nil
        try simp only [Act.put, List.setIfInBounds_toArray, List.set_cons_zero, List.set_cons_succ, List.getElem_toArray, List.getElem_cons_zero, List.getElem_cons_succ]
        refine Eq.mpr (if_pos (by rfl)) ?_
        refine app_bareW (Operand.tmp 35) (Operand.tmp 38) rfl _ _ KB2.out rfl B m b K4.out.nb rfl (K4.out.eb.up hH19.below) LE2.out (fun R2 r2 v20 hrow hgrow => ?_)
        have KR2 := Lib.hid hrow
        try replace KR1 := Lib.hid (KR1.out.gr KB2.out.box hgrow)
        try replace KY := Lib.hid (KY.out.gr hgrow (box_ne KB2.out.box KY.out))
        try replace KB1 := Lib.hid (KB1.out.gr hgrow (by first | exact KN.out | exact KN.out.symm))
        have hH20x := hH19.gr KB2.out.box hgrow HL2.out
        clear hrow hgrow KB2
        refine hK.out _ _ hH20x (fun hH20 => ?_)
        clear hK K hH19 hH20x
        refine wpAnyH_take (i := 14) (v := ?_) rfl (by kernel_rfl) (by kernel_rfl) (by kernel_rfl) (fun _ _ _ h => h) (Or.inl ⟨by rfl, ?_⟩) hH20 ?_
        rotate_left
        · (intro v hSw; have k0 := hSw.b0.cell; go_simp; try with_reducible rfl)
        simp only [Act.put, List.setIfInBounds_toArray, List.set_cons_zero, List.set_cons_succ, List.getElem_toArray, List.getElem_cons_zero, List.getElem_cons_succ]
        refine wpAnyH_take (i := 15) (v := ?_) rfl (by kernel_rfl) (by kernel_rfl) (by kernel_rfl) (fun _ _ _ h => h) (Or.inl ⟨by rfl, ?_⟩) hH20 ?_
        rotate_left
        · (intro v hSw; have k0 := hSw.b0.cell; go_simp; try with_reducible rfl)
        simp only [Act.put, List.setIfInBounds_toArray, List.set_cons_zero, List.set_cons_succ, List.getElem_toArray, List.getElem_cons_zero, List.getElem_cons_succ]
        refine wpAnyH_ready (rs := [17]) (by kernel_rfl) (by simp) ?_
        refine AllReadyH.cons rfl (fun K hK => ?_) AllReadyH.nil
        have kx := KY.out.cell
        have fx := KY.out.frozen
        go_simp
        refine hK.out _ _ (hH20.past4 HXB.out HYB.out _ _ _ _) (fun hH21 => ?_)
        have KA := Lib.hid ((Lk.mk KR1.out.es KR2.out.es KR1.out.no KR2.out.no KR1.out.le KR2.out.le : Lk _ ⟨u, s, a, b⟩ R1 r1 R2 r2).four_no KY.out (noT_lk _ _ _ _ _ _ _ _) (.bool u) (.int .u64 s) (.slice R1 a.length r1) (.slice R2 b.length r2))
        replace KY := Lib.hid (KY.out.four (.bool u) (.int .u64 s) (.slice R1 a.length r1) (.slice R2 b.length r2))
        clear hK K hH20 kx fx KR1 KR2
        generalize (((v20.setCell ⟨v15.heap.size, 0, none⟩ (.bool u)).setCell ⟨v15.heap.size, 1, none⟩ (.int .u64 s)).setCell ⟨v15.heap.size, 2, none⟩ (.slice R1 a.length r1)).setCell ⟨v15.heap.size, 3, none⟩ (.slice R2 b.length r2) = v21 at *
        refine wpAnyH_done (by kernel_rfl) ?_ _
        exact HK R1 r1 R2 r2 v15.heap.size v0.heap.size v1.heap.size v21 hH21.below KA.out KY.out
      refine AllReadyH.cons rfl (fun K hK => ?_) AllReadyH.nil
      try replace KB1 := Lib.hid (KB1.out.up (below1 (o := .cells #[.bool false, .int .u64 0, .slice none 0 0, .slice none 0 0] 26)))
      try replace KB2 := Lib.hid (KB2.out.up (below1 (o := .cells #[.bool false, .int .u64 0, .slice none 0 0, .slice none 0 0] 26)))
      try replace KR1 := Lib.hid (KR1.out.up (below1 (o := .cells #[.bool false, .int .u64 0, .slice none 0 0, .slice none 0 0] 26)))
      try replace KR2 := Lib.hid (KR2.out.up (below1 (o := .cells #[.bool false, .int .u64 0, .slice none 0 0, .slice none 0 0] 26)))
      have KY := Lib.hid (Box.new v14 [.bool false, .int .u64 0, .slice none 0 0, .slice none 0 0] 26)
      have HYB := Lib.hid (hH14.below.size)
      go_simp
      refine hK.out _ _ (hH14.alloc (.cells #[.bool false, .int .u64 0, .slice none 0 0, .slice none 0 0] 26)) (fun hH22 => ?_)
      clear hK K hH14
      generalize v14.alloc (.cells #[.bool false, .int .u64 0, .slice none 0 0, .slice none 0 0] 26) = v22 at *
      refine wpAnyH_ready (rs := [8]) (by kernel_rfl) (by simp) ?_
      refine AllReadyH.cons rfl (fun K hK => ?_) AllReadyH.nil
      try simp only [Act.put, List.setIfInBounds_toArray, List.set_cons_zero, List.set_cons_succ, List.getElem_toArray, List.getElem_cons_zero, List.getElem_cons_succ]
      refine Eq.mpr (if_pos (by rfl)) ?_
      refine app_bareW (Operand.tmp 30) (Operand.tmp 33) rfl _ _ KB1.out rfl A n a K4.out.na rfl (K4.out.ea.up hH22.below) LE1.out (fun R1 r1 v23 hrow hgrow => ?_)
      have KR1 := Lib.hid hrow
      try replace KR2 := Lib.hid (KR2.out.gr KB1.out.box hgrow)
      try replace KY := Lib.hid (KY.out.gr hgrow (box_ne KB1.out.box KY.out))
      try replace KB2 := Lib.hid (KB2.out.gr hgrow (by first | exact KN.out | exact KN.out.symm))
      have hH23x := hH22.gr KB1.out.box hgrow HL1.out
      clear hrow hgrow KB1
      refine hK.out _ _ hH23x (fun hH23 => ?_)
      clear hK K hH22 hH23x
      refine wpAnyH_ready (rs := [13]) (by kernel_rfl) (by simp) ?_
      refine AllReadyH.cons rfl (fun K hK => ?_) AllReadyH.nil
      try simp only [Act.put, List.setIfInBounds_toArray, List.set_cons_zero, List.set_cons_succ, List.getElem_toArray, List.getElem_cons_zero, List.getElem_cons_succ]
      refine Eq.mpr (if_pos (by rfl)) ?_
      refine app_bareW (Operand.tmp 35) (Operand.tmp 38) rfl _ _ KB2.out rfl B m b K4.out.nb rfl (K4.out.eb.up hH23.below) LE2.out (fun R2 r2 v24 hrow hgrow => ?_)
      have KR2 := Lib.hid hrow
      try replace KR1 := Lib.hid (KR1.out.gr KB2.out.box hgrow)
      try replace KY := Lib.hid (KY.out.gr hgrow (box_ne KB2.out.box KY.out))
      try replace KB1 := Lib.hid (KB1.out.gr hgrow (by first | exact KN.out | exact KN.out.symm))
      have hH24x := hH23.gr KB2.out.box hgrow HL2.out
      clear hrow hgrow KB2
      refine hK.out _ _ hH24x (fun hH24 => ?_)
      clear hK K hH23 hH24x
      refine wpAnyH_take (i := 14) (v := ?_) rfl (by kernel_rfl) (by kernel_rfl) (by kernel_rfl) (fun _ _ _ h => h) (Or.inl ⟨by rfl, ?_⟩) hH24 ?_
      rotate_left
      · (intro v hSw; have k0 := hSw.b0.cell; go_simp; try with_reducible rfl)
      simp only [Act.put, List.setIfInBounds_toArray, List.set_cons_zero, List.set_cons_succ, List.getElem_toArray, List.getElem_cons_zero, List.getElem_cons_succ]
      refine wpAnyH_take (i := 15) (v := ?_) rfl (by kernel_rfl) (by kernel_rfl) (by kernel_rfl) (fun _ _ _ h => h) (Or.inl ⟨by rfl, ?_⟩) hH24 ?_
      rotate_left
      · (intro v hSw; have k0 := hSw.b0.cell; go_simp; try with_reducible rfl)
      simp only [Act.put, List.setIfInBounds_toArray, List.set_cons_zero, List.set_cons_succ, List.getElem_toArray, List.getElem_cons_zero, List.getElem_cons_succ]
      refine wpAnyH_ready (rs := [17]) (by kernel_rfl) (by simp) ?_
      refine AllReadyH.cons rfl (fun K hK => ?_) AllReadyH.nil
      have kx := KY.out.cell
      have fx := KY.out.frozen
      go_simp
      refine hK.out _ _ (hH24.past4 HXB.out HYB.out _ _ _ _) (fun hH25 => ?_)
      have KA := Lib.hid ((Lk.mk KR1.out.es KR2.out.es KR1.out.no KR2.out.no KR1.out.le KR2.out.le : Lk _ ⟨u, s, a, b⟩ R1 r1 R2 r2).four_no KY.out (noT_lk _ _ _ _ _ _ _ _) (.bool u) (.int .u64 s) (.slice R1 a.length r1) (.slice R2 b.length r2))
      replace KY := Lib.hid (KY.out.four (.bool u) (.int .u64 s) (.slice R1 a.length r1) (.slice R2 b.length r2))
      clear hK K hH24 kx fx KR1 KR2
      generalize (((v24.setCell ⟨v14.heap.size, 0, none⟩ (.bool u)).setCell ⟨v14.heap.size, 1, none⟩ (.int .u64 s)).setCell ⟨v14.heap.size, 2, none⟩ (.slice R1 a.length r1)).setCell ⟨v14.heap.size, 3, none⟩ (.slice R2 b.length r2) = v25 at *
      refine wpAnyH_done (by kernel_rfl) ?_ _
      exact HK R1 r1 R2 r2 v14.heap.size v0.heap.size v1.heap.size v25 hH25.below KA.out KY.out
    refine AllReadyH.cons rfl (fun K hK => ?_) AllReadyH.nil
    try replace KB1 := Lib.hid (KB1.out.up (below1 (o := .cells #[.bool false, .int .u64 0, .slice none 0 0, .slice none 0 0] 26)))
    try replace KB2 := Lib.hid (KB2.out.up (below1 (o := .cells #[.bool false, .int .u64 0, .slice none 0 0, .slice none 0 0] 26)))
    try replace KR1 := Lib.hid (KR1.out.up (below1 (o := .cells #[.bool false, .int .u64 0, .slice none 0 0, .slice none 0 0] 26)))
    try replace KR2 := Lib.hid (KR2.out.up (below1 (o := .cells #[.bool false, .int .u64 0, .slice none 0 0, .slice none 0 0] 26)))
    have KY := Lib.hid (Box.new v1 [.bool false, .int .u64 0, .slice none 0 0, .slice none 0 0] 26)
    have HYB := Lib.hid (hH1.below.size)
    go_simp
    refine hK.out _ _ (hH1.alloc (.cells #[.bool false, .int .u64 0, .slice none 0 0, .slice none 0 0] 26)) (fun hH26 => ?_)
    clear hK K hH1
    generalize v1.alloc (.cells #[.bool false, .int .u64 0, .slice none 0 0, .slice none 0 0] 26) = v26 at *
    refine wpAnyH_ready (rs := [8, 9]) (by kernel_rfl) (by simp) ?_
    refine AllReadyH.cons rfl (fun K hK => ?_) ?_
    · try simp only [Act.put, List.setIfInBounds_toArray, List.set_cons_zero, List.set_cons_succ, List.getElem_toArray, List.getElem_cons_zero, List.getElem_cons_succ]
      refine Eq.mpr (if_pos (by rfl)) ?_
      refine app_bareW (Operand.tmp 30) (Operand.tmp 33) rfl _ _ KB1.out rfl A n a K4.out.na rfl (K4.out.ea.up hH26.below) LE1.out (fun R1 r1 v27 hrow hgrow => ?_)
      have KR1 := Lib.hid hrow
      try replace KR2 := Lib.hid (KR2.out.gr KB1.out.box hgrow)
      try replace KY := Lib.hid (KY.out.gr hgrow (box_ne KB1.out.box KY.out))
      try replace KB2 := Lib.hid (KB2.out.gr hgrow (by first | exact KN.out | exact KN.out.symm))
      have hH27x := hH26.gr KB1.out.box hgrow HL1.out
      clear hrow hgrow KB1
      refine hK.out _ _ hH27x (fun hH27 => ?_)
      clear hK K hH26 hH27x
      refine wpAnyH_ready (rs := [9]) (by kernel_rfl) (by simp) ?_
      refine AllReadyH.cons rfl (fun K hK => ?_) AllReadyH.nil
      try have KN := Lib.hid (Nat.ne_of_lt KB1.out.box.lt)
      try replace KB1 := Lib.hid (KB1.out.up (below1 (o := .cells #[] 9)))
      try replace KR1 := Lib.hid (KR1.out.up (below1 (o := .cells #[] 9)))
      try replace KY := Lib.hid (KY.out.alloc (.cells #[] 9))
      have KB2 := Lib.hid (Bare.new v27)
      have HL2 := Lib.hid (hH27.below.size)
      go_simp
      refine hK.out _ _ (hH27.alloc (.cells #[] 9)) (fun hH28 => ?_)
      clear hK K hH27
      generalize v27.alloc (.cells #[] 9) = v28 at *
      refine wpAnyH_ready (rs := [13]) (by kernel_rfl) (by simp) ?_
      refine AllReadyH.cons rfl (fun K hK => ?_) AllReadyH.nil
      try simp only [Act.put, List.setIfInBounds_toArray, List.set_cons_zero, List.set_cons_succ, List.getElem_toArray, List.getElem_cons_zero, List.getElem_cons_succ]
      refine Eq.mpr (if_pos (by rfl)) ?_
      refine app_bareW (Operand.tmp 35) (Operand.tmp 38) rfl _ _ KB2.out rfl B m b K4.out.nb rfl (K4.out.eb.up hH28.below) LE2.out (fun R2 r2 v29 hrow hgrow => ?_)
      have KR2 := Lib.hid hrow
      try replace KR1 := Lib.hid (KR1.out.gr KB2.out.box hgrow)
      try replace KY := Lib.hid (KY.out.gr hgrow (box_ne KB2.out.box KY.out))
      try replace KB1 := Lib.hid (KB1.out.gr hgrow (by first | exact KN.out | exact KN.out.symm))
      have hH29x := hH28.gr KB2.out.box hgrow HL2.out
      clear hrow hgrow KB2
      refine hK.out _ _ hH29x (fun hH29 => ?_)
      clear hK K hH28 hH29x
      refine wpAnyH_take (i := 14) (v := ?_) rfl (by kernel_rfl) (by kernel_rfl) (by kernel_rfl) (fun _ _ _ h => h) (Or.inl ⟨by rfl, ?_⟩) hH29 ?_
      rotate_left
      · (intro v hSw; have k0 := hSw.b0.cell; go_simp; try with_reducible rfl)
      simp only [Act.put, List.setIfInBounds_toArray, List.set_cons_zero, List.set_cons_succ, List.getElem_toArray, List.getElem_cons_zero, List.getElem_cons_succ]
      refine wpAnyH_take (i := 15) (v := ?_) rfl (by kernel_rfl) (by kernel_rfl) (by kernel_rfl) (fun _ _ _ h => h) (Or.inl ⟨by rfl, ?_⟩) hH29 ?_
      rotate_left
      · (intro v hSw; have k0 := hSw.b0.cell; go_simp; try with_reducible rfl)
      simp only [Act.put, List.setIfInBounds_toArray, List.set_cons_zero, List.set_cons_succ, List.getElem_toArray, List.getElem_cons_zero, List.getElem_cons_succ]
      refine wpAnyH_ready (rs := [17]) (by kernel_rfl) (by simp) ?_
      refine AllReadyH.cons rfl (fun K hK => ?_) AllReadyH.nil
      have kx := KY.out.cell
      have fx := KY.out.frozen
      go_simp
      refine hK.out _ _ (hH29.past4 HXB.out HYB.out _ _ _ _) (fun hH30 => ?_)
      have KA := Lib.hid ((Lk.mk KR1.out.es KR2.out.es KR1.out.no KR2.out.no KR1.out.le KR2.out.le : Lk _ ⟨u, s, a, b⟩ R1 r1 R2 r2).four_no KY.out (noT_lk _ _ _ _ _ _ _ _) (.bool u) (.int .u64 s) (.slice R1 a.length r1) (.slice R2 b.length r2))
      replace KY := Lib.hid (KY.out.four (.bool u) (.int .u64 s) (.slice R1 a.length r1) (.slice R2 b.length r2))
      clear hK K hH29 kx fx KR1 KR2
      generalize (((v29.setCell ⟨v1.heap.size, 0, none⟩ (.bool u)).setCell ⟨v1.heap.size, 1, none⟩ (.int .u64 s)).setCell ⟨v1.heap.size, 2, none⟩ (.slice R1 a.length r1)).setCell ⟨v1.heap.size, 3, none⟩ (.slice R2 b.length r2) = v30 at *
      refine wpAnyH_done (by kernel_rfl) ?_ _
      exact HK R1 r1 R2 r2 v1.heap.size v0.heap.size v27.heap.size v30 hH30.below KA.out KY.out
    refine AllReadyH.cons rfl (fun K hK => ?_) AllReadyH.nil
    try have KN := Lib.hid (Nat.ne_of_lt KB1.out.box.lt)
    try replace KB1 := Lib.hid (KB1.out.up (below1 (o := .cells #[] 9)))
    try replace KR1 := Lib.hid (KR1.out.up (below1 (o := .cells #[] 9)))
    try replace KY := Lib.hid (KY.out.alloc (.cells #[] 9))
    have KB2 := Lib.hid (Bare.new v26)
    have HL2 := Lib.hid (hH26.below.size)
    go_simp
    refine hK.out _ _ (hH26.alloc (.cells #[] 9)) (fun hH31 => ?_)
    clear hK K hH26
    generalize v26.alloc (.cells #[] 9) = v31 at *
    refine wpAnyH_ready (rs := [8]) (by kernel_rfl) (by simp) ?_
    refine AllReadyH.cons rfl (fun K hK => ?_) AllReadyH.nil
    try simp only [Act.put, List.setIfInBounds_toArray, List.set_cons_zero, List.set_cons_succ, List.getElem_toArray, List.getElem_cons_zero, List.getElem_cons_succ]
    refine Eq.mpr (if_pos (by rfl)) ?_
    refine app_bareW (Operand.tmp 30) (Operand.tmp 33) rfl _ _ KB1.out rfl A n a K4.out.na rfl (K4.out.ea.up hH31.below) LE1.out (fun R1 r1 v32 hrow hgrow => ?_)
    have KR1 := Lib.hid hrow
    try replace KR2 := Lib.hid (KR2.out.gr KB1.out.box hgrow)
    try replace KY := Lib.hid (KY.out.gr hgrow (box_ne KB1.out.box KY.out))
    try replace KB2 := Lib.hid (KB2.out.gr hgrow (by first | exact KN.out | exact KN.out.symm))
    have hH32x := hH31.gr KB1.out.box hgrow HL1.out
    clear hrow hgrow KB1
    refine hK.out _ _ hH32x (fun hH32 => ?_)
    clear hK K hH31 hH32x
    refine wpAnyH_ready (rs := [13]) (by kernel_rfl) (by simp) ?_
    refine AllReadyH.cons rfl (fun K hK => ?_) AllReadyH.nil
    try simp only [Act.put, List.setIfInBounds_toArray, List.set_cons_zero, List.set_cons_succ, List.getElem_toArray, List.getElem_cons_zero, List.getElem_cons_succ]
    refine Eq.mpr (if_pos (by rfl)) ?_
    refine app_bareW (Operand.tmp 35) (Operand.tmp 38) rfl _ _ KB2.out rfl B m b K4.out.nb rfl (K4.out.eb.up hH32.below) LE2.out (fun R2 r2 v33 hrow hgrow => ?_)
    have KR2 := Lib.hid hrow
    try replace KR1 := Lib.hid (KR1.out.gr KB2.out.box hgrow)
    try replace KY := Lib.hid (KY.out.gr hgrow (box_ne KB2.out.box KY.out))
    try replace KB1 := Lib.hid (KB1.out.gr hgrow (by first | exact KN.out | exact KN.out.symm))
    have hH33x := hH32.gr KB2.out.box hgrow HL2.out
    clear hrow hgrow KB2
    refine hK.out _ _ hH33x (fun hH33 => ?_)
    clear hK K hH32 hH33x
    refine wpAnyH_take (i := 14) (v := ?_) rfl (by kernel_rfl) (by kernel_rfl) (by kernel_rfl) (fun _ _ _ h => h) (Or.inl ⟨by rfl, ?_⟩) hH33 ?_
    rotate_left
    · (intro v hSw; have k0 := hSw.b0.cell; go_simp; try with_reducible rfl)
    simp only [Act.put, List.setIfInBounds_toArray, List.set_cons_zero, List.set_cons_succ, List.getElem_toArray, List.getElem_cons_zero, List.getElem_cons_succ]
    refine wpAnyH_take (i := 15) (v := ?_) rfl (by kernel_rfl) (by kernel_rfl) (by kernel_rfl) (fun _ _ _ h => h) (Or.inl ⟨by rfl, ?_⟩) hH33 ?_
    rotate_left
    · (intro v hSw; have k0 := hSw.b0.cell; go_simp; try with_reducible rfl)
    simp only [Act.put, List.setIfInBounds_toArray, List.set_cons_zero, List.set_cons_succ, List.getElem_toArray, List.getElem_cons_zero, List.getElem_cons_succ]
    refine wpAnyH_ready (rs := [17]) (by kernel_rfl) (by simp) ?_
    refine AllReadyH.cons rfl (fun K hK => ?_) AllReadyH.nil
    have kx := KY.out.cell
    have fx := KY.out.frozen
    go_simp
    refine hK.out _ _ (hH33.past4 HXB.out HYB.out _ _ _ _) (fun hH34 => ?_)
    have KA := Lib.hid ((Lk.mk KR1.out.es KR2.out.es KR1.out.no KR2.out.no KR1.out.le KR2.out.le : Lk _ ⟨u, s, a, b⟩ R1 r1 R2 r2).four_no KY.out (noT_lk _ _ _ _ _ _ _ _) (.bool u) (.int .u64 s) (.slice R1 a.length r1) (.slice R2 b.length r2))
    replace KY := Lib.hid (KY.out.four (.bool u) (.int .u64 s) (.slice R1 a.length r1) (.slice R2 b.length r2))
    clear hK K hH33 kx fx KR1 KR2
    generalize (((v33.setCell ⟨v1.heap.size, 0, none⟩ (.bool u)).setCell ⟨v1.heap.size, 1, none⟩ (.int .u64 s)).setCell ⟨v1.heap.size, 2, none⟩ (.slice R1 a.length r1)).setCell ⟨v1.heap.size, 3, none⟩ (.slice R2 b.length r2) = v34 at *
    refine wpAnyH_done (by kernel_rfl) ?_ _
    exact HK R1 r1 R2 r2 v1.heap.size v0.heap.size v26.heap.size v34 hH34.below KA.out KY.out
  refine AllReadyH.cons rfl (fun K hK => ?_) ?_
  · try have KN := Lib.hid (Nat.ne_of_lt KB1.out.box.lt)
    try replace KB1 := Lib.hid (KB1.out.up (below1 (o := .cells #[] 9)))
    try replace KR1 := Lib.hid (KR1.out.up (below1 (o := .cells #[] 9)))
    try replace KY := Lib.hid (KY.out.alloc (.cells #[] 9))
    have KB2 := Lib.hid (Bare.new v0)
    have HL2 := Lib.hid (hH0.below.size)
    go_simp
    refine hK.out _ _ (hH0.alloc (.cells #[] 9)) (fun hH35 => ?_)
    clear hK K hH0
    generalize v0.alloc (.cells #[] 9) = v35 at *
    refine wpAnyH_ready (rs := [4, 16]) (by kernel_rfl) (by simp) ?_
    refine AllReadyH.cons rfl (fun K hK => ?_) ?_
    · try have KN := Lib.hid (Nat.ne_of_lt KB2.out.box.lt)
      try replace KB2 := Lib.hid (KB2.out.up (below1 (o := .cells #[] 9)))
      try replace KR2 := Lib.hid (KR2.out.up (below1 (o := .cells #[] 9)))
      try replace KY := Lib.hid (KY.out.alloc (.cells #[] 9))
      have KB1 := Lib.hid (Bare.new v35)
      have HL1 := Lib.hid (hH35.below.size)
      go_simp
      refine hK.out _ _ (hH35.alloc (.cells #[] 9)) (fun hH36 => ?_)
      clear hK K hH35
      generalize v35.alloc (.cells #[] 9) = v36 at *
      refine wpAnyH_ready (rs := [8, 16]) (by kernel_rfl) (by simp) ?_
      refine AllReadyH.cons rfl (fun K hK => ?_) ?_
      · try simp only [Act.put, List.setIfInBounds_toArray, List.set_cons_zero, List.set_cons_succ, List.getElem_toArray, List.getElem_cons_zero, List.getElem_cons_succ]
        refine Eq.mpr (if_pos (by rfl)) ?_
        refine app_bareW (Operand.tmp 30) (Operand.tmp 33) rfl _ _ KB1.out rfl A n a K4.out.na rfl (K4.out.ea.up hH36.below) LE1.out (fun R1 r1 v37 hrow hgrow => ?_)
        have KR1 := Lib.hid hrow
        try replace KR2 := Lib.hid (KR2.out.gr KB1.out.box hgrow)
        try replace KY := Lib.hid (KY.out.gr hgrow (box_ne KB1.out.box KY.out))
        try replace KB2 := Lib.hid (KB2.out.gr hgrow (by first | exact KN.out | exact KN.out.symm))
        have hH37x := hH36.gr KB1.out.box hgrow HL1.out
        clear hrow hgrow KB1
        refine hK.out _ _ hH37x (fun hH37 => ?_)
        clear hK K hH36 hH37x
        refine wpAnyH_ready (rs := [13, 16]) (by kernel_rfl) (by simp) ?_
        refine AllReadyH.cons rfl (fun K hK => ?_) ?_
        · try simp only [Act.put, List.setIfInBounds_toArray, List.set_cons_zero, List.set_cons_succ, List.getElem_toArray, List.getElem_cons_zero, List.getElem_cons_succ]
          refine Eq.mpr (if_pos (by rfl)) ?_
          refine app_bareW (Operand.tmp 35) (Operand.tmp 38) rfl _ _ KB2.out rfl B m b K4.out.nb rfl (K4.out.eb.up hH37.below) LE2.out (fun R2 r2 v38 hrow hgrow => ?_)
          have KR2 := Lib.hid hrow
          try replace KR1 := Lib.hid (KR1.out.gr KB2.out.box hgrow)
          try replace KY := Lib.hid (KY.out.gr hgrow (box_ne KB2.out.box KY.out))
          try replace KB1 := Lib.hid (KB1.out.gr hgrow (by first | exact KN.out | exact KN.out.symm))
          have hH38x := hH37.gr KB2.out.box hgrow HL2.out
          clear hrow hgrow KB2
          refine hK.out _ _ hH38x (fun hH38 => ?_)
          clear hK K hH37 hH38x
          refine wpAnyH_take (i := 14) (v := ?_) rfl (by kernel_rfl) (by kernel_rfl) (by kernel_rfl) (fun _ _ _ h => h) (Or.inl ⟨by rfl, ?_⟩) hH38 ?_
          rotate_left
          · (intro v hSw; have k0 := hSw.b0.cell; go_simp; try with_reducible rfl)
          simp only [Act.put, List.setIfInBounds_toArray, List.set_cons_zero, List.set_cons_succ, List.getElem_toArray, List.getElem_cons_zero, List.getElem_cons_succ]
          refine wpAnyH_take (i := 15) (v := ?_) rfl (by kernel_rfl) (by kernel_rfl) (by kernel_rfl) (fun _ _ _ h => h) (Or.inl ⟨by rfl, ?_⟩) hH38 ?_
          rotate_left
          · (intro v hSw; have k0 := hSw.b0.cell; go_simp; try with_reducible rfl)
          simp only [Act.put, List.setIfInBounds_toArray, List.set_cons_zero, List.set_cons_succ, List.getElem_toArray, List.getElem_cons_zero, List.getElem_cons_succ]
          refine wpAnyH_ready (rs := [16]) (by kernel_rfl) (by simp) ?_
          refine AllReadyH.cons rfl (fun K hK => ?_) AllReadyH.nil
          try replace KB1 := Lib.hid (KB1.out.up (below1 (o := .cells #[.bool false, .int .u64 0, .slice none 0 0, .slice none 0 0] 26)))
          try replace KB2 := Lib.hid (KB2.out.up (below1 (o := .cells #[.bool false, .int .u64 0, .slice none 0 0, .slice none 0 0] 26)))
          try replace KR1 := Lib.hid (KR1.out.up (below1 (o := .cells #[.bool false, .int .u64 0, .slice none 0 0, .slice none 0 0] 26)))
          try replace KR2 := Lib.hid (KR2.out.up (below1 (o := .cells #[.bool false, .int .u64 0, .slice none 0 0, .slice none 0 0] 26)))
          have KY := Lib.hid (Box.new v38 [.bool false, .int .u64 0, .slice none 0 0, .slice none 0 0] 26)
          have HYB := Lib.hid (hH38.below.size)
          go_simp
          refine hK.out _ _ (hH38.alloc (.cells #[.bool false, .int .u64 0, .slice none 0 0, .slice none 0 0] 26)) (fun hH39 => ?_)
          clear hK K hH38
          generalize v38.alloc (.cells #[.bool false, .int .u64 0, .slice none 0 0, .slice none 0 0] 26) = v39 at *
          refine wpAnyH_ready (rs := [17]) (by kernel_rfl) (by simp) ?_
          refine AllReadyH.cons rfl (fun K hK => ?_) AllReadyH.nil
          have kx := KY.out.cell
          have fx := KY.out.frozen
          go_simp
          refine hK.out _ _ (hH39.past4 HXB.out HYB.out _ _ _ _) (fun hH40 => ?_)
          have KA := Lib.hid ((Lk.mk KR1.out.es KR2.out.es KR1.out.no KR2.out.no KR1.out.le KR2.out.le : Lk _ ⟨u, s, a, b⟩ R1 r1 R2 r2).four_no KY.out (noT_lk _ _ _ _ _ _ _ _) (.bool u) (.int .u64 s) (.slice R1 a.length r1) (.slice R2 b.length r2))
          replace KY := Lib.hid (KY.out.four (.bool u) (.int .u64 s) (.slice R1 a.length r1) (.slice R2 b.length r2))
          clear hK K hH39 kx fx KR1 KR2
          generalize (((v39.setCell ⟨v38.heap.size, 0, none⟩ (.bool u)).setCell ⟨v38.heap.size, 1, none⟩ (.int .u64 s)).setCell ⟨v38.heap.size, 2, none⟩ (.slice R1 a.length r1)).setCell ⟨v38.heap.size, 3, none⟩ (.slice R2 b.length r2) = v40 at *
          refine wpAnyH_done (by kernel_rfl) ?_ _
          exact HK R1 r1 R2 r2 v38.heap.size v35.heap.size v0.heap.size v40 hH40.below KA.out KY.out
        refine AllReadyH.cons rfl (fun K hK => ?_) AllReadyH.nil
        try replace KB1 := Lib.hid (KB1.out.up (below1 (o := .cells #[.bool false, .int .u64 0, .slice none 0 0, .slice none 0 0] 26)))
        try replace KB2 := Lib.hid (KB2.out.up (below1 (o := .cells #[.bool false, .int .u64 0, .slice none 0 0, .slice none 0 0] 26)))
        try replace KR1 := Lib.hid (KR1.out.up (below1 (o := .cells #[.bool false, .int .u64 0, .slice none 0 0, .slice none 0 0] 26)))
        try replace KR2 := Lib.hid (KR2.out.up (below1 (o := .cells #[.bool false, .int .u64 0, .slice none 0 0, .slice none 0 0] 26)))
        have KY := Lib.hid (Box.new v37 [.bool false, .int .u64 0, .slice none 0 0, .slice none 0 0] 26)
        have HYB := Lib.hid (hH37.below.size)
        go_simp
        refine hK.out _ _ (hH37.alloc (.cells #[.bool false, .int .u64 0, .slice none 0 0, .slice none 0 0] 26)) (fun hH41 => ?_)
        clear hK K hH37
        generalize v37.alloc (.cells #[.bool false, .int .u64 0, .slice none 0 0, .slice none 0 0] 26) = v41 at *
        refine wpAnyH_ready (rs := [13]) (by kernel_rfl) (by simp) ?_
        refine AllReadyH.cons rfl (fun K hK => ?_) AllReadyH.nil
        try simp only [Act.put, List.setIfInBounds_toArray, List.set_cons_zero, List.set_cons_succ, List.getElem_toArray, List.getElem_cons_zero, List.getElem_cons_succ]
        refine Eq.mpr (if_pos (by rfl)) ?_
        refine app_bareW (Operand.tmp 35) (Operand.tmp 38) rfl _ _ KB2.out rfl B m b K4.out.nb rfl (K4.out.eb.up hH41.below) LE2.out (fun R2 r2 v42 hrow hgrow => ?_)
        have KR2 := Lib.hid hrow
        try replace KR1 := Lib.hid (KR1.out.gr KB2.out.box hgrow)
        try replace KY := Lib.hid (KY.out.gr hgrow (box_ne KB2.out.box KY.out))
        try replace KB1 := Lib.hid (KB1.out.gr hgrow (by first | exact KN.out | exact KN.out.symm))
        have hH42x := hH41.gr KB2.out.box hgrow HL2.out
        clear hrow hgrow KB2
        refine hK.out _ _ hH42x (fun hH42 => ?_)
        clear hK K hH41 hH42x
        refine wpAnyH_take (i := 14) (v := ?_) rfl (by kernel_rfl) (by kernel_rfl) (by kernel_rfl) (fun _ _ _ h => h) (Or.inl ⟨by rfl, ?_⟩) hH42 ?_
        rotate_left
        · (intro v hSw; have k0 := hSw.b0.cell; go_simp; try with_reducible rfl)
        simp only [Act.put, List.setIfInBounds_toArray, List.set_cons_zero, List.set_cons_succ, List.getElem_toArray, List.getElem_cons_zero, List.getElem_cons_succ]
        refine wpAnyH_take (i := 15) (v := ?_) rfl (by kernel_rfl) (by kernel_rfl) (by kernel_rfl) (fun _ _ _ h => h) (Or.inl ⟨by rfl, ?_⟩) hH42 ?_
        rotate_left
        · (intro v hSw; have k0 := hSw.b0.cell; go_simp; try with_reducible rfl)
        simp only [Act.put, List.setIfInBounds_toArray, List.set_cons_zero, List.set_cons_succ, List.getElem_toArray, List.getElem_cons_zero, List.getElem_cons_succ]
        refine wpAnyH_ready (rs := [17]) (by kernel_rfl) (by simp) ?_
        refine AllReadyH.cons rfl (fun K hK => ?_) AllReadyH.nil
        have kx := KY.out.cell
        have fx := KY.out.frozen
        go_simp
        refine hK.out _ _ (hH42.past4 HXB.out HYB.out _ _ _ _) (fun hH43 => ?_)
        have KA := Lib.hid ((Lk.mk KR1.out.es KR2.out.es KR1.out.no KR2.out.no KR1.out.le KR2.out.le : Lk _ ⟨u, s, a, b⟩ R1 r1 R2 r2).four_no KY.out (noT_lk _ _ _ _ _ _ _ _) (.bool u) (.int .u64 s) (.slice R1 a.length r1) (.slice R2 b.length r2))
        replace KY := Lib.hid (KY.out.four (.bool u) (.int .u64 s) (.slice R1 a.length r1) (.slice R2 b.length r2))
        clear hK K hH42 kx fx KR1 KR2
        generalize (((v42.setCell ⟨v37.heap.size, 0, none⟩ (.bool u)).setCell ⟨v37.heap.size, 1, none⟩ (.int .u64 s)).setCell ⟨v37.heap.size, 2, none⟩ (.slice R1 a.length r1)).setCell ⟨v37.heap.size, 3, none⟩ (.slice R2 b.length r2) = v43 at *
        refine wpAnyH_done (by kernel_rfl) ?_ _
        exact HK R1 r1 R2 r2 v37.heap.size v35.heap.size v0.heap.size v43 hH43.below KA.out KY.out
      refine AllReadyH.cons rfl (fun K hK => ?_) AllReadyH.nil
      try replace KB1 := Lib.hid (KB1.out.up (below1 (o := .cells #[.bool false, .int .u64 0, .slice none 0 0, .slice none 0 0] 26)))
      try replace KB2 := Lib.hid (KB2.out.up (below1 (o := .cells #[.bool false, .int .u64 0, .slice none 0 0, .slice none 0 0] 26)))
      try replace KR1 := Lib.hid (KR1.out.up (below1 (o := .cells #[.bool false, .int .u64 0, .slice none 0 0, .slice none 0 0] 26)))
      try replace KR2 := Lib.hid (KR2.out.up (below1 (o := .cells #[.bool false, .int .u64 0, .slice none 0 0, .slice none 0 0] 26)))
      have KY := Lib.hid (Box.new v36 [.bool false, .int .u64 0, .slice none 0 0, .slice none 0 0] 26)
      have HYB := Lib.hid (hH36.below.size)
      go_simp
      refine hK.out _ _ (hH36.alloc (.cells #[.bool false, .int .u64 0, .slice none 0 0, .slice none 0 0] 26)) (fun hH44 => ?_)
      clear hK K hH36
      generalize v36.alloc (.cells #[.bool false, .int .u64 0, .slice none 0 0, .slice none 0 0] 26) = v44 at *
      refine wpAnyH_ready (rs := [8]) (by kernel_rfl) (by simp) ?_
      refine AllReadyH.cons rfl (fun K hK => ?_) AllReadyH.nil
      try simp only [Act.put, List.setIfInBounds_toArray, List.set_cons_zero, List.set_cons_succ, List.getElem_toArray, List.getElem_cons_zero, List.getElem_cons_succ]
      refine Eq.mpr (if_pos (by rfl)) ?_
      refine app_bareW (Operand.tmp 30) (Operand.tmp 33) rfl _ _ KB1.out rfl A n a K4.out.na rfl (K4.out.ea.up hH44.below) LE1.out (fun R1 r1 v45 hrow hgrow => ?_)
      have KR1 := Lib.hid hrow
      try replace KR2 := Lib.hid (KR2.out.gr KB1.out.box hgrow)
      try replace KY := Lib.hid (KY.out.gr hgrow (box_ne KB1.out.box KY.out))
      try replace KB2 := Lib.hid (KB2.out.gr hgrow (by first | exact KN.out | exact KN.out.symm))
      have hH45x := hH44.gr KB1.out.box hgrow HL1.out
      clear hrow hgrow KB1
      refine hK.out _ _ hH45x (fun hH45 => ?_)
      clear hK K hH44 hH45x
      refine wpAnyH_ready (rs := [13]) (by kernel_rfl) (by simp) ?_
      refine AllReadyH.cons rfl (fun K hK => ?_) AllReadyH.nil
      try simp only [Act.put, List.setIfInBounds_toArray, List.set_cons_zero, List.set_cons_succ, List.getElem_toArray, List.getElem_cons_zero, List.getElem_cons_succ]
      refine Eq.mpr (if_pos (by rfl)) ?_
      refine app_bareW (Operand.tmp 35) (Operand.tmp 38) rfl _ _ KB2.out rfl B m b K4.out.nb rfl (K4.out.eb.up hH45.below) LE2.out (fun R2 r2 v46 hrow hgrow => ?_)
      have KR2 := Lib.hid hrow
      try replace KR1 := Lib.hid (KR1.out.gr KB2.out.box hgrow)
      try replace KY := Lib.hid (KY.out.gr hgrow (box_ne KB2.out.box KY.out))
      try replace KB1 := Lib.hid (KB1.out.gr hgrow (by first | exact KN.out | exact KN.out.symm))
      have hH46x := hH45.gr KB2.out.box hgrow HL2.out
      clear hrow hgrow KB2
      refine hK.out _ _ hH46x (fun hH46 => ?_)
      clear hK K hH45 hH46x
      refine wpAnyH_take (i := 14) (v := ?_) rfl (by kernel_rfl) (by kernel_rfl) (by kernel_rfl) (fun _ _ _ h => h) (Or.inl ⟨by rfl, ?_⟩) hH46 ?_
      rotate_left
      · (intro v hSw; have k0 := hSw.b0.cell; go_simp; try with_reducible rfl)
      simp only [Act.put, List.setIfInBounds_toArray, List.set_cons_zero, List.set_cons_succ, List.getElem_toArray, List.getElem_cons_zero, List.getElem_cons_succ]
      refine wpAnyH_take (i := 15) (v := ?_) rfl (by kernel_rfl) (by kernel_rfl) (by kernel_rfl) (fun _ _ _ h => h) (Or.inl ⟨by rfl, ?_⟩) hH46 ?_
      rotate_left
      · (intro v hSw; have k0 := hSw.b0.cell; go_simp; try with_reducible rfl)
      simp only [Act.put, List.setIfInBounds_toArray, List.set_cons_zero, List.set_cons_succ, List.getElem_toArray, List.getElem_cons_zero, List.getElem_cons_succ]
      refine wpAnyH_ready (rs := [17]) (by kernel_rfl) (by simp) ?_
      refine AllReadyH.cons rfl (fun K hK => ?_) AllReadyH.nil
      have kx := KY.out.cell
      have fx := KY.out.frozen
      go_simp
      refine hK.out _ _ (hH46.past4 HXB.out HYB.out _ _ _ _) (fun hH47 => ?_)
      have KA := Lib.hid ((Lk.mk KR1.out.es KR2.out.es KR1.out.no KR2.out.no KR1.out.le KR2.out.le : Lk _ ⟨u, s, a, b⟩ R1 r1 R2 r2).four_no KY.out (noT_lk _ _ _ _ _ _ _ _) (.bool u) (.int .u64 s) (.slice R1 a.length r1) (.slice R2 b.length r2))
      replace KY := Lib.hid (KY.out.four (.bool u) (.int .u64 s) (.slice R1 a.length r1) (.slice R2 b.length r2))
      clear hK K hH46 kx fx KR1 KR2
      generalize (((v46.setCell ⟨v36.heap.size, 0, none⟩ (.bool u)).setCell ⟨v36.heap.size, 1, none⟩ (.int .u64 s)).setCell ⟨v36.heap.size, 2, none⟩ (.slice R1 a.length r1)).setCell ⟨v36.heap.size, 3, none⟩ (.slice R2 b.length r2) = v47 at *
      refine wpAnyH_done (by kernel_rfl) ?_ _
      exact HK R1 r1 R2 r2 v36.heap.size v35.heap.size v0.heap.size v47 hH47.below KA.out KY.out
    refine AllReadyH.cons rfl (fun K hK => ?_) AllReadyH.nil
    try replace KB1 := Lib.hid (KB1.out.up (below1 (o := .cells #[.bool false, .int .u64 0, .slice none 0 0, .slice none 0 0] 26)))
    try replace KB2 := Lib.hid (KB2.out.up (below1 (o := .cells #[.bool false, .int .u64 0, .slice none 0 0, .slice none 0 0] 26)))
    try replace KR1 := Lib.hid (KR1.out.up (below1 (o := .cells #[.bool false, .int .u64 0, .slice none 0 0, .slice none 0 0] 26)))
    try replace KR2 := Lib.hid (KR2.out.up (below1 (o := .cells #[.bool false, .int .u64 0, .slice none 0 0, .slice none 0 0] 26)))
    have KY := Lib.hid (Box.new v35 [.bool false, .int .u64 0, .slice none 0 0, .slice none 0 0] 26)
    have HYB := Lib.hid (hH35.below.size)
    go_simp
    refine hK.out _ _ (hH35.alloc (.cells #[.bool false, .int .u64 0, .slice none 0 0, .slice none 0 0] 26)) (fun hH48 => ?_)
    clear hK K hH35
    generalize v35.alloc (.cells #[.bool false, .int .u64 0, .slice none 0 0, .slice none 0 0] 26) = v48 at *
    refine wpAnyH_ready (rs := [4]) (by kernel_rfl) (by simp) ?_
    refine AllReadyH.cons rfl (fun K hK => ?_) AllReadyH.nil
    try have KN := Lib.hid (Nat.ne_of_lt KB2.out.box.lt)
    try replace KB2 := Lib.hid (KB2.out.up (below1 (o := .cells #[] 9)))
    try replace KR2 := Lib.hid (KR2.out.up (below1 (o := .cells #[] 9)))
    try replace KY := Lib.hid (KY.out.alloc (.cells #[] 9))
    have KB1 := Lib.hid (Bare.new v48)
    have HL1 := Lib.hid (hH48.below.size)
    go_simp
    refine hK.out _ _ (hH48.alloc (.cells #[] 9)) (fun hH49 => ?_)
    clear hK K hH48
    generalize v48.alloc (.cells #[] 9) = v49 at *
    refine wpAnyH_ready (rs := [8]) (by kernel_rfl) (by simp) ?_
    refine AllReadyH.cons rfl (fun K hK => ?_) AllReadyH.nil
    try simp only [Act.put, List.setIfInBounds_toArray, List.set_cons_zero, List.set_cons_succ, List.getElem_toArray, List.getElem_cons_zero, List.getElem_cons_succ]
    refine Eq.mpr (if_pos (by rfl)) ?_
    refine app_bareW (Operand.tmp 30) (Operand.tmp 33) rfl _ _ KB1.out rfl A n a K4.out.na rfl (K4.out.ea.up hH49.below) LE1.out (fun R1 r1 v50 hrow hgrow => ?_)
    have KR1 := Lib.hid hrow
    try replace KR2 := Lib.hid (KR2.out.gr KB1.out.box hgrow)
    try replace KY := Lib.hid (KY.out.gr hgrow (box_ne KB1.out.box KY.out))
    try replace KB2 := Lib.hid (KB2.out.gr hgrow (by first | exact KN.out | exact KN.out.symm))
    have hH50x := hH49.gr KB1.out.box hgrow HL1.out
    clear hrow hgrow KB1
    refine hK.out _ _ hH50x (fun hH50 => ?_)
    clear hK K hH49 hH50x
    refine wpAnyH_ready (rs := [13]) (by kernel_rfl) (by simp) ?_
    refine AllReadyH.cons rfl (fun K hK => ?_) AllReadyH.nil
    try simp only [Act.put, List.setIfInBounds_toArray, List.set_cons_zero, List.set_cons_succ, List.getElem_toArray, List.getElem_cons_zero, List.getElem_cons_succ]
    refine Eq.mpr (if_pos (by rfl)) ?_
    refine app_bareW (Operand.tmp 35) (Operand.tmp 38) rfl _ _ KB2.out rfl B m b K4.out.nb rfl (K4.out.eb.up hH50.below) LE2.out (fun R2 r2 v51 hrow hgrow => ?_)
    have KR2 := Lib.hid hrow
    try replace KR1 := Lib.hid (KR1.out.gr KB2.out.box hgrow)
    try replace KY := Lib.hid (KY.out.gr hgrow (box_ne KB2.out.box KY.out))
    try replace KB1 := Lib.hid (KB1.out.gr hgrow (by first | exact KN.out | exact KN.out.symm))
    have hH51x := hH50.gr KB2.out.box hgrow HL2.out
    clear hrow hgrow KB2
    refine hK.out _ _ hH51x (fun hH51 => ?_)
    clear hK K hH50 hH51x
    refine wpAnyH_take (i := 14) (v := ?_) rfl (by kernel_rfl) (by kernel_rfl) (by kernel_rfl) (fun _ _ _ h => h) (Or.inl ⟨by rfl, ?_⟩) hH51 ?_
    rotate_left
    · (intro v hSw; have k0 := hSw.b0.cell; go_simp; try with_reducible rfl)
    simp only [Act.put, List.setIfInBounds_toArray, List.set_cons_zero, List.set_cons_succ, List.getElem_toArray, List.getElem_cons_zero, List.getElem_cons_succ]
    refine wpAnyH_take (i := 15) (v := ?_) rfl (by kernel_rfl) (by kernel_rfl) (by kernel_rfl) (fun _ _ _ h => h) (Or.inl ⟨by rfl, ?_⟩) hH51 ?_
    rotate_left
    · (intro v hSw; have k0 := hSw.b0.cell; go_simp; try with_reducible rfl)
    simp only [Act.put, List.setIfInBounds_toArray, List.set_cons_zero, List.set_cons_succ, List.getElem_toArray, List.getElem_cons_zero, List.getElem_cons_succ]
    refine wpAnyH_ready (rs := [17]) (by kernel_rfl) (by simp) ?_
    refine AllReadyH.cons rfl (fun K hK => ?_) AllReadyH.nil
    have kx := KY.out.cell
    have fx := KY.out.frozen
    go_simp
    refine hK.out _ _ (hH51.past4 HXB.out HYB.out _ _ _ _) (fun hH52 => ?_)
    have KA := Lib.hid ((Lk.mk KR1.out.es KR2.out.es KR1.out.no KR2.out.no KR1.out.le KR2.out.le : Lk _ ⟨u, s, a, b⟩ R1 r1 R2 r2).four_no KY.out (noT_lk _ _ _ _ _ _ _ _) (.bool u) (.int .u64 s) (.slice R1 a.length r1) (.slice R2 b.length r2))
    replace KY := Lib.hid (KY.out.four (.bool u) (.int .u64 s) (.slice R1 a.length r1) (.slice R2 b.length r2))
    clear hK K hH51 kx fx KR1 KR2
    generalize (((v51.setCell ⟨v35.heap.size, 0, none⟩ (.bool u)).setCell ⟨v35.heap.size, 1, none⟩ (.int .u64 s)).setCell ⟨v35.heap.size, 2, none⟩ (.slice R1 a.length r1)).setCell ⟨v35.heap.size, 3, none⟩ (.slice R2 b.length r2) = v52 at *
    refine wpAnyH_done (by kernel_rfl) ?_ _
    exact HK R1 r1 R2 r2 v35.heap.size v48.heap.size v0.heap.size v52 hH52.below KA.out KY.out
  refine AllReadyH.cons rfl (fun K hK => ?_) AllReadyH.nil
  try replace KB1 := Lib.hid (KB1.out.up (below1 (o := .cells #[.bool false, .int .u64 0, .slice none 0 0, .slice none 0 0] 26)))
  try replace KB2 := Lib.hid (KB2.out.up (below1 (o := .cells #[.bool false, .int .u64 0, .slice none 0 0, .slice none 0 0] 26)))
  try replace KR1 := Lib.hid (KR1.out.up (below1 (o := .cells #[.bool false, .int .u64 0, .slice none 0 0, .slice none 0 0] 26)))
  try replace KR2 := Lib.hid (KR2.out.up (below1 (o := .cells #[.bool false, .int .u64 0, .slice none 0 0, .slice none 0 0] 26)))
  have KY := Lib.hid (Box.new v0 [.bool false, .int .u64 0, .slice none 0 0, .slice none 0 0] 26)
  have HYB := Lib.hid (hH0.below.size)
  go_simp
  refine hK.out _ _ (hH0.alloc (.cells #[.bool false, .int .u64 0, .slice none 0 0, .slice none 0 0] 26)) (fun hH53 => ?_)
  clear hK K hH0
  generalize v0.alloc (.cells #[.bool false, .int .u64 0, .slice none 0 0, .slice none 0 0] 26) = v53 at *
  refine wpAnyH_ready (rs := [4, 9]) (by kernel_rfl) (by simp) ?_
  refine AllReadyH.cons rfl (fun K hK => ?_) ?_
  · try have KN := Lib.hid (Nat.ne_of_lt KB2.out.box.lt)
    try replace KB2 := Lib.hid (KB2.out.up (below1 (o := .cells #[] 9)))
    try replace KR2 := Lib.hid (KR2.out.up (below1 (o := .cells #[] 9)))
    try replace KY := Lib.hid (KY.out.alloc (.cells #[] 9))
    have KB1 := Lib.hid (Bare.new v53)
    have HL1 := Lib.hid (hH53.below.size)
    go_simp
    refine hK.out _ _ (hH53.alloc (.cells #[] 9)) (fun hH54 => ?_)
    clear hK K hH53
    generalize v53.alloc (.cells #[] 9) = v54 at *
    refine wpAnyH_ready (rs := [8, 9]) (by kernel_rfl) (by simp) ?_
    refine AllReadyH.cons rfl (fun K hK => ?_) ?_
    · try simp only [Act.put, List.setIfInBounds_toArray, List.set_cons_zero, List.set_cons_succ, List.getElem_toArray, List.getElem_cons_zero, List.getElem_cons_succ]
      refine Eq.mpr (if_pos (by rfl)) ?_
      refine app_bareW (Operand.tmp 30) (Operand.tmp 33) rfl _ _ KB1.out rfl A n a K4.out.na rfl (K4.out.ea.up hH54.below) LE1.out (fun R1 r1 v55 hrow hgrow => ?_)
      have KR1 := Lib.hid hrow
      try replace KR2 := Lib.hid (KR2.out.gr KB1.out.box hgrow)
      try replace KY := Lib.hid (KY.out.gr hgrow (box_ne KB1.out.box KY.out))
      try replace KB2 := Lib.hid (KB2.out.gr hgrow (by first | exact KN.out | exact KN.out.symm))
      have hH55x := hH54.gr KB1.out.box hgrow HL1.out
      clear hrow hgrow KB1
      refine hK.out _ _ hH55x (fun hH55 => ?_)
      clear hK K hH54 hH55x
      refine wpAnyH_ready (rs := [9]) (by kernel_rfl) (by simp) ?_
      refine AllReadyH.cons rfl (fun K hK => ?_) AllReadyH.nil
      try have KN := Lib.hid (Nat.ne_of_lt KB1.out.box.lt)
      try replace KB1 := Lib.hid (KB1.out.up (below1 (o := .cells #[] 9)))
      try replace KR1 := Lib.hid (KR1.out.up (below1 (o := .cells #[] 9)))
      try replace KY := Lib.hid (KY.out.alloc (.cells #[] 9))
      have KB2 := Lib.hid (Bare.new v55)
      have HL2 := Lib.hid (hH55.below.size)
      go_simp
      refine hK.out _ _ (hH55.alloc (.cells #[] 9)) (fun hH56 => ?_)
      clear hK K hH55
      generalize v55.alloc (.cells #[] 9) = v56 at *
      refine wpAnyH_ready (rs := [13]) (by kernel_rfl) (by simp) ?_
      refine AllReadyH.cons rfl (fun K hK => ?_) AllReadyH.nil
      try simp only [Act.put, List.setIfInBounds_toArray, List.set_cons_zero, List.set_cons_succ, List.getElem_toArray, List.getElem_cons_zero, List.getElem_cons_succ]
      refine Eq.mpr (if_pos (by rfl)) ?_
      refine app_bareW (Operand.tmp 35) (Operand.tmp 38) rfl _ _ KB2.out rfl B m b K4.out.nb rfl (K4.out.eb.up hH56.below) LE2.out (fun R2 r2 v57 hrow hgrow => ?_)
      have KR2 := Lib.hid hrow
      try replace KR1 := Lib.hid (KR1.out.gr KB2.out.box hgrow)
      try replace KY := Lib.hid (KY.out.gr hgrow (box_ne KB2.out.box KY.out))
      try replace KB1 := Lib.hid (KB1.out.gr hgrow (by first | exact KN.out | exact KN.out.symm))
      have hH57x := hH56.gr KB2.out.box hgrow HL2.out
      clear hrow hgrow KB2
      refine hK.out _ _ hH57x (fun hH57 => ?_)
      clear hK K hH56 hH57x
      refine wpAnyH_take (i := 14) (v := ?_) rfl (by kernel_rfl) (by kernel_rfl) (by kernel_rfl) (fun _ _ _ h => h) (Or.inl ⟨by rfl, ?_⟩) hH57 ?_
      rotate_left
      · (intro v hSw; have k0 := hSw.b0.cell; go_simp; try with_reducible rfl)
      simp only [Act.put, List.setIfInBounds_toArray, List.set_cons_zero, List.set_cons_succ, List.getElem_toArray, List.getElem_cons_zero, List.getElem_cons_succ]
      refine wpAnyH_take (i := 15) (v := ?_) rfl (by kernel_rfl) (by kernel_rfl) (by kernel_rfl) (fun _ _ _ h => h) (Or.inl ⟨by rfl, ?_⟩) hH57 ?_
      rotate_left
      · (intro v hSw; have k0 := hSw.b0.cell; go_simp; try with_reducible rfl)
      simp only [Act.put, List.setIfInBounds_toArray, List.set_cons_zero, List.set_cons_succ, List.getElem_toArray, List.getElem_cons_zero, List.getElem_cons_succ]
      refine wpAnyH_ready (rs := [17]) (by kernel_rfl) (by simp) ?_
      refine AllReadyH.cons rfl (fun K hK => ?_) AllReadyH.nil
      have kx := KY.out.cell
      have fx := KY.out.frozen
      go_simp
      refine hK.out _ _ (hH57.past4 HXB.out HYB.out _ _ _ _) (fun hH58 => ?_)
      have KA := Lib.hid ((Lk.mk KR1.out.es KR2.out.es KR1.out.no KR2.out.no KR1.out.le KR2.out.le : Lk _ ⟨u, s, a, b⟩ R1 r1 R2 r2).four_no KY.out (noT_lk _ _ _ _ _ _ _ _) (.bool u) (.int .u64 s) (.slice R1 a.length r1) (.slice R2 b.length r2))
      replace KY := Lib.hid (KY.out.four (.bool u) (.int .u64 s) (.slice R1 a.length r1) (.slice R2 b.length r2))
      clear hK K hH57 kx fx KR1 KR2
      generalize (((v57.setCell ⟨v0.heap.size, 0, none⟩ (.bool u)).setCell ⟨v0.heap.size, 1, none⟩ (.int .u64 s)).setCell ⟨v0.heap.size, 2, none⟩ (.slice R1 a.length r1)).setCell ⟨v0.heap.size, 3, none⟩ (.slice R2 b.length r2) = v58 at *
      refine wpAnyH_done (by kernel_rfl) ?_ _
      exact HK R1 r1 R2 r2 v0.heap.size v53.heap.size v55.heap.size v58 hH58.below KA.out KY.out
    refine AllReadyH.cons rfl (fun K hK => ?_) AllReadyH.nil
    try have KN := Lib.hid (Nat.ne_of_lt KB1.out.box.lt)
    try replace KB1 := Lib.hid (KB1.out.up (below1 (o := .cells #[] 9)))
    try replace KR1 := Lib.hid (KR1.out.up (below1 (o := .cells #[] 9)))
    try replace KY := Lib.hid (KY.out.alloc (.cells #[] 9))
    have KB2 := Lib.hid (Bare.new v54)
    have HL2 := Lib.hid (hH54.below.size)
    go_simp
    refine hK.out _ _ (hH54.alloc (.cells #[] 9)) (fun hH59 => ?_)
    clear hK K hH54
    generalize v54.alloc (.cells #[] 9) = v59 at *
    refine wpAnyH_ready (rs := [8]) (by kernel_rfl) (by simp) ?_
    refine AllReadyH.cons rfl (fun K hK => ?_) AllReadyH.nil
    try simp only [Act.put, List.setIfInBounds_toArray, List.set_cons_zero, List.set_cons_succ, List.getElem_toArray, List.getElem_cons_zero, List.getElem_cons_succ]
    refine Eq.mpr (if_pos (by rfl)) ?_
    refine app_bareW (Operand.tmp 30) (Operand.tmp 33) rfl _ _ KB1.out rfl A n a K4.out.na rfl (K4.out.ea.up hH59.below) LE1.out (fun R1 r1 v60 hrow hgrow => ?_)
    have KR1 := Lib.hid hrow
    try replace KR2 := Lib.hid (KR2.out.gr KB1.out.box hgrow)
    try replace KY := Lib.hid (KY.out.gr hgrow (box_ne KB1.out.box KY.out))
    try replace KB2 := Lib.hid (KB2.out.gr hgrow (by first | exact KN.out | exact KN.out.symm))
    have hH60x := hH59.gr KB1.out.box hgrow HL1.out
    clear hrow hgrow KB1
    refine hK.out _ _ hH60x (fun hH60 => ?_)
    clear hK K hH59 hH60x
    refine wpAnyH_ready (rs := [13]) (by kernel_rfl) (by simp) ?_
    refine AllReadyH.cons rfl (fun K hK => ?_) AllReadyH.nil
    try simp only [Act.put, List.setIfInBounds_toArray, List.set_cons_zero, List.set_cons_succ, List.getElem_toArray, List.getElem_cons_zero, List.getElem_cons_succ]
    refine Eq.mpr (if_pos (by rfl)) ?_
    refine app_bareW (Operand.tmp 35) (Operand.tmp 38) rfl _ _ KB2.out rfl B m b K4.out.nb rfl (K4.out.eb.up hH60.below) LE2.out (fun R2 r2 v61 hrow hgrow => ?_)
    have KR2 := Lib.hid hrow
    try replace KR1 := Lib.hid (KR1.out.gr KB2.out.box hgrow)
    try replace KY := Lib.hid (KY.out.gr hgrow (box_ne KB2.out.box KY.out))
    try replace KB1 := Lib.hid (KB1.out.gr hgrow (by first | exact KN.out | exact KN.out.symm))
    have hH61x := hH60.gr KB2.out.box hgrow HL2.out
    clear hrow hgrow KB2
    refine hK.out _ _ hH61x (fun hH61 => ?_)
    clear hK K hH60 hH61x
    refine wpAnyH_take (i := 14) (v := ?_) rfl (by kernel_rfl) (by kernel_rfl) (by kernel_rfl) (fun _ _ _ h => h) (Or.inl ⟨by rfl, ?_⟩) hH61 ?_
    rotate_left
    · (intro v hSw; have k0 := hSw.b0.cell; go_simp; try with_reducible rfl)
    simp only [Act.put, List.setIfInBounds_toArray, List.set_cons_zero, List.set_cons_succ, List.getElem_toArray, List.getElem_cons_zero, List.getElem_cons_succ]
    refine wpAnyH_take (i := 15) (v := ?_) rfl (by kernel_rfl) (by kernel_rfl) (by kernel_rfl) (fun _ _ _ h => h) (Or.inl ⟨by rfl, ?_⟩) hH61 ?_
    rotate_left
    · (intro v hSw; have k0 := hSw.b0.cell; go_simp; try with_reducible rfl)
    simp only [Act.put, List.setIfInBounds_toArray, List.set_cons_zero, List.set_cons_succ, List.getElem_toArray, List.getElem_cons_zero, List.getElem_cons_succ]
    refine wpAnyH_ready (rs := [17]) (by kernel_rfl) (by simp) ?_
    refine AllReadyH.cons rfl (fun K hK => ?_) AllReadyH.nil
    have kx := KY.out.cell
    have fx := KY.out.frozen
    go_simp
    refine hK.out _ _ (hH61.past4 HXB.out HYB.out _ _ _ _) (fun hH62 => ?_)
    have KA := Lib.hid ((Lk.mk KR1.out.es KR2.out.es KR1.out.no KR2.out.no KR1.out.le KR2.out.le : Lk _ ⟨u, s, a, b⟩ R1 r1 R2 r2).four_no KY.out (noT_lk _ _ _ _ _ _ _ _) (.bool u) (.int .u64 s) (.slice R1 a.length r1) (.slice R2 b.length r2))
    replace KY := Lib.hid (KY.out.four (.bool u) (.int .u64 s) (.slice R1 a.length r1) (.slice R2 b.length r2))
    clear hK K hH61 kx fx KR1 KR2
    generalize (((v61.setCell ⟨v0.heap.size, 0, none⟩ (.bool u)).setCell ⟨v0.heap.size, 1, none⟩ (.int .u64 s)).setCell ⟨v0.heap.size, 2, none⟩ (.slice R1 a.length r1)).setCell ⟨v0.heap.size, 3, none⟩ (.slice R2 b.length r2) = v62 at *
    refine wpAnyH_done (by kernel_rfl) ?_ _
    exact HK R1 r1 R2 r2 v0.heap.size v53.heap.size v54.heap.size v62 hH62.below KA.out KY.out
  refine AllReadyH.cons rfl (fun K hK => ?_) AllReadyH.nil
  try have KN := Lib.hid (Nat.ne_of_lt KB1.out.box.lt)
  try replace KB1 := Lib.hid (KB1.out.up (below1 (o := .cells #[] 9)))
  try replace KR1 := Lib.hid (KR1.out.up (below1 (o := .cells #[] 9)))
  try replace KY := Lib.hid (KY.out.alloc (.cells #[] 9))
  have KB2 := Lib.hid (Bare.new v53)
  have HL2 := Lib.hid (hH53.below.size)
  go_simp
  refine hK.out _ _ (hH53.alloc (.cells #[] 9)) (fun hH63 => ?_)
  clear hK K hH53
  generalize v53.alloc (.cells #[] 9) = v63 at *
  refine wpAnyH_ready (rs := [4]) (by kernel_rfl) (by simp) ?_
  refine AllReadyH.cons rfl (fun K hK => ?_) AllReadyH.nil
  try have KN := Lib.hid (Nat.ne_of_lt KB2.out.box.lt)
  try replace KB2 := Lib.hid (KB2.out.up (below1 (o := .cells #[] 9)))
  try replace KR2 := Lib.hid (KR2.out.up (below1 (o := .cells #[] 9)))
  try replace KY := Lib.hid (KY.out.alloc (.cells #[] 9))
  have KB1 := Lib.hid (Bare.new v63)
  have HL1 := Lib.hid (hH63.below.size)
  go_simp
  refine hK.out _ _ (hH63.alloc (.cells #[] 9)) (fun hH64 => ?_)
  clear hK K hH63
  generalize v63.alloc (.cells #[] 9) = v64 at *
  refine wpAnyH_ready (rs := [8]) (by kernel_rfl) (by simp) ?_
  refine AllReadyH.cons rfl (fun K hK => ?_) AllReadyH.nil
  try simp only [Act.put, List.setIfInBounds_toArray, List.set_cons_zero, List.set_cons_succ, List.getElem_toArray, List.getElem_cons_zero, List.getElem_cons_succ]
  refine Eq.mpr (if_pos (by rfl)) ?_
  refine app_bareW (Operand.tmp 30) (Operand.tmp 33) rfl _ _ KB1.out rfl A n a K4.out.na rfl (K4.out.ea.up hH64.below) LE1.out (fun R1 r1 v65 hrow hgrow => ?_)
  have KR1 := Lib.hid hrow
  try replace KR2 := Lib.hid (KR2.out.gr KB1.out.box hgrow)
  try replace KY := Lib.hid (KY.out.gr hgrow (box_ne KB1.out.box KY.out))
  try replace KB2 := Lib.hid (KB2.out.gr hgrow (by first | exact KN.out | exact KN.out.symm))
  have hH65x := hH64.gr KB1.out.box hgrow HL1.out
  clear hrow hgrow KB1
  refine hK.out _ _ hH65x (fun hH65 => ?_)
  clear hK K hH64 hH65x
  refine wpAnyH_ready (rs := [13]) (by kernel_rfl) (by simp) ?_
  refine AllReadyH.cons rfl (fun K hK => ?_) AllReadyH.nil
  try simp only [Act.put, List.setIfInBounds_toArray, List.set_cons_zero, List.set_cons_succ, List.getElem_toArray, List.getElem_cons_zero, List.getElem_cons_succ]
  refine Eq.mpr (if_pos (by rfl)) ?_
  refine app_bareW (Operand.tmp 35) (Operand.tmp 38) rfl _ _ KB2.out rfl B m b K4.out.nb rfl (K4.out.eb.up hH65.below) LE2.out (fun R2 r2 v66 hrow hgrow => ?_)
  have KR2 := Lib.hid hrow
  try replace KR1 := Lib.hid (KR1.out.gr KB2.out.box hgrow)
  try replace KY := Lib.hid (KY.out.gr hgrow (box_ne KB2.out.box KY.out))
  try replace KB1 := Lib.hid (KB1.out.gr hgrow (by first | exact KN.out | exact KN.out.symm))
  have hH66x := hH65.gr KB2.out.box hgrow HL2.out
  clear hrow hgrow KB2
  refine hK.out _ _ hH66x (fun hH66 => ?_)
  clear hK K hH65 hH66x
  refine wpAnyH_take (i := 14) (v := ?_) rfl (by kernel_rfl) (by kernel_rfl) (by kernel_rfl) (fun _ _ _ h => h) (Or.inl ⟨by rfl, ?_⟩) hH66 ?_
  rotate_left
  · (intro v hSw; have k0 := hSw.b0.cell; go_simp; try with_reducible rfl)
  simp only [Act.put, List.setIfInBounds_toArray, List.set_cons_zero, List.set_cons_succ, List.getElem_toArray, List.getElem_cons_zero, List.getElem_cons_succ]
  refine wpAnyH_take (i := 15) (v := ?_) rfl (by kernel_rfl) (by kernel_rfl) (by kernel_rfl) (fun _ _ _ h => h) (Or.inl ⟨by rfl, ?_⟩) hH66 ?_
  rotate_left
  · (intro v hSw; have k0 := hSw.b0.cell; go_simp; try with_reducible rfl)
  simp only [Act.put, List.setIfInBounds_toArray, List.set_cons_zero, List.set_cons_succ, List.getElem_toArray, List.getElem_cons_zero, List.getElem_cons_succ]
  refine wpAnyH_ready (rs := [17]) (by kernel_rfl) (by simp) ?_
  refine AllReadyH.cons rfl (fun K hK => ?_) AllReadyH.nil
  have kx := KY.out.cell
  have fx := KY.out.frozen
  go_simp
  refine hK.out _ _ (hH66.past4 HXB.out HYB.out _ _ _ _) (fun hH67 => ?_)
  have KA := Lib.hid ((Lk.mk KR1.out.es KR2.out.es KR1.out.no KR2.out.no KR1.out.le KR2.out.le : Lk _ ⟨u, s, a, b⟩ R1 r1 R2 r2).four_no KY.out (noT_lk _ _ _ _ _ _ _ _) (.bool u) (.int .u64 s) (.slice R1 a.length r1) (.slice R2 b.length r2))
  replace KY := Lib.hid (KY.out.four (.bool u) (.int .u64 s) (.slice R1 a.length r1) (.slice R2 b.length r2))
  clear hK K hH66 kx fx KR1 KR2
  generalize (((v66.setCell ⟨v0.heap.size, 0, none⟩ (.bool u)).setCell ⟨v0.heap.size, 1, none⟩ (.int .u64 s)).setCell ⟨v0.heap.size, 2, none⟩ (.slice R1 a.length r1)).setCell ⟨v0.heap.size, 3, none⟩ (.slice R2 b.length r2) = v67 at *
  refine wpAnyH_done (by kernel_rfl) ?_ _
  exact HK R1 r1 R2 r2 v0.heap.size v63.heap.size v53.heap.size v67 hH67.below KA.out KY.out
end Go.Proofs.Ytbjbdlgbppanmaa
