/- Links: the walk of LinkOrder. Under: lists of up to a hundred texts. -/
import Derived.Test.YtbjbdlgbppanmaaYG
namespace Go.Proofs.Ytbjbdlgbppanmaa
open Go.RowKit

theorem Es.set_no {w : World} {D : Nat} {A : Option Addr} {l : List ByteArray} (h : Es Value.string w D A l) {p : Addr} (hv : ∀ t, w.cell? p ≠ some (.string t)) (u : Value) : Es Value.string (w.setCell p u) D A l := by
  intro j t hj
  obtain ⟨a, ha, hlt, hc⟩ := h j t hj
  refine ⟨a, ha, hlt, ?_⟩
  rw [World.cell?_setCell_other _ _ _ _ (fun e => hv t (by rw [e]; exact hc))]
  exact hc

/-- No text among them. -/
def NoT (vs : List Value) : Prop := ∀ (j : Nat) (t : ByteArray), vs[j]? ≠ some (Value.string t)
theorem noT_lk (u : Bool) (s : Int) (A B : Option Addr) (x n y m : Nat) : NoT [.bool u, .int .u64 s, .slice A x n, .slice B y m] := by
  intro j t
  match j with
  | 0 => simp
  | 1 => simp
  | 2 => simp
  | 3 => simp
  | j + 4 => simp
theorem Es.four_no {w : World} {D b : Nat} {A : Option Addr} {l : List ByteArray} {v0 v1 v2 v3 : Value} (h : Es Value.string w D A l) (hx : Box w b [v0, v1, v2, v3]) (hn : NoT [v0, v1, v2, v3]) (u0 u1 u2 u3 : Value) :
    Es Value.string ((((w.setCell ⟨b, 0, none⟩ u0).setCell ⟨b, 1, none⟩ u1).setCell ⟨b, 2, none⟩ u2).setCell ⟨b, 3, none⟩ u3) D A l := by
  have h1 := h.set_no (p := ⟨b, 0, none⟩) (fun t => by rw [hx.cell 0]; exact hn 0 t) u0
  have x1 := hx.set 0 u0
  have h2 := h1.set_no (p := ⟨b, 1, none⟩) (fun t => by rw [x1.cell 1]; exact hn 1 t) u1
  have x2 := x1.set 1 u1
  have h3 := h2.set_no (p := ⟨b, 2, none⟩) (fun t => by rw [x2.cell 2]; exact hn 2 t) u2
  have x3 := x2.set 2 u2
  exact h3.set_no (p := ⟨b, 3, none⟩) (fun t => by rw [x3.cell 3]; exact hn 3 t) u3
theorem Lk.four_no {w : World} {b : Nat} {x : Lnk} {A B : Option Addr} {n m : Nat} {v0 v1 v2 v3 : Value} (h : Lk w x A n B m) (hx : Box w b [v0, v1, v2, v3]) (hn : NoT [v0, v1, v2, v3]) (u0 u1 u2 u3 : Value) :
    Lk ((((w.setCell ⟨b, 0, none⟩ u0).setCell ⟨b, 1, none⟩ u1).setCell ⟨b, 2, none⟩ u2).setCell ⟨b, 3, none⟩ u3) x A n B m := by
  have hs : ((((w.setCell ⟨b, 0, none⟩ u0).setCell ⟨b, 1, none⟩ u1).setCell ⟨b, 2, none⟩ u2).setCell ⟨b, 3, none⟩ u3).heap.size = w.heap.size := by simp
  exact ⟨by rw [hs]; exact h.ea.four_no hx hn u0 u1 u2 u3, by rw [hs]; exact h.eb.four_no hx hn u0 u1 u2 u3, h.na, h.nb, h.la, h.lb⟩
theorem held_know {w : World} {b : Nat} {vs : List Value} (h : Box w b vs) : Held w [(b, vs)] [] w := ⟨Below.refl _ _, Boxs.cons h (Boxs.nil w), by simp, by simp, by simp⟩
theorem Held.past4 {W0 w : World} {b g : Nat} {vs : List Value} (h : Held W0 [(b, vs)] [] w) (hb : b < W0.heap.size) (hg : W0.heap.size ≤ g) (u0 u1 u2 u3 : Value) :
    Held W0 [(b, vs)] [] ((((w.setCell ⟨g, 0, none⟩ u0).setCell ⟨g, 1, none⟩ u1).setCell ⟨g, 2, none⟩ u2).setCell ⟨g, 3, none⟩ u3) :=
  ⟨below4 h.below hg u0 u1 u2 u3, Boxs.cons (h.b0.past4 (by dsimp only; omega) u0 u1 u2 u3) (Boxs.nil _), by simp, by simp, by simp⟩
theorem kes_box {w : World} {b : Nat} {t : ByteArray} (h : Box w b [.string t]) : Es Value.string w w.heap.size (some ⟨b, 0, none⟩) [t] := by
  intro j y hj
  match j, hj with
  | 0, hj =>
    have e : t = y := by simpa using hj
    subst e
    refine ⟨_, rfl, h.lt, ?_⟩
    rw [show (⟨b, 0, none⟩ : Addr).add 0 = ⟨b, 0, none⟩ from by unfold Addr.add; rw [if_pos rfl]]
    exact h.cell 0

set_option maxRecDepth 100000 in
set_option maxHeartbeats 8000000 in
theorem korder_0 (u : Bool) (s S : Int) (a b : List ByteArray) (A B : Option Addr) (n m : Nat) (P : Option Addr) (np : Nat) (p : List ByteArray) (w : World) (hk : Lk w ⟨u, s, a, b⟩ A n B m) (hp : Es Value.string w w.heap.size P p) (hS : IntKind.u64.wrap (s + 1) = S) (hlp : p.length ≤ 100) (hgr : Lnk.great ⟨u, s, a, b⟩ = false)
    (ho : ∀ w, Lk w ⟨u, s, a, b⟩ A n B m → Calls Try.prog 13 #[.agg #[.bool u, .int .u64 s, .slice A a.length n, .slice B b.length m]] w (GivesK ⟨true, S, [], []⟩ id w))
    (hi : ∀ (A1 : Option Addr) (n1 : Nat) (B1 : Option Addr) (m1 : Nat) (w : World), Lk w ⟨true, S, [], []⟩ A1 n1 B1 m1 → Calls Try.prog 17 #[.agg #[.bool true, .int .u64 S, .slice A1 0 n1, .slice B1 0 m1]] w fun e w' => e = .returned (.bool true) ∧ Below w.heap.size w w')
    (hc : ∀ (A1 : Option Addr) (n1 : Nat) (B1 : Option Addr) (m1 : Nat) (w : World), Lk w ⟨true, S, [], []⟩ A1 n1 B1 m1 → Calls Try.prog 15 #[.agg #[.bool true, .int .u64 S, .slice A1 0 n1, .slice B1 0 m1]] w (GivesK ⟨false, S, [], []⟩ id w))
    (he : ∀ (y : Bool) (A1 : Option Addr) (n1 : Nat) (B1 : Option Addr) (m1 : Nat) (w : World), Lk w ⟨y, S, [], []⟩ A1 n1 B1 m1 → Calls Try.prog 8 #[.agg #[.bool y, .int .u64 S, .slice A1 0 n1, .slice B1 0 m1], .int .i64 0] w (GivesK ⟨y, S, [], []⟩ (fun v => .tuple #[.string ⟨#[]⟩, v, .bool false]) w))
    (ht : ∀ (l : List ByteArray) (t : ByteArray) (A1 : Option Addr) (n1 : Nat) (B1 : Option Addr) (m1 : Nat) (w : World), l.length ≤ 100 → Lk w ⟨true, S, (t :: l), []⟩ A1 n1 B1 m1 → Calls Try.prog 8 #[.agg #[.bool true, .int .u64 S, .slice A1 (l.length + 1) n1, .slice B1 0 m1], .int .i64 0] w (GivesK ⟨true, S, l, []⟩ (fun v => .tuple #[.string t, v, .bool true]) w))
    (hs : ∀ (l : List ByteArray) (t : ByteArray) (A1 : Option Addr) (n1 : Nat) (B1 : Option Addr) (m1 : Nat) (Q : Option Addr) (w : World), l.length ≤ 100 → Lk w ⟨true, S, l, []⟩ A1 n1 B1 m1 → Es Value.string w w.heap.size Q [t] → Calls Try.prog 10 #[.agg #[.bool true, .int .u64 S, .slice A1 l.length n1, .slice B1 0 m1], .int .i64 0, .slice Q 1 1] w (GivesK ⟨true, S, (l ++ [t]), []⟩ (fun v => .tuple #[v, .int .i64 0]) w)) :
    Calls Try.prog 4 #[.agg #[.bool u, .int .u64 s, .slice A a.length n, .slice B b.length m], .slice P p.length np, .bool false] w (Yes w) := by
  have HO := Lib.hid ho; clear ho
  have HI := Lib.hid hi; clear hi
  have HC := Lib.hid hc; clear hc
  have HE := Lib.hid he; clear he
  have HT := Lib.hid ht; clear ht
  have HS := Lib.hid hs; clear hs
  have hg := fun w => rkgreatG_any ⟨u, s, a, b⟩ A B n m w
  rw [hgr] at hg
  have HG := Lib.hid hg; clear hg hgr
  have e9 : decide (100 < (p.length : Int)) = false := decide_eq_false (by omega)
  have HL := Lib.hid hlp; clear hlp
  have EP := Lib.hid hp; clear hp
  have H0 := Lib.hid ((Held.refl w).lay [.bool u, .int .u64 s, .slice A a.length n, .slice B b.length m] 26)
  have K0 := Lib.hid (hk.alloc (.cells ([.bool u, .int .u64 s, .slice A a.length n, .slice B b.length m] : List Value).toArray 26))
  clear hk
  go_enter Try.func4, Try.ntmps4
  go_wp2_with fail
  refine (kalive_any _).mono ?_
  rintro e w1 ⟨rfl, hb⟩
  have H1 := Lib.hid (H0.out.up hb)
  have K1 := Lib.hid (K0.out.up hb)
  clear hb H0 K0
  have k0 := H1.out.b0.cell
  go_wp2_with fail
  refine (HG.out _).mono ?_
  rintro e w2 ⟨rfl, hb⟩
  have H2 := Lib.hid (H1.out.up hb)
  have K2 := Lib.hid (K1.out.up hb)
  clear hb H1 K1 HG k0
  have k0 := H2.out.b0.cell
  go_wp2_with fail
  refine (HO.out _ K2.out).mono ?_
  rintro e w3 ⟨A3, n3, B3, m3, rfl, hk3, hb⟩
  have BX := Lib.hid (Box.new w3 [.bool true, .int .u64 S, .slice A3 0 n3, .slice B3 0 m3] 26)
  have H3 := Lib.hid ((H2.out.up hb).own [.bool true, .int .u64 S, .slice A3 0 n3, .slice B3 0 m3] 26 (n := 4) rfl)
  have K3 := Lib.hid (hk3.alloc (.cells #[.bool true, .int .u64 S, .slice A3 0 n3, .slice B3 0 m3] 26))
  clear hb hk3 H2 K2 k0 HO
  have k0 := H3.out.b0.cell
  have k1 := BX.out.cell
  go_wp2_with fail
  refine (HI.out _ _ _ _ _ K3.out).mono ?_
  rintro e w4 ⟨rfl, hb⟩
  have H4 := Lib.hid (H3.out.up hb)
  have K4 := Lib.hid (K3.out.up hb)
  have BX4 := Lib.hid (BX.out.below hb)
  clear hb H3 K3 BX k0 k1
  have k0 := H4.out.b0.cell
  have k1 := BX4.out.cell
  go_wp2_with fail
  clear k0 k1
  go_loopw [9] (fun i wr => ∃ (k : Nat) (A1 : Option Addr) (n1 : Nat) (B1 : Option Addr) (m1 : Nat), k ≤ p.length ∧ i = .int .i64 k ∧ Hid (Box wr w3.heap.size [.bool true, .int .u64 S, .slice A1 (p.take k).length n1, .slice B1 0 m1]) ∧ Hid (Lk wr ⟨true, S, (p.take k), []⟩ A1 n1 B1 m1) ∧ Hid (Held w [(w.heap.size, [.bool u, .int .u64 s, .slice A a.length n, .slice B b.length m])] [(w3.heap.size, 4)] wr)) (fun i _ => p.length - (intOf i).toNat)
  case atStart => exact ⟨0, A3, n3, B3, m3, by omega, rfl, BX4, K4, H4⟩
  case round =>
    clear H4 BX4 K4
    obtain ⟨k, A1, n1, B1, m1, hk, rfl, HB, HK, HH⟩ := hrel
    have hl := HL.out
    by_cases hlt : k < p.length
    · have HTS := Lib.hid (take_snoc p k hlt)
      have hpl := (EP.out.up HH.out.below) k p[k] (List.getElem?_eq_getElem hlt)
      have hle : (p.take k).length ≤ 100 := by rw [List.length_take]; omega
      have HLE := Lib.hid hle; clear hle
      generalize p[k] = t at *
      generalize p.take k = l at *
      obtain ⟨ap, rfl, hpb, hpc⟩ := hpl
      have HPC := Lib.hid hpc; clear hpc
      have HPL := Lib.hid (show (ap.add k).block < _ from by rw [add_block]; exact hpb)
      clear hpb
      have HXB := Lib.hid HB.out.lt
      go_upto_region 14 with fail
      refine held_startC2 (S := Held _ [(w3.heap.size, [.bool true, .int .u64 S, .slice A1 l.length n1, .slice B1 0 m1])] []) (by kernel_rfl) (held_know HB.out).drew (fun v0 hv0 hH0 => ?_)
      clear hv0
      refine wpAnyH_take (i := 0) (v := ?_) rfl (by kernel_rfl) (by kernel_rfl) (by kernel_rfl) (fun _ _ _ h => h) (Or.inl ⟨by rfl, ?_⟩) hH0 ?_
      rotate_left
      · (intro v hSw; have k0 := hSw.b0.cell; go_simp; try with_reducible rfl)
      simp only [Act.put, List.setIfInBounds_toArray, List.set_cons_zero, List.set_cons_succ, List.getElem_toArray, List.getElem_cons_zero]
      refine wpAnyH_take (i := 1) (v := ?_) rfl (by kernel_rfl) (by kernel_rfl) (by kernel_rfl) (fun _ _ _ h => h) (Or.inl ⟨by rfl, ?_⟩) hH0 ?_
      rotate_left
      · (intro v hSw; go_simp; try with_reducible rfl)
      simp only [Act.put, List.setIfInBounds_toArray, List.set_cons_zero, List.set_cons_succ, List.getElem_toArray, List.getElem_cons_zero, List.getElem_cons_succ]
      refine wpAnyH_take (i := 2) (v := ?_) rfl (by kernel_rfl) (by kernel_rfl) (by kernel_rfl) (fun _ _ _ h => h) (Or.inl ⟨by rfl, ?_⟩) hH0 ?_
      rotate_left
      · (intro v hSw; go_simp; try with_reducible rfl)
      simp only [Act.put, List.setIfInBounds_toArray, List.set_cons_zero, List.set_cons_succ, List.getElem_toArray, List.getElem_cons_zero, List.getElem_cons_succ]
      refine wpAnyH_take (i := 3) (v := ?_) rfl (by kernel_rfl) (by kernel_rfl) (by kernel_rfl) (fun _ _ _ h => h) (Or.inl ⟨by rfl, ?_⟩) hH0 ?_
      rotate_left
      · (intro v hSw; go_simp; try with_reducible rfl)
      simp only [Act.put, List.setIfInBounds_toArray, List.set_cons_zero, List.set_cons_succ, List.getElem_toArray, List.getElem_cons_zero, List.getElem_cons_succ]
      refine wpAnyH_take (i := 4) (v := ?_) rfl (by kernel_rfl) (by kernel_rfl) (by kernel_rfl) (fun _ _ _ h => h) (Or.inl ⟨by rfl, ?_⟩) hH0 ?_
      rotate_left
      · (intro v hSw; go_simp; try with_reducible rfl)
      simp only [Act.put, List.setIfInBounds_toArray, List.set_cons_zero, List.set_cons_succ, List.getElem_toArray, List.getElem_cons_zero, List.getElem_cons_succ]
      refine wpAnyH_take (i := 5) (v := ?_) rfl (by kernel_rfl) (by kernel_rfl) (by kernel_rfl) (fun _ _ _ h => h) (Or.inl ⟨by rfl, ?_⟩) hH0 ?_
      rotate_left
      · (intro v hSw; have c5 := (hSw.below.cell (p := ap.add k) HPL.out).trans HPC.out; go_simp; try with_reducible rfl)
      simp only [Act.put, List.setIfInBounds_toArray, List.set_cons_zero, List.set_cons_succ, List.getElem_toArray, List.getElem_cons_zero, List.getElem_cons_succ]
      refine wpAnyH_ready (rs := [6, 11]) (by kernel_rfl) (by simp) ?_
      refine AllReadyH.cons rfl (fun K hK => ?_) ?_
      · have KB := Lib.hid (Box.new v0 [.string t] 9)
        try replace KY := Lib.hid (KY.out.alloc (.cells #[.string t] 9))
        go_simp
        refine hK.out _ _ (hH0.alloc (.cells #[.string t] 9)) (fun hH1 => ?_)
        clear hK K hH0
        generalize v0.alloc (.cells #[.string t] 9) = v1 at *
        refine wpAnyH_ready (rs := [7, 11]) (by kernel_rfl) (by simp) ?_
        refine AllReadyH.cons rfl (fun K hK => ?_) ?_
        · go_simp
          refine (HS.out l t A1 n1 B1 m1 _ _ HLE.out (HK.out.up hH1.below) (kes_box KB.out)).mono ?_
          rintro e v2 ⟨A2, n2, B2, m2, rfl, hk2, hb⟩
          have KA := Lib.hid hk2
          try replace KY := Lib.hid (KY.out.below hb)
          go_wp2_with fail
          refine hK.out _ _ (hH1.up hb) (fun hH2 => ?_)
          clear hb hk2 hK K hH1 KB
          refine wpAnyH_take (i := 8) (v := ?_) rfl (by kernel_rfl) (by kernel_rfl) (by kernel_rfl) (fun _ _ _ h => h) (Or.inl ⟨by rfl, ?_⟩) hH2 ?_
          rotate_left
          · (intro v hSw; go_simp; try with_reducible rfl)
          simp only [Act.put, List.setIfInBounds_toArray, List.set_cons_zero, List.set_cons_succ, List.getElem_toArray, List.getElem_cons_zero, List.getElem_cons_succ]
          refine wpAnyH_take (i := 9) (v := ?_) rfl (by kernel_rfl) (by kernel_rfl) (by kernel_rfl) (fun _ _ _ h => h) (Or.inl ⟨by rfl, ?_⟩) hH2 ?_
          rotate_left
          · (intro v hSw; go_simp; try with_reducible rfl)
          simp only [Act.put, List.setIfInBounds_toArray, List.set_cons_zero, List.set_cons_succ, List.getElem_toArray, List.getElem_cons_zero, List.getElem_cons_succ]
          refine wpAnyH_take (i := 10) (v := ?_) rfl (by kernel_rfl) (by kernel_rfl) (by kernel_rfl) (fun _ _ _ h => h) (Or.inl ⟨by rfl, ?_⟩) hH2 ?_
          rotate_left
          · (intro v hSw; go_simp; try with_reducible rfl)
          simp only [Act.put, List.setIfInBounds_toArray, List.set_cons_zero, List.set_cons_succ, List.getElem_toArray, List.getElem_cons_zero, List.getElem_cons_succ]
          refine wpAnyH_ready (rs := [11]) (by kernel_rfl) (by simp) ?_
          refine AllReadyH.cons rfl (fun K hK => ?_) AllReadyH.nil
          have KY := Lib.hid (Box.new v2 [.bool false, .int .u64 0, .slice none 0 0, .slice none 0 0] 26)
          have HYB := Lib.hid (hH2.below.size)
          try replace KB := Lib.hid (KB.out.alloc (.cells #[.bool false, .int .u64 0, .slice none 0 0, .slice none 0 0] 26))
          try replace KA := Lib.hid (KA.out.alloc (.cells #[.bool false, .int .u64 0, .slice none 0 0, .slice none 0 0] 26))
          go_simp
          refine hK.out _ _ (hH2.alloc (.cells #[.bool false, .int .u64 0, .slice none 0 0, .slice none 0 0] 26)) (fun hH3 => ?_)
          clear hK K hH2
          generalize v2.alloc (.cells #[.bool false, .int .u64 0, .slice none 0 0, .slice none 0 0] 26) = v3 at *
          refine wpAnyH_ready (rs := [12]) (by kernel_rfl) (by simp) ?_
          refine AllReadyH.cons rfl (fun K hK => ?_) AllReadyH.nil
          have kx := KY.out.cell
          have fx := KY.out.frozen
          go_simp
          refine hK.out _ _ (hH3.past4 HXB.out HYB.out _ _ _ _) (fun hH4 => ?_)
          replace KA := Lib.hid (KA.out.four_no KY.out (noT_lk _ _ _ _ _ _ _ _) (.bool true) (.int .u64 S) (.slice A2 (l.length + 1) n2) (.slice B2 0 m2))
          replace KY := Lib.hid (KY.out.four (.bool true) (.int .u64 S) (.slice A2 (l.length + 1) n2) (.slice B2 0 m2))
          clear hK K hH3 kx fx
          generalize (((v3.setCell ⟨v2.heap.size, 0, none⟩ (.bool true)).setCell ⟨v2.heap.size, 1, none⟩ (.int .u64 S)).setCell ⟨v2.heap.size, 2, none⟩ (.slice A2 (l.length + 1) n2)).setCell ⟨v2.heap.size, 3, none⟩ (.slice B2 0 m2) = v4 at *
          refine wpAnyH_take (i := 13) (v := ?_) rfl (by kernel_rfl) (by kernel_rfl) (by kernel_rfl) (fun _ _ _ h => h) (Or.inl ⟨by rfl, ?_⟩) hH4 ?_
          rotate_left
          · (intro v hSw; go_simp; try with_reducible rfl)
          simp only [Act.put, List.setIfInBounds_toArray, List.set_cons_zero, List.set_cons_succ, List.getElem_toArray, List.getElem_cons_zero, List.getElem_cons_succ]
          refine wpAnyH_done (by kernel_rfl) ?_ _
          have HX := Lib.hid hH4
          have kx := HX.out.b0.cell
          have fx := HX.out.b0.frozen
          have ky := KY.out.cell
          go_wp2_with fail
          go_roundw
          case rel => exact ⟨k + 1, A2, n2, B2, m2, by omega, by go_num, Lib.hid (by rw [HTS.out, show (l ++ [t]).length = l.length + 1 from by simp]; exact HX.out.b0.four (.bool true) (.int .u64 S) (.slice A2 (l.length + 1) n2) (.slice B2 0 m2)), Lib.hid (by rw [HTS.out]; exact KA.out.four_no HX.out.b0 (noT_lk _ _ _ _ _ _ _ _) (.bool true) (.int .u64 S) (.slice A2 (l.length + 1) n2) (.slice B2 0 m2)), Lib.hid ((HH.out.up HX.out.below).set4 (b := w3.heap.size) ⟨4, by simp⟩ (.bool true) (.int .u64 S) (.slice A2 (l.length + 1) n2) (.slice B2 0 m2))⟩
          case measure => simp [intOf]; omega
        refine AllReadyH.cons rfl (fun K hK => ?_) AllReadyH.nil
        have KY := Lib.hid (Box.new v1 [.bool false, .int .u64 0, .slice none 0 0, .slice none 0 0] 26)
        have HYB := Lib.hid (hH1.below.size)
        try replace KB := Lib.hid (KB.out.alloc (.cells #[.bool false, .int .u64 0, .slice none 0 0, .slice none 0 0] 26))
        try replace KA := Lib.hid (KA.out.alloc (.cells #[.bool false, .int .u64 0, .slice none 0 0, .slice none 0 0] 26))
        go_simp
        refine hK.out _ _ (hH1.alloc (.cells #[.bool false, .int .u64 0, .slice none 0 0, .slice none 0 0] 26)) (fun hH5 => ?_)
        clear hK K hH1
        generalize v1.alloc (.cells #[.bool false, .int .u64 0, .slice none 0 0, .slice none 0 0] 26) = v5 at *
        refine wpAnyH_ready (rs := [7]) (by kernel_rfl) (by simp) ?_
        refine AllReadyH.cons rfl (fun K hK => ?_) AllReadyH.nil
        go_simp
        refine (HS.out l t A1 n1 B1 m1 _ _ HLE.out (HK.out.up hH5.below) (kes_box KB.out)).mono ?_
        rintro e v6 ⟨A2, n2, B2, m2, rfl, hk2, hb⟩
        have KA := Lib.hid hk2
        try replace KY := Lib.hid (KY.out.below hb)
        go_wp2_with fail
        refine hK.out _ _ (hH5.up hb) (fun hH6 => ?_)
        clear hb hk2 hK K hH5 KB
        refine wpAnyH_take (i := 8) (v := ?_) rfl (by kernel_rfl) (by kernel_rfl) (by kernel_rfl) (fun _ _ _ h => h) (Or.inl ⟨by rfl, ?_⟩) hH6 ?_
        rotate_left
        · (intro v hSw; go_simp; try with_reducible rfl)
        simp only [Act.put, List.setIfInBounds_toArray, List.set_cons_zero, List.set_cons_succ, List.getElem_toArray, List.getElem_cons_zero, List.getElem_cons_succ]
        refine wpAnyH_take (i := 9) (v := ?_) rfl (by kernel_rfl) (by kernel_rfl) (by kernel_rfl) (fun _ _ _ h => h) (Or.inl ⟨by rfl, ?_⟩) hH6 ?_
        rotate_left
        · (intro v hSw; go_simp; try with_reducible rfl)
        simp only [Act.put, List.setIfInBounds_toArray, List.set_cons_zero, List.set_cons_succ, List.getElem_toArray, List.getElem_cons_zero, List.getElem_cons_succ]
        refine wpAnyH_take (i := 10) (v := ?_) rfl (by kernel_rfl) (by kernel_rfl) (by kernel_rfl) (fun _ _ _ h => h) (Or.inl ⟨by rfl, ?_⟩) hH6 ?_
        rotate_left
        · (intro v hSw; go_simp; try with_reducible rfl)
        simp only [Act.put, List.setIfInBounds_toArray, List.set_cons_zero, List.set_cons_succ, List.getElem_toArray, List.getElem_cons_zero, List.getElem_cons_succ]
        refine wpAnyH_ready (rs := [12]) (by kernel_rfl) (by simp) ?_
        refine AllReadyH.cons rfl (fun K hK => ?_) AllReadyH.nil
        have kx := KY.out.cell
        have fx := KY.out.frozen
        go_simp
        refine hK.out _ _ (hH6.past4 HXB.out HYB.out _ _ _ _) (fun hH7 => ?_)
        replace KA := Lib.hid (KA.out.four_no KY.out (noT_lk _ _ _ _ _ _ _ _) (.bool true) (.int .u64 S) (.slice A2 (l.length + 1) n2) (.slice B2 0 m2))
        replace KY := Lib.hid (KY.out.four (.bool true) (.int .u64 S) (.slice A2 (l.length + 1) n2) (.slice B2 0 m2))
        clear hK K hH6 kx fx
        generalize (((v6.setCell ⟨v1.heap.size, 0, none⟩ (.bool true)).setCell ⟨v1.heap.size, 1, none⟩ (.int .u64 S)).setCell ⟨v1.heap.size, 2, none⟩ (.slice A2 (l.length + 1) n2)).setCell ⟨v1.heap.size, 3, none⟩ (.slice B2 0 m2) = v7 at *
        refine wpAnyH_take (i := 13) (v := ?_) rfl (by kernel_rfl) (by kernel_rfl) (by kernel_rfl) (fun _ _ _ h => h) (Or.inl ⟨by rfl, ?_⟩) hH7 ?_
        rotate_left
        · (intro v hSw; go_simp; try with_reducible rfl)
        simp only [Act.put, List.setIfInBounds_toArray, List.set_cons_zero, List.set_cons_succ, List.getElem_toArray, List.getElem_cons_zero, List.getElem_cons_succ]
        refine wpAnyH_done (by kernel_rfl) ?_ _
        have HX := Lib.hid hH7
        have kx := HX.out.b0.cell
        have fx := HX.out.b0.frozen
        have ky := KY.out.cell
        go_wp2_with fail
        go_roundw
        case rel => exact ⟨k + 1, A2, n2, B2, m2, by omega, by go_num, Lib.hid (by rw [HTS.out, show (l ++ [t]).length = l.length + 1 from by simp]; exact HX.out.b0.four (.bool true) (.int .u64 S) (.slice A2 (l.length + 1) n2) (.slice B2 0 m2)), Lib.hid (by rw [HTS.out]; exact KA.out.four_no HX.out.b0 (noT_lk _ _ _ _ _ _ _ _) (.bool true) (.int .u64 S) (.slice A2 (l.length + 1) n2) (.slice B2 0 m2)), Lib.hid ((HH.out.up HX.out.below).set4 (b := w3.heap.size) ⟨4, by simp⟩ (.bool true) (.int .u64 S) (.slice A2 (l.length + 1) n2) (.slice B2 0 m2))⟩
        case measure => simp [intOf]; omega
      refine AllReadyH.cons rfl (fun K hK => ?_) AllReadyH.nil
      have KY := Lib.hid (Box.new v0 [.bool false, .int .u64 0, .slice none 0 0, .slice none 0 0] 26)
      have HYB := Lib.hid (hH0.below.size)
      try replace KB := Lib.hid (KB.out.alloc (.cells #[.bool false, .int .u64 0, .slice none 0 0, .slice none 0 0] 26))
      try replace KA := Lib.hid (KA.out.alloc (.cells #[.bool false, .int .u64 0, .slice none 0 0, .slice none 0 0] 26))
      go_simp
      refine hK.out _ _ (hH0.alloc (.cells #[.bool false, .int .u64 0, .slice none 0 0, .slice none 0 0] 26)) (fun hH8 => ?_)
      clear hK K hH0
      generalize v0.alloc (.cells #[.bool false, .int .u64 0, .slice none 0 0, .slice none 0 0] 26) = v8 at *
      refine wpAnyH_ready (rs := [6]) (by kernel_rfl) (by simp) ?_
      refine AllReadyH.cons rfl (fun K hK => ?_) AllReadyH.nil
      have KB := Lib.hid (Box.new v8 [.string t] 9)
      try replace KY := Lib.hid (KY.out.alloc (.cells #[.string t] 9))
      go_simp
      refine hK.out _ _ (hH8.alloc (.cells #[.string t] 9)) (fun hH9 => ?_)
      clear hK K hH8
      generalize v8.alloc (.cells #[.string t] 9) = v9 at *
      refine wpAnyH_ready (rs := [7]) (by kernel_rfl) (by simp) ?_
      refine AllReadyH.cons rfl (fun K hK => ?_) AllReadyH.nil
      go_simp
      refine (HS.out l t A1 n1 B1 m1 _ _ HLE.out (HK.out.up hH9.below) (kes_box KB.out)).mono ?_
      rintro e v10 ⟨A2, n2, B2, m2, rfl, hk2, hb⟩
      have KA := Lib.hid hk2
      try replace KY := Lib.hid (KY.out.below hb)
      go_wp2_with fail
      refine hK.out _ _ (hH9.up hb) (fun hH10 => ?_)
      clear hb hk2 hK K hH9 KB
      refine wpAnyH_take (i := 8) (v := ?_) rfl (by kernel_rfl) (by kernel_rfl) (by kernel_rfl) (fun _ _ _ h => h) (Or.inl ⟨by rfl, ?_⟩) hH10 ?_
      rotate_left
      · (intro v hSw; go_simp; try with_reducible rfl)
      simp only [Act.put, List.setIfInBounds_toArray, List.set_cons_zero, List.set_cons_succ, List.getElem_toArray, List.getElem_cons_zero, List.getElem_cons_succ]
      refine wpAnyH_take (i := 9) (v := ?_) rfl (by kernel_rfl) (by kernel_rfl) (by kernel_rfl) (fun _ _ _ h => h) (Or.inl ⟨by rfl, ?_⟩) hH10 ?_
      rotate_left
      · (intro v hSw; go_simp; try with_reducible rfl)
      simp only [Act.put, List.setIfInBounds_toArray, List.set_cons_zero, List.set_cons_succ, List.getElem_toArray, List.getElem_cons_zero, List.getElem_cons_succ]
      refine wpAnyH_take (i := 10) (v := ?_) rfl (by kernel_rfl) (by kernel_rfl) (by kernel_rfl) (fun _ _ _ h => h) (Or.inl ⟨by rfl, ?_⟩) hH10 ?_
      rotate_left
      · (intro v hSw; go_simp; try with_reducible rfl)
      simp only [Act.put, List.setIfInBounds_toArray, List.set_cons_zero, List.set_cons_succ, List.getElem_toArray, List.getElem_cons_zero, List.getElem_cons_succ]
      refine wpAnyH_ready (rs := [12]) (by kernel_rfl) (by simp) ?_
      refine AllReadyH.cons rfl (fun K hK => ?_) AllReadyH.nil
      have kx := KY.out.cell
      have fx := KY.out.frozen
      go_simp
      refine hK.out _ _ (hH10.past4 HXB.out HYB.out _ _ _ _) (fun hH11 => ?_)
      replace KA := Lib.hid (KA.out.four_no KY.out (noT_lk _ _ _ _ _ _ _ _) (.bool true) (.int .u64 S) (.slice A2 (l.length + 1) n2) (.slice B2 0 m2))
      replace KY := Lib.hid (KY.out.four (.bool true) (.int .u64 S) (.slice A2 (l.length + 1) n2) (.slice B2 0 m2))
      clear hK K hH10 kx fx
      generalize (((v10.setCell ⟨v0.heap.size, 0, none⟩ (.bool true)).setCell ⟨v0.heap.size, 1, none⟩ (.int .u64 S)).setCell ⟨v0.heap.size, 2, none⟩ (.slice A2 (l.length + 1) n2)).setCell ⟨v0.heap.size, 3, none⟩ (.slice B2 0 m2) = v11 at *
      refine wpAnyH_take (i := 13) (v := ?_) rfl (by kernel_rfl) (by kernel_rfl) (by kernel_rfl) (fun _ _ _ h => h) (Or.inl ⟨by rfl, ?_⟩) hH11 ?_
      rotate_left
      · (intro v hSw; go_simp; try with_reducible rfl)
      simp only [Act.put, List.setIfInBounds_toArray, List.set_cons_zero, List.set_cons_succ, List.getElem_toArray, List.getElem_cons_zero, List.getElem_cons_succ]
      refine wpAnyH_done (by kernel_rfl) ?_ _
      have HX := Lib.hid hH11
      have kx := HX.out.b0.cell
      have fx := HX.out.b0.frozen
      have ky := KY.out.cell
      go_wp2_with fail
      go_roundw
      case rel => exact ⟨k + 1, A2, n2, B2, m2, by omega, by go_num, Lib.hid (by rw [HTS.out, show (l ++ [t]).length = l.length + 1 from by simp]; exact HX.out.b0.four (.bool true) (.int .u64 S) (.slice A2 (l.length + 1) n2) (.slice B2 0 m2)), Lib.hid (by rw [HTS.out]; exact KA.out.four_no HX.out.b0 (noT_lk _ _ _ _ _ _ _ _) (.bool true) (.int .u64 S) (.slice A2 (l.length + 1) n2) (.slice B2 0 m2)), Lib.hid ((HH.out.up HX.out.below).set4 (b := w3.heap.size) ⟨4, by simp⟩ (.bool true) (.int .u64 S) (.slice A2 (l.length + 1) n2) (.slice B2 0 m2))⟩
      case measure => simp [intOf]; omega
    · obtain rfl : k = p.length := by omega
      rw [List.take_length] at HB HK
      have HDZ := Lib.hid (List.drop_zero (l := p))
      go_wp2_with fail
      go_loopw [12] (fun i wr => ∃ (k : Nat) (A1 : Option Addr) (n1 : Nat) (B1 : Option Addr) (m1 : Nat), k ≤ p.length ∧ i = .int .i64 k ∧ Hid (Box wr w3.heap.size [.bool true, .int .u64 S, .slice A1 (p.drop k).length n1, .slice B1 0 m1]) ∧ Hid (Lk wr ⟨true, S, (p.drop k), []⟩ A1 n1 B1 m1) ∧ Hid (Held w [(w.heap.size, [.bool u, .int .u64 s, .slice A a.length n, .slice B b.length m])] [(w3.heap.size, 4)] wr)) (fun i _ => p.length - (intOf i).toNat)
      case atStart => exact ⟨0, A1, n1, B1, m1, by omega, rfl, by rw [List.drop_zero]; exact HB, by rw [List.drop_zero]; exact HK, HH⟩
      case round =>
        clear HB HK HH HDZ
        obtain ⟨k, A1, n1, B1, m1, hk, rfl, HB, HK, HH⟩ := hrel
        by_cases hlt : k < p.length
        · have hdr := List.drop_eq_getElem_cons hlt
          have hpl := (EP.out.up HH.out.below) k p[k] (List.getElem?_eq_getElem hlt)
          have hle : (p.drop (k + 1)).length ≤ 100 := by rw [List.length_drop]; omega
          have HLE := Lib.hid hle; clear hle
          rw [hdr] at HB HK
          clear hdr
          generalize p[k] = t at *
          have HDL := Lib.hid (rfl : p.drop (k + 1) = p.drop (k + 1))
          generalize hq : p.drop (k + 1) = l at HB HK HLE HDL
          have HQ := Lib.hid hq; clear hq HDL
          obtain ⟨ap, rfl, hpb, hpc⟩ := hpl
          have HPC := Lib.hid hpc; clear hpc
          have HPL := Lib.hid (show (ap.add k).block < _ from by rw [add_block]; exact hpb)
          clear hpb
          have kx := HB.out.cell
          go_wp2_with fail
          refine (HT.out l t A1 n1 B1 m1 _ HLE.out HK.out).mono ?_
          rintro e w7 ⟨A2, n2, B2, m2, rfl, hk2, hb⟩
          have YB := Lib.hid (Box.new w7 [.bool true, .int .u64 S, .slice A2 l.length n2, .slice B2 0 m2] 26)
          have KA := Lib.hid (hk2.alloc (.cells #[.bool true, .int .u64 S, .slice A2 l.length n2, .slice B2 0 m2] 26))
          have XB := Lib.hid ((HB.out.below hb).alloc (.cells #[.bool true, .int .u64 S, .slice A2 l.length n2, .slice B2 0 m2] 26))
          have HW := Lib.hid ((HH.out.up hb).alloc (.cells #[.bool true, .int .u64 S, .slice A2 l.length n2, .slice B2 0 m2] 26))
          have hc5 := (hb.cell (p := ap.add k) HPL.out).trans HPC.out
          have c5 := cell_past hc5 (.cells #[.bool true, .int .u64 S, .slice A2 l.length n2, .slice B2 0 m2] 26)
          have et : (t.toList == t.toList) = true := beq_self_eq_true _
          clear hb hk2 kx HB HK HH hc5
          have kx := XB.out.cell
          have fx := XB.out.frozen
          have ky := YB.out.cell
          go_wp2_with fail
          go_roundw
          case rel => exact ⟨k + 1, A2, n2, B2, m2, by omega, by go_num, Lib.hid (by rw [HQ.out]; exact XB.out.four (.bool true) (.int .u64 S) (.slice A2 l.length n2) (.slice B2 0 m2)), Lib.hid (by rw [HQ.out]; exact KA.out.four_no XB.out (noT_lk _ _ _ _ _ _ _ _) _ _ _ _), Lib.hid (HW.out.set4 (b := w3.heap.size) ⟨4, by simp⟩ _ _ _ _)⟩
          case measure => simp [intOf]; omega
        · obtain rfl : k = p.length := by omega
          rw [List.drop_length] at HB HK
          have kx := HB.out.cell
          go_wp2_with fail
          refine (HE.out _ _ _ _ _ _ HK.out).mono ?_
          rintro e w7 ⟨A2, n2, B2, m2, rfl, _, hb⟩
          have XB := Lib.hid ((HB.out.below hb).alloc (.cells #[.bool true, .int .u64 S, .slice A2 0 n2, .slice B2 0 m2] 26))
          have KA := Lib.hid ((HK.out.up hb).alloc (.cells #[.bool true, .int .u64 S, .slice A2 0 n2, .slice B2 0 m2] 26))
          have HW := Lib.hid ((HH.out.up hb).alloc (.cells #[.bool true, .int .u64 S, .slice A2 0 n2, .slice B2 0 m2] 26))
          clear hb kx HB HK HH
          have kx := XB.out.cell
          go_wp2_with fail
          refine (HC.out _ _ _ _ _ KA.out).mono ?_
          rintro e w8 ⟨A4, n4, B4, m4, rfl, hk4, hb⟩
          have XB8 := Lib.hid (XB.out.below hb)
          have KA8 := Lib.hid (KA.out.up hb)
          have HW8 := Lib.hid (HW.out.up hb)
          have K8 := Lib.hid hk4
          clear hb hk4 kx XB KA HW
          have kx := XB8.out.cell
          go_wp2_with fail
          refine (HE.out _ _ _ _ _ _ K8.out).mono ?_
          rintro e w9 ⟨A5, n5, B5, m5, rfl, _, hb⟩
          have XB9 := Lib.hid ((XB8.out.below hb).alloc (.cells #[.bool false, .int .u64 S, .slice A5 0 n5, .slice B5 0 m5] 26))
          have KA9 := Lib.hid ((KA8.out.up hb).alloc (.cells #[.bool false, .int .u64 S, .slice A5 0 n5, .slice B5 0 m5] 26))
          have HW9 := Lib.hid ((HW8.out.up hb).alloc (.cells #[.bool false, .int .u64 S, .slice A5 0 n5, .slice B5 0 m5] 26))
          clear hb kx XB8 KA8 HW8 K8
          have kx := XB9.out.cell
          go_wp2_with fail
          refine (HI.out _ _ _ _ _ KA9.out).mono ?_
          rintro e w10 ⟨rfl, hb⟩
          have HW10 := Lib.hid (HW9.out.up hb)
          clear hb
          go_wp2_with fail
          go_ret
          exact ⟨rfl, HW10.out.below⟩

set_option maxRecDepth 100000 in
set_option maxHeartbeats 8000000 in
theorem korder_1 (u : Bool) (s S : Int) (a b : List ByteArray) (A B : Option Addr) (n m : Nat) (P : Option Addr) (np : Nat) (p : List ByteArray) (w : World) (hk : Lk w ⟨u, s, a, b⟩ A n B m) (hp : Es Value.string w w.heap.size P p) (hS : IntKind.u64.wrap (s + 1) = S) (hlp : p.length ≤ 100) (hgr : Lnk.great ⟨u, s, a, b⟩ = false)
    (ho : ∀ w, Lk w ⟨u, s, a, b⟩ A n B m → Calls Try.prog 13 #[.agg #[.bool u, .int .u64 s, .slice A a.length n, .slice B b.length m]] w (GivesK ⟨true, S, [], []⟩ id w))
    (hi : ∀ (A1 : Option Addr) (n1 : Nat) (B1 : Option Addr) (m1 : Nat) (w : World), Lk w ⟨true, S, [], []⟩ A1 n1 B1 m1 → Calls Try.prog 17 #[.agg #[.bool true, .int .u64 S, .slice A1 0 n1, .slice B1 0 m1]] w fun e w' => e = .returned (.bool true) ∧ Below w.heap.size w w')
    (hc : ∀ (A1 : Option Addr) (n1 : Nat) (B1 : Option Addr) (m1 : Nat) (w : World), Lk w ⟨true, S, [], []⟩ A1 n1 B1 m1 → Calls Try.prog 15 #[.agg #[.bool true, .int .u64 S, .slice A1 0 n1, .slice B1 0 m1]] w (GivesK ⟨false, S, [], []⟩ id w))
    (he : ∀ (y : Bool) (A1 : Option Addr) (n1 : Nat) (B1 : Option Addr) (m1 : Nat) (w : World), Lk w ⟨y, S, [], []⟩ A1 n1 B1 m1 → Calls Try.prog 8 #[.agg #[.bool y, .int .u64 S, .slice A1 0 n1, .slice B1 0 m1], .int .i64 1] w (GivesK ⟨y, S, [], []⟩ (fun v => .tuple #[.string ⟨#[]⟩, v, .bool false]) w))
    (ht : ∀ (l : List ByteArray) (t : ByteArray) (A1 : Option Addr) (n1 : Nat) (B1 : Option Addr) (m1 : Nat) (w : World), l.length ≤ 100 → Lk w ⟨true, S, [], (t :: l)⟩ A1 n1 B1 m1 → Calls Try.prog 8 #[.agg #[.bool true, .int .u64 S, .slice A1 0 n1, .slice B1 (l.length + 1) m1], .int .i64 1] w (GivesK ⟨true, S, [], l⟩ (fun v => .tuple #[.string t, v, .bool true]) w))
    (hs : ∀ (l : List ByteArray) (t : ByteArray) (A1 : Option Addr) (n1 : Nat) (B1 : Option Addr) (m1 : Nat) (Q : Option Addr) (w : World), l.length ≤ 100 → Lk w ⟨true, S, [], l⟩ A1 n1 B1 m1 → Es Value.string w w.heap.size Q [t] → Calls Try.prog 10 #[.agg #[.bool true, .int .u64 S, .slice A1 0 n1, .slice B1 l.length m1], .int .i64 1, .slice Q 1 1] w (GivesK ⟨true, S, [], (l ++ [t])⟩ (fun v => .tuple #[v, .int .i64 0]) w)) :
    Calls Try.prog 4 #[.agg #[.bool u, .int .u64 s, .slice A a.length n, .slice B b.length m], .slice P p.length np, .bool true] w (Yes w) := by
  have HO := Lib.hid ho; clear ho
  have HI := Lib.hid hi; clear hi
  have HC := Lib.hid hc; clear hc
  have HE := Lib.hid he; clear he
  have HT := Lib.hid ht; clear ht
  have HS := Lib.hid hs; clear hs
  have hg := fun w => rkgreatG_any ⟨u, s, a, b⟩ A B n m w
  rw [hgr] at hg
  have HG := Lib.hid hg; clear hg hgr
  have e9 : decide (100 < (p.length : Int)) = false := decide_eq_false (by omega)
  have HL := Lib.hid hlp; clear hlp
  have EP := Lib.hid hp; clear hp
  have H0 := Lib.hid ((Held.refl w).lay [.bool u, .int .u64 s, .slice A a.length n, .slice B b.length m] 26)
  have K0 := Lib.hid (hk.alloc (.cells ([.bool u, .int .u64 s, .slice A a.length n, .slice B b.length m] : List Value).toArray 26))
  clear hk
  go_enter Try.func4, Try.ntmps4
  go_wp2_with fail
  refine (kalive_any _).mono ?_
  rintro e w1 ⟨rfl, hb⟩
  have H1 := Lib.hid (H0.out.up hb)
  have K1 := Lib.hid (K0.out.up hb)
  clear hb H0 K0
  have k0 := H1.out.b0.cell
  go_wp2_with fail
  refine (HG.out _).mono ?_
  rintro e w2 ⟨rfl, hb⟩
  have H2 := Lib.hid (H1.out.up hb)
  have K2 := Lib.hid (K1.out.up hb)
  clear hb H1 K1 HG k0
  have k0 := H2.out.b0.cell
  go_wp2_with fail
  refine (HO.out _ K2.out).mono ?_
  rintro e w3 ⟨A3, n3, B3, m3, rfl, hk3, hb⟩
  have BX := Lib.hid (Box.new w3 [.bool true, .int .u64 S, .slice A3 0 n3, .slice B3 0 m3] 26)
  have H3 := Lib.hid ((H2.out.up hb).own [.bool true, .int .u64 S, .slice A3 0 n3, .slice B3 0 m3] 26 (n := 4) rfl)
  have K3 := Lib.hid (hk3.alloc (.cells #[.bool true, .int .u64 S, .slice A3 0 n3, .slice B3 0 m3] 26))
  clear hb hk3 H2 K2 k0 HO
  have k0 := H3.out.b0.cell
  have k1 := BX.out.cell
  go_wp2_with fail
  refine (HI.out _ _ _ _ _ K3.out).mono ?_
  rintro e w4 ⟨rfl, hb⟩
  have H4 := Lib.hid (H3.out.up hb)
  have K4 := Lib.hid (K3.out.up hb)
  have BX4 := Lib.hid (BX.out.below hb)
  clear hb H3 K3 BX k0 k1
  have k0 := H4.out.b0.cell
  have k1 := BX4.out.cell
  go_wp2_with fail
  clear k0 k1
  go_loopw [9] (fun i wr => ∃ (k : Nat) (A1 : Option Addr) (n1 : Nat) (B1 : Option Addr) (m1 : Nat), k ≤ p.length ∧ i = .int .i64 k ∧ Hid (Box wr w3.heap.size [.bool true, .int .u64 S, .slice A1 0 n1, .slice B1 (p.take k).length m1]) ∧ Hid (Lk wr ⟨true, S, [], (p.take k)⟩ A1 n1 B1 m1) ∧ Hid (Held w [(w.heap.size, [.bool u, .int .u64 s, .slice A a.length n, .slice B b.length m])] [(w3.heap.size, 4)] wr)) (fun i _ => p.length - (intOf i).toNat)
  case atStart => exact ⟨0, A3, n3, B3, m3, by omega, rfl, BX4, K4, H4⟩
  case round =>
    clear H4 BX4 K4
    obtain ⟨k, A1, n1, B1, m1, hk, rfl, HB, HK, HH⟩ := hrel
    have hl := HL.out
    by_cases hlt : k < p.length
    · have HTS := Lib.hid (take_snoc p k hlt)
      have hpl := (EP.out.up HH.out.below) k p[k] (List.getElem?_eq_getElem hlt)
      have hle : (p.take k).length ≤ 100 := by rw [List.length_take]; omega
      have HLE := Lib.hid hle; clear hle
      generalize p[k] = t at *
      generalize p.take k = l at *
      obtain ⟨ap, rfl, hpb, hpc⟩ := hpl
      have HPC := Lib.hid hpc; clear hpc
      have HPL := Lib.hid (show (ap.add k).block < _ from by rw [add_block]; exact hpb)
      clear hpb
      have HXB := Lib.hid HB.out.lt
      go_upto_region 14 with fail
      refine held_startC2 (S := Held _ [(w3.heap.size, [.bool true, .int .u64 S, .slice A1 0 n1, .slice B1 l.length m1])] []) (by kernel_rfl) (held_know HB.out).drew (fun v0 hv0 hH0 => ?_)
      clear hv0
      refine wpAnyH_take (i := 0) (v := ?_) rfl (by kernel_rfl) (by kernel_rfl) (by kernel_rfl) (fun _ _ _ h => h) (Or.inl ⟨by rfl, ?_⟩) hH0 ?_
      rotate_left
      · (intro v hSw; have k0 := hSw.b0.cell; go_simp; try with_reducible rfl)
      simp only [Act.put, List.setIfInBounds_toArray, List.set_cons_zero, List.set_cons_succ, List.getElem_toArray, List.getElem_cons_zero]
      refine wpAnyH_take (i := 1) (v := ?_) rfl (by kernel_rfl) (by kernel_rfl) (by kernel_rfl) (fun _ _ _ h => h) (Or.inl ⟨by rfl, ?_⟩) hH0 ?_
      rotate_left
      · (intro v hSw; go_simp; try with_reducible rfl)
      simp only [Act.put, List.setIfInBounds_toArray, List.set_cons_zero, List.set_cons_succ, List.getElem_toArray, List.getElem_cons_zero, List.getElem_cons_succ]
      refine wpAnyH_take (i := 2) (v := ?_) rfl (by kernel_rfl) (by kernel_rfl) (by kernel_rfl) (fun _ _ _ h => h) (Or.inl ⟨by rfl, ?_⟩) hH0 ?_
      rotate_left
      · (intro v hSw; go_simp; try with_reducible rfl)
      simp only [Act.put, List.setIfInBounds_toArray, List.set_cons_zero, List.set_cons_succ, List.getElem_toArray, List.getElem_cons_zero, List.getElem_cons_succ]
      refine wpAnyH_take (i := 3) (v := ?_) rfl (by kernel_rfl) (by kernel_rfl) (by kernel_rfl) (fun _ _ _ h => h) (Or.inl ⟨by rfl, ?_⟩) hH0 ?_
      rotate_left
      · (intro v hSw; go_simp; try with_reducible rfl)
      simp only [Act.put, List.setIfInBounds_toArray, List.set_cons_zero, List.set_cons_succ, List.getElem_toArray, List.getElem_cons_zero, List.getElem_cons_succ]
      refine wpAnyH_take (i := 4) (v := ?_) rfl (by kernel_rfl) (by kernel_rfl) (by kernel_rfl) (fun _ _ _ h => h) (Or.inl ⟨by rfl, ?_⟩) hH0 ?_
      rotate_left
      · (intro v hSw; go_simp; try with_reducible rfl)
      simp only [Act.put, List.setIfInBounds_toArray, List.set_cons_zero, List.set_cons_succ, List.getElem_toArray, List.getElem_cons_zero, List.getElem_cons_succ]
      refine wpAnyH_take (i := 5) (v := ?_) rfl (by kernel_rfl) (by kernel_rfl) (by kernel_rfl) (fun _ _ _ h => h) (Or.inl ⟨by rfl, ?_⟩) hH0 ?_
      rotate_left
      · (intro v hSw; have c5 := (hSw.below.cell (p := ap.add k) HPL.out).trans HPC.out; go_simp; try with_reducible rfl)
      simp only [Act.put, List.setIfInBounds_toArray, List.set_cons_zero, List.set_cons_succ, List.getElem_toArray, List.getElem_cons_zero, List.getElem_cons_succ]
      refine wpAnyH_ready (rs := [6, 11]) (by kernel_rfl) (by simp) ?_
      refine AllReadyH.cons rfl (fun K hK => ?_) ?_
      · have KB := Lib.hid (Box.new v0 [.string t] 9)
        try replace KY := Lib.hid (KY.out.alloc (.cells #[.string t] 9))
        go_simp
        refine hK.out _ _ (hH0.alloc (.cells #[.string t] 9)) (fun hH1 => ?_)
        clear hK K hH0
        generalize v0.alloc (.cells #[.string t] 9) = v1 at *
        refine wpAnyH_ready (rs := [7, 11]) (by kernel_rfl) (by simp) ?_
        refine AllReadyH.cons rfl (fun K hK => ?_) ?_
        · go_simp
          refine (HS.out l t A1 n1 B1 m1 _ _ HLE.out (HK.out.up hH1.below) (kes_box KB.out)).mono ?_
          rintro e v2 ⟨A2, n2, B2, m2, rfl, hk2, hb⟩
          have KA := Lib.hid hk2
          try replace KY := Lib.hid (KY.out.below hb)
          go_wp2_with fail
          refine hK.out _ _ (hH1.up hb) (fun hH2 => ?_)
          clear hb hk2 hK K hH1 KB
          refine wpAnyH_take (i := 8) (v := ?_) rfl (by kernel_rfl) (by kernel_rfl) (by kernel_rfl) (fun _ _ _ h => h) (Or.inl ⟨by rfl, ?_⟩) hH2 ?_
          rotate_left
          · (intro v hSw; go_simp; try with_reducible rfl)
          simp only [Act.put, List.setIfInBounds_toArray, List.set_cons_zero, List.set_cons_succ, List.getElem_toArray, List.getElem_cons_zero, List.getElem_cons_succ]
          refine wpAnyH_take (i := 9) (v := ?_) rfl (by kernel_rfl) (by kernel_rfl) (by kernel_rfl) (fun _ _ _ h => h) (Or.inl ⟨by rfl, ?_⟩) hH2 ?_
          rotate_left
          · (intro v hSw; go_simp; try with_reducible rfl)
          simp only [Act.put, List.setIfInBounds_toArray, List.set_cons_zero, List.set_cons_succ, List.getElem_toArray, List.getElem_cons_zero, List.getElem_cons_succ]
          refine wpAnyH_take (i := 10) (v := ?_) rfl (by kernel_rfl) (by kernel_rfl) (by kernel_rfl) (fun _ _ _ h => h) (Or.inl ⟨by rfl, ?_⟩) hH2 ?_
          rotate_left
          · (intro v hSw; go_simp; try with_reducible rfl)
          simp only [Act.put, List.setIfInBounds_toArray, List.set_cons_zero, List.set_cons_succ, List.getElem_toArray, List.getElem_cons_zero, List.getElem_cons_succ]
          refine wpAnyH_ready (rs := [11]) (by kernel_rfl) (by simp) ?_
          refine AllReadyH.cons rfl (fun K hK => ?_) AllReadyH.nil
          have KY := Lib.hid (Box.new v2 [.bool false, .int .u64 0, .slice none 0 0, .slice none 0 0] 26)
          have HYB := Lib.hid (hH2.below.size)
          try replace KB := Lib.hid (KB.out.alloc (.cells #[.bool false, .int .u64 0, .slice none 0 0, .slice none 0 0] 26))
          try replace KA := Lib.hid (KA.out.alloc (.cells #[.bool false, .int .u64 0, .slice none 0 0, .slice none 0 0] 26))
          go_simp
          refine hK.out _ _ (hH2.alloc (.cells #[.bool false, .int .u64 0, .slice none 0 0, .slice none 0 0] 26)) (fun hH3 => ?_)
          clear hK K hH2
          generalize v2.alloc (.cells #[.bool false, .int .u64 0, .slice none 0 0, .slice none 0 0] 26) = v3 at *
          refine wpAnyH_ready (rs := [12]) (by kernel_rfl) (by simp) ?_
          refine AllReadyH.cons rfl (fun K hK => ?_) AllReadyH.nil
          have kx := KY.out.cell
          have fx := KY.out.frozen
          go_simp
          refine hK.out _ _ (hH3.past4 HXB.out HYB.out _ _ _ _) (fun hH4 => ?_)
          replace KA := Lib.hid (KA.out.four_no KY.out (noT_lk _ _ _ _ _ _ _ _) (.bool true) (.int .u64 S) (.slice A2 0 n2) (.slice B2 (l.length + 1) m2))
          replace KY := Lib.hid (KY.out.four (.bool true) (.int .u64 S) (.slice A2 0 n2) (.slice B2 (l.length + 1) m2))
          clear hK K hH3 kx fx
          generalize (((v3.setCell ⟨v2.heap.size, 0, none⟩ (.bool true)).setCell ⟨v2.heap.size, 1, none⟩ (.int .u64 S)).setCell ⟨v2.heap.size, 2, none⟩ (.slice A2 0 n2)).setCell ⟨v2.heap.size, 3, none⟩ (.slice B2 (l.length + 1) m2) = v4 at *
          refine wpAnyH_take (i := 13) (v := ?_) rfl (by kernel_rfl) (by kernel_rfl) (by kernel_rfl) (fun _ _ _ h => h) (Or.inl ⟨by rfl, ?_⟩) hH4 ?_
          rotate_left
          · (intro v hSw; go_simp; try with_reducible rfl)
          simp only [Act.put, List.setIfInBounds_toArray, List.set_cons_zero, List.set_cons_succ, List.getElem_toArray, List.getElem_cons_zero, List.getElem_cons_succ]
          refine wpAnyH_done (by kernel_rfl) ?_ _
          have HX := Lib.hid hH4
          have kx := HX.out.b0.cell
          have fx := HX.out.b0.frozen
          have ky := KY.out.cell
          go_wp2_with fail
          go_roundw
          case rel => exact ⟨k + 1, A2, n2, B2, m2, by omega, by go_num, Lib.hid (by rw [HTS.out, show (l ++ [t]).length = l.length + 1 from by simp]; exact HX.out.b0.four (.bool true) (.int .u64 S) (.slice A2 0 n2) (.slice B2 (l.length + 1) m2)), Lib.hid (by rw [HTS.out]; exact KA.out.four_no HX.out.b0 (noT_lk _ _ _ _ _ _ _ _) (.bool true) (.int .u64 S) (.slice A2 0 n2) (.slice B2 (l.length + 1) m2)), Lib.hid ((HH.out.up HX.out.below).set4 (b := w3.heap.size) ⟨4, by simp⟩ (.bool true) (.int .u64 S) (.slice A2 0 n2) (.slice B2 (l.length + 1) m2))⟩
          case measure => simp [intOf]; omega
        refine AllReadyH.cons rfl (fun K hK => ?_) AllReadyH.nil
        have KY := Lib.hid (Box.new v1 [.bool false, .int .u64 0, .slice none 0 0, .slice none 0 0] 26)
        have HYB := Lib.hid (hH1.below.size)
        try replace KB := Lib.hid (KB.out.alloc (.cells #[.bool false, .int .u64 0, .slice none 0 0, .slice none 0 0] 26))
        try replace KA := Lib.hid (KA.out.alloc (.cells #[.bool false, .int .u64 0, .slice none 0 0, .slice none 0 0] 26))
        go_simp
        refine hK.out _ _ (hH1.alloc (.cells #[.bool false, .int .u64 0, .slice none 0 0, .slice none 0 0] 26)) (fun hH5 => ?_)
        clear hK K hH1
        generalize v1.alloc (.cells #[.bool false, .int .u64 0, .slice none 0 0, .slice none 0 0] 26) = v5 at *
        refine wpAnyH_ready (rs := [7]) (by kernel_rfl) (by simp) ?_
        refine AllReadyH.cons rfl (fun K hK => ?_) AllReadyH.nil
        go_simp
        refine (HS.out l t A1 n1 B1 m1 _ _ HLE.out (HK.out.up hH5.below) (kes_box KB.out)).mono ?_
        rintro e v6 ⟨A2, n2, B2, m2, rfl, hk2, hb⟩
        have KA := Lib.hid hk2
        try replace KY := Lib.hid (KY.out.below hb)
        go_wp2_with fail
        refine hK.out _ _ (hH5.up hb) (fun hH6 => ?_)
        clear hb hk2 hK K hH5 KB
        refine wpAnyH_take (i := 8) (v := ?_) rfl (by kernel_rfl) (by kernel_rfl) (by kernel_rfl) (fun _ _ _ h => h) (Or.inl ⟨by rfl, ?_⟩) hH6 ?_
        rotate_left
        · (intro v hSw; go_simp; try with_reducible rfl)
        simp only [Act.put, List.setIfInBounds_toArray, List.set_cons_zero, List.set_cons_succ, List.getElem_toArray, List.getElem_cons_zero, List.getElem_cons_succ]
        refine wpAnyH_take (i := 9) (v := ?_) rfl (by kernel_rfl) (by kernel_rfl) (by kernel_rfl) (fun _ _ _ h => h) (Or.inl ⟨by rfl, ?_⟩) hH6 ?_
        rotate_left
        · (intro v hSw; go_simp; try with_reducible rfl)
        simp only [Act.put, List.setIfInBounds_toArray, List.set_cons_zero, List.set_cons_succ, List.getElem_toArray, List.getElem_cons_zero, List.getElem_cons_succ]
        refine wpAnyH_take (i := 10) (v := ?_) rfl (by kernel_rfl) (by kernel_rfl) (by kernel_rfl) (fun _ _ _ h => h) (Or.inl ⟨by rfl, ?_⟩) hH6 ?_
        rotate_left
        · (intro v hSw; go_simp; try with_reducible rfl)
        simp only [Act.put, List.setIfInBounds_toArray, List.set_cons_zero, List.set_cons_succ, List.getElem_toArray, List.getElem_cons_zero, List.getElem_cons_succ]
        refine wpAnyH_ready (rs := [12]) (by kernel_rfl) (by simp) ?_
        refine AllReadyH.cons rfl (fun K hK => ?_) AllReadyH.nil
        have kx := KY.out.cell
        have fx := KY.out.frozen
        go_simp
        refine hK.out _ _ (hH6.past4 HXB.out HYB.out _ _ _ _) (fun hH7 => ?_)
        replace KA := Lib.hid (KA.out.four_no KY.out (noT_lk _ _ _ _ _ _ _ _) (.bool true) (.int .u64 S) (.slice A2 0 n2) (.slice B2 (l.length + 1) m2))
        replace KY := Lib.hid (KY.out.four (.bool true) (.int .u64 S) (.slice A2 0 n2) (.slice B2 (l.length + 1) m2))
        clear hK K hH6 kx fx
        generalize (((v6.setCell ⟨v1.heap.size, 0, none⟩ (.bool true)).setCell ⟨v1.heap.size, 1, none⟩ (.int .u64 S)).setCell ⟨v1.heap.size, 2, none⟩ (.slice A2 0 n2)).setCell ⟨v1.heap.size, 3, none⟩ (.slice B2 (l.length + 1) m2) = v7 at *
        refine wpAnyH_take (i := 13) (v := ?_) rfl (by kernel_rfl) (by kernel_rfl) (by kernel_rfl) (fun _ _ _ h => h) (Or.inl ⟨by rfl, ?_⟩) hH7 ?_
        rotate_left
        · (intro v hSw; go_simp; try with_reducible rfl)
        simp only [Act.put, List.setIfInBounds_toArray, List.set_cons_zero, List.set_cons_succ, List.getElem_toArray, List.getElem_cons_zero, List.getElem_cons_succ]
        refine wpAnyH_done (by kernel_rfl) ?_ _
        have HX := Lib.hid hH7
        have kx := HX.out.b0.cell
        have fx := HX.out.b0.frozen
        have ky := KY.out.cell
        go_wp2_with fail
        go_roundw
        case rel => exact ⟨k + 1, A2, n2, B2, m2, by omega, by go_num, Lib.hid (by rw [HTS.out, show (l ++ [t]).length = l.length + 1 from by simp]; exact HX.out.b0.four (.bool true) (.int .u64 S) (.slice A2 0 n2) (.slice B2 (l.length + 1) m2)), Lib.hid (by rw [HTS.out]; exact KA.out.four_no HX.out.b0 (noT_lk _ _ _ _ _ _ _ _) (.bool true) (.int .u64 S) (.slice A2 0 n2) (.slice B2 (l.length + 1) m2)), Lib.hid ((HH.out.up HX.out.below).set4 (b := w3.heap.size) ⟨4, by simp⟩ (.bool true) (.int .u64 S) (.slice A2 0 n2) (.slice B2 (l.length + 1) m2))⟩
        case measure => simp [intOf]; omega
      refine AllReadyH.cons rfl (fun K hK => ?_) AllReadyH.nil
      have KY := Lib.hid (Box.new v0 [.bool false, .int .u64 0, .slice none 0 0, .slice none 0 0] 26)
      have HYB := Lib.hid (hH0.below.size)
      try replace KB := Lib.hid (KB.out.alloc (.cells #[.bool false, .int .u64 0, .slice none 0 0, .slice none 0 0] 26))
      try replace KA := Lib.hid (KA.out.alloc (.cells #[.bool false, .int .u64 0, .slice none 0 0, .slice none 0 0] 26))
      go_simp
      refine hK.out _ _ (hH0.alloc (.cells #[.bool false, .int .u64 0, .slice none 0 0, .slice none 0 0] 26)) (fun hH8 => ?_)
      clear hK K hH0
      generalize v0.alloc (.cells #[.bool false, .int .u64 0, .slice none 0 0, .slice none 0 0] 26) = v8 at *
      refine wpAnyH_ready (rs := [6]) (by kernel_rfl) (by simp) ?_
      refine AllReadyH.cons rfl (fun K hK => ?_) AllReadyH.nil
      have KB := Lib.hid (Box.new v8 [.string t] 9)
      try replace KY := Lib.hid (KY.out.alloc (.cells #[.string t] 9))
      go_simp
      refine hK.out _ _ (hH8.alloc (.cells #[.string t] 9)) (fun hH9 => ?_)
      clear hK K hH8
      generalize v8.alloc (.cells #[.string t] 9) = v9 at *
      refine wpAnyH_ready (rs := [7]) (by kernel_rfl) (by simp) ?_
      refine AllReadyH.cons rfl (fun K hK => ?_) AllReadyH.nil
      go_simp
      refine (HS.out l t A1 n1 B1 m1 _ _ HLE.out (HK.out.up hH9.below) (kes_box KB.out)).mono ?_
      rintro e v10 ⟨A2, n2, B2, m2, rfl, hk2, hb⟩
      have KA := Lib.hid hk2
      try replace KY := Lib.hid (KY.out.below hb)
      go_wp2_with fail
      refine hK.out _ _ (hH9.up hb) (fun hH10 => ?_)
      clear hb hk2 hK K hH9 KB
      refine wpAnyH_take (i := 8) (v := ?_) rfl (by kernel_rfl) (by kernel_rfl) (by kernel_rfl) (fun _ _ _ h => h) (Or.inl ⟨by rfl, ?_⟩) hH10 ?_
      rotate_left
      · (intro v hSw; go_simp; try with_reducible rfl)
      simp only [Act.put, List.setIfInBounds_toArray, List.set_cons_zero, List.set_cons_succ, List.getElem_toArray, List.getElem_cons_zero, List.getElem_cons_succ]
      refine wpAnyH_take (i := 9) (v := ?_) rfl (by kernel_rfl) (by kernel_rfl) (by kernel_rfl) (fun _ _ _ h => h) (Or.inl ⟨by rfl, ?_⟩) hH10 ?_
      rotate_left
      · (intro v hSw; go_simp; try with_reducible rfl)
      simp only [Act.put, List.setIfInBounds_toArray, List.set_cons_zero, List.set_cons_succ, List.getElem_toArray, List.getElem_cons_zero, List.getElem_cons_succ]
      refine wpAnyH_take (i := 10) (v := ?_) rfl (by kernel_rfl) (by kernel_rfl) (by kernel_rfl) (fun _ _ _ h => h) (Or.inl ⟨by rfl, ?_⟩) hH10 ?_
      rotate_left
      · (intro v hSw; go_simp; try with_reducible rfl)
      simp only [Act.put, List.setIfInBounds_toArray, List.set_cons_zero, List.set_cons_succ, List.getElem_toArray, List.getElem_cons_zero, List.getElem_cons_succ]
      refine wpAnyH_ready (rs := [12]) (by kernel_rfl) (by simp) ?_
      refine AllReadyH.cons rfl (fun K hK => ?_) AllReadyH.nil
      have kx := KY.out.cell
      have fx := KY.out.frozen
      go_simp
      refine hK.out _ _ (hH10.past4 HXB.out HYB.out _ _ _ _) (fun hH11 => ?_)
      replace KA := Lib.hid (KA.out.four_no KY.out (noT_lk _ _ _ _ _ _ _ _) (.bool true) (.int .u64 S) (.slice A2 0 n2) (.slice B2 (l.length + 1) m2))
      replace KY := Lib.hid (KY.out.four (.bool true) (.int .u64 S) (.slice A2 0 n2) (.slice B2 (l.length + 1) m2))
      clear hK K hH10 kx fx
      generalize (((v10.setCell ⟨v0.heap.size, 0, none⟩ (.bool true)).setCell ⟨v0.heap.size, 1, none⟩ (.int .u64 S)).setCell ⟨v0.heap.size, 2, none⟩ (.slice A2 0 n2)).setCell ⟨v0.heap.size, 3, none⟩ (.slice B2 (l.length + 1) m2) = v11 at *
      refine wpAnyH_take (i := 13) (v := ?_) rfl (by kernel_rfl) (by kernel_rfl) (by kernel_rfl) (fun _ _ _ h => h) (Or.inl ⟨by rfl, ?_⟩) hH11 ?_
      rotate_left
      · (intro v hSw; go_simp; try with_reducible rfl)
      simp only [Act.put, List.setIfInBounds_toArray, List.set_cons_zero, List.set_cons_succ, List.getElem_toArray, List.getElem_cons_zero, List.getElem_cons_succ]
      refine wpAnyH_done (by kernel_rfl) ?_ _
      have HX := Lib.hid hH11
      have kx := HX.out.b0.cell
      have fx := HX.out.b0.frozen
      have ky := KY.out.cell
      go_wp2_with fail
      go_roundw
      case rel => exact ⟨k + 1, A2, n2, B2, m2, by omega, by go_num, Lib.hid (by rw [HTS.out, show (l ++ [t]).length = l.length + 1 from by simp]; exact HX.out.b0.four (.bool true) (.int .u64 S) (.slice A2 0 n2) (.slice B2 (l.length + 1) m2)), Lib.hid (by rw [HTS.out]; exact KA.out.four_no HX.out.b0 (noT_lk _ _ _ _ _ _ _ _) (.bool true) (.int .u64 S) (.slice A2 0 n2) (.slice B2 (l.length + 1) m2)), Lib.hid ((HH.out.up HX.out.below).set4 (b := w3.heap.size) ⟨4, by simp⟩ (.bool true) (.int .u64 S) (.slice A2 0 n2) (.slice B2 (l.length + 1) m2))⟩
      case measure => simp [intOf]; omega
    · obtain rfl : k = p.length := by omega
      rw [List.take_length] at HB HK
      have HDZ := Lib.hid (List.drop_zero (l := p))
      go_wp2_with fail
      go_loopw [12] (fun i wr => ∃ (k : Nat) (A1 : Option Addr) (n1 : Nat) (B1 : Option Addr) (m1 : Nat), k ≤ p.length ∧ i = .int .i64 k ∧ Hid (Box wr w3.heap.size [.bool true, .int .u64 S, .slice A1 0 n1, .slice B1 (p.drop k).length m1]) ∧ Hid (Lk wr ⟨true, S, [], (p.drop k)⟩ A1 n1 B1 m1) ∧ Hid (Held w [(w.heap.size, [.bool u, .int .u64 s, .slice A a.length n, .slice B b.length m])] [(w3.heap.size, 4)] wr)) (fun i _ => p.length - (intOf i).toNat)
      case atStart => exact ⟨0, A1, n1, B1, m1, by omega, rfl, by rw [List.drop_zero]; exact HB, by rw [List.drop_zero]; exact HK, HH⟩
      case round =>
        clear HB HK HH HDZ
        obtain ⟨k, A1, n1, B1, m1, hk, rfl, HB, HK, HH⟩ := hrel
        by_cases hlt : k < p.length
        · have hdr := List.drop_eq_getElem_cons hlt
          have hpl := (EP.out.up HH.out.below) k p[k] (List.getElem?_eq_getElem hlt)
          have hle : (p.drop (k + 1)).length ≤ 100 := by rw [List.length_drop]; omega
          have HLE := Lib.hid hle; clear hle
          rw [hdr] at HB HK
          clear hdr
          generalize p[k] = t at *
          have HDL := Lib.hid (rfl : p.drop (k + 1) = p.drop (k + 1))
          generalize hq : p.drop (k + 1) = l at HB HK HLE HDL
          have HQ := Lib.hid hq; clear hq HDL
          obtain ⟨ap, rfl, hpb, hpc⟩ := hpl
          have HPC := Lib.hid hpc; clear hpc
          have HPL := Lib.hid (show (ap.add k).block < _ from by rw [add_block]; exact hpb)
          clear hpb
          have kx := HB.out.cell
          go_wp2_with fail
          refine (HT.out l t A1 n1 B1 m1 _ HLE.out HK.out).mono ?_
          rintro e w7 ⟨A2, n2, B2, m2, rfl, hk2, hb⟩
          have YB := Lib.hid (Box.new w7 [.bool true, .int .u64 S, .slice A2 0 n2, .slice B2 l.length m2] 26)
          have KA := Lib.hid (hk2.alloc (.cells #[.bool true, .int .u64 S, .slice A2 0 n2, .slice B2 l.length m2] 26))
          have XB := Lib.hid ((HB.out.below hb).alloc (.cells #[.bool true, .int .u64 S, .slice A2 0 n2, .slice B2 l.length m2] 26))
          have HW := Lib.hid ((HH.out.up hb).alloc (.cells #[.bool true, .int .u64 S, .slice A2 0 n2, .slice B2 l.length m2] 26))
          have hc5 := (hb.cell (p := ap.add k) HPL.out).trans HPC.out
          have c5 := cell_past hc5 (.cells #[.bool true, .int .u64 S, .slice A2 0 n2, .slice B2 l.length m2] 26)
          have et : (t.toList == t.toList) = true := beq_self_eq_true _
          clear hb hk2 kx HB HK HH hc5
          have kx := XB.out.cell
          have fx := XB.out.frozen
          have ky := YB.out.cell
          go_wp2_with fail
          go_roundw
          case rel => exact ⟨k + 1, A2, n2, B2, m2, by omega, by go_num, Lib.hid (by rw [HQ.out]; exact XB.out.four (.bool true) (.int .u64 S) (.slice A2 0 n2) (.slice B2 l.length m2)), Lib.hid (by rw [HQ.out]; exact KA.out.four_no XB.out (noT_lk _ _ _ _ _ _ _ _) _ _ _ _), Lib.hid (HW.out.set4 (b := w3.heap.size) ⟨4, by simp⟩ _ _ _ _)⟩
          case measure => simp [intOf]; omega
        · obtain rfl : k = p.length := by omega
          rw [List.drop_length] at HB HK
          have kx := HB.out.cell
          go_wp2_with fail
          refine (HE.out _ _ _ _ _ _ HK.out).mono ?_
          rintro e w7 ⟨A2, n2, B2, m2, rfl, _, hb⟩
          have XB := Lib.hid ((HB.out.below hb).alloc (.cells #[.bool true, .int .u64 S, .slice A2 0 n2, .slice B2 0 m2] 26))
          have KA := Lib.hid ((HK.out.up hb).alloc (.cells #[.bool true, .int .u64 S, .slice A2 0 n2, .slice B2 0 m2] 26))
          have HW := Lib.hid ((HH.out.up hb).alloc (.cells #[.bool true, .int .u64 S, .slice A2 0 n2, .slice B2 0 m2] 26))
          clear hb kx HB HK HH
          have kx := XB.out.cell
          go_wp2_with fail
          refine (HC.out _ _ _ _ _ KA.out).mono ?_
          rintro e w8 ⟨A4, n4, B4, m4, rfl, hk4, hb⟩
          have XB8 := Lib.hid (XB.out.below hb)
          have KA8 := Lib.hid (KA.out.up hb)
          have HW8 := Lib.hid (HW.out.up hb)
          have K8 := Lib.hid hk4
          clear hb hk4 kx XB KA HW
          have kx := XB8.out.cell
          go_wp2_with fail
          refine (HE.out _ _ _ _ _ _ K8.out).mono ?_
          rintro e w9 ⟨A5, n5, B5, m5, rfl, _, hb⟩
          have XB9 := Lib.hid ((XB8.out.below hb).alloc (.cells #[.bool false, .int .u64 S, .slice A5 0 n5, .slice B5 0 m5] 26))
          have KA9 := Lib.hid ((KA8.out.up hb).alloc (.cells #[.bool false, .int .u64 S, .slice A5 0 n5, .slice B5 0 m5] 26))
          have HW9 := Lib.hid ((HW8.out.up hb).alloc (.cells #[.bool false, .int .u64 S, .slice A5 0 n5, .slice B5 0 m5] 26))
          clear hb kx XB8 KA8 HW8 K8
          have kx := XB9.out.cell
          go_wp2_with fail
          refine (HI.out _ _ _ _ _ KA9.out).mono ?_
          rintro e w10 ⟨rfl, hb⟩
          have HW10 := Lib.hid (HW9.out.up hb)
          clear hb
          go_wp2_with fail
          go_ret
          exact ⟨rfl, HW10.out.below⟩

set_option maxRecDepth 100000 in
set_option maxHeartbeats 8000000 in
theorem korder_great (q : Bool) (u : Bool) (s : Int) (a b : List ByteArray) (A B : Option Addr) (n m : Nat) (P : Option Addr) (np : Nat) (p : List ByteArray) (w : World) (hgr : Lnk.great ⟨u, s, a, b⟩ = true) :
    Calls Try.prog 4 #[.agg #[.bool u, .int .u64 s, .slice A a.length n, .slice B b.length m], .slice P p.length np, .bool q] w (Yes w) := by
  have hg := fun w => rkgreatG_any ⟨u, s, a, b⟩ A B n m w
  rw [hgr] at hg
  have HG := Lib.hid hg; clear hg hgr
  have H0 := Lib.hid ((Held.refl w).lay [.bool u, .int .u64 s, .slice A a.length n, .slice B b.length m] 26)
  go_enter Try.func4, Try.ntmps4
  go_wp2_with fail
  refine (kalive_any _).mono ?_
  rintro e w1 ⟨rfl, hb⟩
  have H1 := Lib.hid (H0.out.up hb)
  clear hb H0
  have k0 := H1.out.b0.cell
  go_wp2_with fail
  refine (HG.out _).mono ?_
  rintro e w2 ⟨rfl, hb⟩
  have H2 := Lib.hid (H1.out.up hb)
  clear hb H1 HG k0
  go_wp2_with fail
  go_ret
  exact ⟨rfl, H2.out.below⟩

set_option maxRecDepth 100000 in
set_option maxHeartbeats 8000000 in
theorem korder_many (q : Bool) (u : Bool) (s : Int) (a b : List ByteArray) (A B : Option Addr) (n m : Nat) (P : Option Addr) (np : Nat) (p : List ByteArray) (w : World) (hgr : Lnk.great ⟨u, s, a, b⟩ = false) (hlp : 100 < (p.length : Int)) :
    Calls Try.prog 4 #[.agg #[.bool u, .int .u64 s, .slice A a.length n, .slice B b.length m], .slice P p.length np, .bool q] w (Yes w) := by
  have hg := fun w => rkgreatG_any ⟨u, s, a, b⟩ A B n m w
  rw [hgr] at hg
  have HG := Lib.hid hg; clear hg hgr
  have e9 : decide (100 < (p.length : Int)) = true := decide_eq_true hlp
  clear hlp
  have H0 := Lib.hid ((Held.refl w).lay [.bool u, .int .u64 s, .slice A a.length n, .slice B b.length m] 26)
  go_enter Try.func4, Try.ntmps4
  go_wp2_with fail
  refine (kalive_any _).mono ?_
  rintro e w1 ⟨rfl, hb⟩
  have H1 := Lib.hid (H0.out.up hb)
  clear hb H0
  have k0 := H1.out.b0.cell
  go_wp2_with fail
  refine (HG.out _).mono ?_
  rintro e w2 ⟨rfl, hb⟩
  have H2 := Lib.hid (H1.out.up hb)
  clear hb H1 HG k0
  go_wp2_with fail
  go_ret
  exact ⟨rfl, H2.out.below⟩

theorem korder_law (x : Lnk) (A B : Option Addr) (n m : Nat) (P : Option Addr) (np : Nat) (p : List ByteArray) (q : Bool) (w : World) (hk : Lk w x A n B m) (hp : Es Value.string w w.heap.size P p) :
    Calls Try.prog 4 #[lkV x A n B m, .slice P p.length np, .bool q] w (Yes w) := by
  obtain ⟨u, s, a, b⟩ := x
  cases hgr : Lnk.great ⟨u, s, a, b⟩
  · by_cases hlp : 100 < (p.length : Int)
    · exact korder_many q u s a b A B n m P np p w hgr hlp
    · cases q
      · refine korder_0 u s (nextS s) a b A B n m P np p w hk hp rfl (by omega) hgr (fun w hk => kopen_any ⟨u, s, a, b⟩ A B n m w hk) (fun A1 n1 B1 m1 w hk => kidle_any ⟨true, nextS s, [], []⟩ A1 B1 n1 m1 w hk (by simp) (by simp)) (fun A1 n1 B1 m1 w hk => kclose_any ⟨true, nextS s, [], []⟩ A1 B1 n1 m1 w hk) (fun y A1 n1 B1 m1 w hk => ktake_any ⟨y, nextS s, [], []⟩ A1 B1 n1 m1 0 w hk (by simp) (by simp)) (fun l t A1 n1 B1 m1 w hl hk => ?_) (fun l t A1 n1 B1 m1 Q w hl hk hq => ?_)
        · exact ktake_any ⟨true, nextS s, (t :: l), []⟩ A1 B1 n1 m1 0 w hk (by simp; omega) (by simp)
        · exact ksend_any ⟨true, nextS s, l, []⟩ A1 B1 n1 m1 0 Q 1 [t] w hk hq (by intro e; obtain ⟨x, hx, _⟩ := hq 0 t rfl; rw [hx] at e; cases e) (Nat.le_refl _) (show l.length ≤ 100000 from by omega) (by simp) (by simp)
      · refine korder_1 u s (nextS s) a b A B n m P np p w hk hp rfl (by omega) hgr (fun w hk => kopen_any ⟨u, s, a, b⟩ A B n m w hk) (fun A1 n1 B1 m1 w hk => kidle_any ⟨true, nextS s, [], []⟩ A1 B1 n1 m1 w hk (by simp) (by simp)) (fun A1 n1 B1 m1 w hk => kclose_any ⟨true, nextS s, [], []⟩ A1 B1 n1 m1 w hk) (fun y A1 n1 B1 m1 w hk => ktake_any ⟨y, nextS s, [], []⟩ A1 B1 n1 m1 1 w hk (by simp) (by simp)) (fun l t A1 n1 B1 m1 w hl hk => ?_) (fun l t A1 n1 B1 m1 Q w hl hk hq => ?_)
        · exact ktake_any ⟨true, nextS s, [], (t :: l)⟩ A1 B1 n1 m1 1 w hk (by simp) (by simp; omega)
        · exact ksend_any ⟨true, nextS s, [], l⟩ A1 B1 n1 m1 1 Q 1 [t] w hk hq (by intro e; obtain ⟨x, hx, _⟩ := hq 0 t rfl; rw [hx] at e; cases e) (Nat.le_refl _) (by simp) (show l.length ≤ 100000 from by omega) (by simp)
  · exact korder_great q u s a b A B n m P np p w hgr
end Go.Proofs.Ytbjbdlgbppanmaa
