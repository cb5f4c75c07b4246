/- Links: what the library's Grow, Concat and Equal answer of texts, and what the code's Open, Close, Idle and Same answer. Under: lists of up to a million texts. -/
import Derived.Test.YtbjbdlgbppanmaaYE
import Derived.Lib.AppendZeros
import Derived.Deep.RegionHeld3
namespace Go.Proofs.Ytbjbdlgbppanmaa
open Go.RowKit

set_option maxHeartbeats 1000000 in
theorem kside_any (g : Int) (r : Bool) (hr : isSide g = r) (w : World) : Calls Try.prog 20 #[.int .i64 g] w fun e w' => e = .returned (.bool r) ∧ Below w.heap.size w w' := by
  subst hr
  unfold isSide
  by_cases h0 : g = 0
  · subst h0
    go_enter Try.func20, Try.ntmps20
    go_wp2_with fail
    go_ret
    exact ⟨ret_bool (by simp), Below.refl _ _⟩
  · have e0 : (g == 0) = false := beq_eq_false_iff_ne.2 h0
    have e1 : (g == 1) = (decide (g = 0) || decide (g = 1)) := by rw [decide_eq_false h0, Bool.false_or, Bool.beq_eq_decide_eq]
    generalize (decide (g = 0) || decide (g = 1)) = y at *
    clear h0
    go_enter Try.func20, Try.ntmps20
    go_wp2_with fail
    go_ret
    exact ⟨ret_bool (by simp), Below.refl _ _⟩

set_option maxRecDepth 100000 in
set_option maxHeartbeats 1000000 in
theorem kgrow_any (n : Nat) (w : World) (h1 : n ≤ 1000000) :
    Calls Try.prog 24 #[.slice none 0 0, .int .i64 n] w fun e w' => ∃ v, e = .returned v ∧ w'.ownsRow w.heap.size 9 1 v 0 [] ∧ Below w.heap.size w w' := by
  by_cases h0 : n = 0
  · subst h0
    go_enter Try.func24, Try.ntmps24
    go_wp2_with fail
    go_ret
    exact ⟨_, rfl, ⟨by simp, .inl ⟨rfl, rfl⟩⟩, Below.refl _ _⟩
  obtain ⟨i0, hi, hz0, hz1, hz2⟩ := info_three infoStr
  have hr := fun ty w => Lib.run_append_nil_zeros (P := Try.prog) w 23 3 ty 9 i0 (.string ⟨#[]⟩) .i64 .i64 Try.underlying23 Try.underlying3 hi hz0 n (by omega) (by rw [hz1]; decide) (by omega) (by rw [hz2]; omega)
  have hn0 : 0 < n := by omega
  clear h0
  go_enter Try.func24, Try.ntmps24
  go_wp2_with (at_builtin; refine Lib.wpList_append_run _ rfl _ _ 23 3 rfl (.slice none 0 0) (.int .i64 n) rfl rfl _ _ (hr _ _) ?_)
  have hn := grownCap_ge w n 0 9
  have hm := grownCap_le_maxLen w n 0 9 (by unfold maxLen; omega)
  go_ret
  refine ⟨_, rfl, ⟨by simp, .inr ⟨w.heap.size, grownCap w n 0 9, _, rfl, Nat.le_refl _, heap_alloc_new w _, Nat.zero_le _, hm, ?_, by simp⟩⟩, below1.drew⟩
  rw [Array.size_append, size_zeroCells, size_zeroCells]
  show n * 1 + (grownCap w n 0 9 - n) * 1 = grownCap w n 0 9 * 1
  omega

/-- Two rows put one behind the other. -/
def ktwoL (l1 l2 : List ByteArray) : Nat → List ByteArray
  | 0 => []
  | 1 => l1
  | _ => l1 ++ l2

set_option maxRecDepth 100000 in
set_option maxHeartbeats 2000000 in
theorem kconcat_any (b : Nat) (A1 A2 : Option Addr) (n1 n2 : Nat) (l1 l2 : List ByteArray) (w : World) (hb : b < w.heap.size) (hv1 : w.cell? ⟨b, 0, none⟩ = some (.slice A1 l1.length n1)) (hv2 : w.cell? ⟨b, 1, none⟩ = some (.slice A2 l2.length n2))
    (h1 : Es Value.string w w.heap.size A1 l1) (h2 : Es Value.string w w.heap.size A2 l2) (ha1 : A1 = none → n1 = 0) (ha2 : A2 = none → n2 = 0) (hl : l1.length + l2.length ≤ 1000000) :
    Calls Try.prog 21 #[.slice (some ⟨b, 0, none⟩) 2 2] w fun e w' => ∃ v, e = .returned v ∧ w'.ownsRow w.heap.size 9 1 v (l1 ++ l2).length ((l1 ++ l2).map Value.string) ∧ Below w.heap.size w w' := by
  have hgr := kgrow_any (l1.length + l2.length) w hl
  rw [Int.natCast_add] at hgr
  have H1 := Lib.hid h1; clear h1
  have H2 := Lib.hid h2; clear h2
  have HA1 := Lib.hid ha1; clear ha1
  have HA2 := Lib.hid ha2; clear ha2
  have HV1 := Lib.hid hv1
  have HV2 := Lib.hid hv2
  have HGR := Lib.hid hgr; clear hgr
  go_enter Try.func21, Try.ntmps21
  go_wp2
  go_loop [3, 5, 11] (fun z _ i => ∃ k : Nat, k ≤ 2 ∧ i = .int .i64 k ∧ z = .int .i64 (((ktwoL l1 l2 k).length : Nat) : Int)) (fun _ _ i => 2 - (intOf i).toNat)
  case atStart => exact ⟨0, by omega, rfl, rfl⟩
  case round =>
    obtain ⟨k, hk, rfl, rfl⟩ := hrel
    match k, hk with
    | 0, _ =>
      simp only [ktwoL, List.length_nil]
      go_wp2
      go_round
      case rel => exact ⟨1, by omega, rfl, by go_num⟩
      case measure => simp [intOf]
    | 1, _ =>
      simp only [ktwoL]
      go_wp2
      go_round
      case rel => exact ⟨2, by omega, rfl, by simp⟩
      case measure => simp [intOf]
    | 2, _ =>
      simp only [ktwoL, List.length_append, Int.natCast_add]
      go_wp2_with fail
      refine HGR.out.mono ?_
      rintro e w1 ⟨v, rfl, hown, hb1⟩
      have HO := Lib.hid hown; clear hown
      have HB := Lib.hid hb1; clear hb1
      clear hv1 hv2
      go_wp2
      go_loopw [6, 8, 27] (fun v _ i wr => ∃ k : Nat, k ≤ 2 ∧ i = .int .i64 k ∧ Hid (wr.ownsRow w.heap.size 9 1 v (ktwoL l1 l2 k).length ((ktwoL l1 l2 k).map Value.string)) ∧ Hid (Below w.heap.size w wr)) (fun _ _ i _ => 2 - (intOf i).toNat)
      case atStart => exact ⟨0, by omega, rfl, HO.out, HB.out⟩
      case round =>
        obtain ⟨k, hk, rfl, HO1, HB1⟩ := hrel
        have hv1 := (HB1.out.cell (p := ⟨b, 0, none⟩) hb).trans HV1.out
        have hv2 := (HB1.out.cell (p := ⟨b, 1, none⟩) hb).trans HV2.out
        match k, hk with
        | 0, _ =>
          go_wp2_with (at_builtin; refine app_txts rfl _ _ rfl _ w.heap.size ?c1 _ [] rfl ?c2 A1 n1 l1 ?c3 rfl ?c4 ?c5 ?_)
          case c1 => exact HB1.out.size
          case c2 => exact HO1.out
          case c3 => exact HA1.out
          case c4 => exact H1.out.up HB1.out
          case c5 => simp; omega
          intro v' w4 hown hgrow
          have hb4 := HB1.out.trans hgrow
          have HO' := Lib.hid hown; clear hown
          have HB' := Lib.hid hb4; clear hb4
          clear hgrow
          go_wp2
          go_roundw
          case rel => exact ⟨1, by omega, rfl, HO'.out, HB'.out⟩
          case measure => simp [intOf]
        | 1, _ =>
          go_wp2_with (at_builtin; refine app_txts rfl _ _ rfl _ w.heap.size ?c1 _ l1 rfl ?c2 A2 n2 l2 ?c3 rfl ?c4 ?c5 ?_)
          case c1 => exact HB1.out.size
          case c2 => exact HO1.out
          case c3 => exact HA2.out
          case c4 => exact H2.out.up HB1.out
          case c5 => omega
          intro v' w4 hown hgrow
          have hb4 := HB1.out.trans hgrow
          have HO' := Lib.hid hown; clear hown
          have HB' := Lib.hid hb4; clear hb4
          clear hgrow
          go_wp2
          go_roundw
          case rel => exact ⟨2, by omega, rfl, by simpa [ktwoL, Hid] using HO'.out, HB'.out⟩
          case measure => simp [intOf]
        | 2, _ =>
          go_wp2
          go_ret
          exact ⟨_, rfl, HO1.out, HB1.out⟩

set_option maxHeartbeats 400000 in
theorem keqStr_any (A1 A2 : Option Addr) (c1 c2 : Nat) (l1 l2 : List ByteArray) (w : World) (h1 : Es Value.string w w.heap.size A1 l1) (h2 : Es Value.string w w.heap.size A2 l2) (m1 : l1.length ≤ 1000000) :
    Calls Try.prog 23 #[.slice A1 l1.length c1, .slice A2 l2.length c2] w fun e w' => e = .returned (.bool (decide (l1 = l2))) ∧ Below w.heap.size w w' := by
  have H1 := Lib.hid h1; clear h1
  have H2 := Lib.hid h2; clear h2
  by_cases hl : l1.length = l2.length
  · have HL := Lib.hid hl
    have hli : ((l1.length : Int) == (l2.length : Int)) = true := by simp [hl]
    have hnb : ((l1.length : Int) != (l2.length : Int)) = false := by simp [hl]
    clear hl
    go_enter Try.func23, Try.ntmps23
    go_wp2
    go_loopw [5, 13] (fun _ i wr => ∃ k n : Nat, k ≤ l1.length ∧ i = .int .i64 k ∧ Hid (l1.take k = l2.take k) ∧ wr = w.drewN n) (fun _ i _ => l1.length - (intOf i).toNat)
    case atStart => exact ⟨0, 0, by omega, rfl, by simp [Hid], rfl⟩
    case round =>
      obtain ⟨k, n, hk, rfl, hp, rfl⟩ := hrel
      by_cases hlt : k < l1.length
      · have hlt2 : k < l2.length := by rw [← HL.out]; exact hlt
        obtain ⟨a1, rfl, hb1, hc1⟩ := H1.out k l1[k] (List.getElem?_eq_getElem hlt)
        obtain ⟨a2, rfl, hb2, hc2⟩ := H2.out k l2[k] (List.getElem?_eq_getElem hlt2)
        have hs := keq_step hlt hlt2 hp.out
        have hh := keq_no hlt hlt2
        have HS := Lib.hid hs; clear hs
        have HH := Lib.hid hh; clear hh
        clear hp
        generalize l1[k] = x at *
        generalize l2[k] = y at *
        by_cases hxy : x = y
        · have he : (x.toList == y.toList) = true := by rw [ktext_eq, decide_eq_true hxy]
          have HX := Lib.hid hxy; clear hxy
          go_wp2
          go_quiet (fail)
          go_wp2
          go_roundw
          case rel => exact ⟨k + 1, _, by omega, by go_num, HS.out HX.out, rfl⟩
          case measure => simp [intOf]; omega
        · have he : (x.toList == y.toList) = false := by rw [ktext_eq, decide_eq_false hxy]
          have hne := HH.out hxy
          have HN := Lib.hid hne; clear hne
          clear hxy HH HS
          go_wp2
          go_quiet (fail)
          go_wp2
          go_ret
          exact ⟨ret_bool (by rw [decide_eq_false HN.out]), ext_drewN (ext_drewN (Below.refl _ _) _) _⟩
      · obtain rfl : k = l1.length := by omega
        have hq := keq_yes HL.out hp.out
        have HQ := Lib.hid hq; clear hq
        clear hp
        go_wp2
        go_ret
        exact ⟨ret_bool (by rw [decide_eq_true HQ.out]), ext_drewN (Below.refl _ _) _⟩
  · have hne : l1 ≠ l2 := fun e => hl (by rw [e])
    have hli : ((l1.length : Int) == (l2.length : Int)) = false := by rw [beq_eq_false_iff_ne]; omega
    have hnb : ((l1.length : Int) != (l2.length : Int)) = true := by simp [bne, hli]
    have HN := Lib.hid hne; clear hne
    clear hl
    go_enter Try.func23, Try.ntmps23
    go_wp2
    go_ret
    exact ⟨ret_bool (by rw [decide_eq_false HN.out]), Below.refl _ _⟩
end Go.Proofs.Ytbjbdlgbppanmaa
