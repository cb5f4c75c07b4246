/- Lineage: the walk of LineageTells: for every list of mints within their types and every two generations. No other condition but that the list lies in memory. -/
import Derived.Test.YtpipindifeklbaaLJ
namespace Go.Proofs.Ytpipindifeklbaa
open Go.RowKit

/-- Where there are too many. -/
theorem tells_many (A : Option Addr) (c : Nat) (l : List Mnt) (a b : Int) (w : World) (hlen : 100 < (l.length : Int)) :
    Calls Try.prog 3 #[.slice A l.length c, .int .u64 a, .int .u64 b] w (Yes w) := by
  go_enter Try.func3, Try.ntmps3
  go_wp2_with fail
  refine (lalive_any _).mono ?_
  rintro e w1 ⟨rfl, hb1⟩
  have HB1 := Lib.hid hb1; clear hb1
  go_wp2_with fail
  go_ret
  exact ⟨rfl, HB1.out⟩

set_option maxHeartbeats 4000000 in
theorem tells_few (A : Option Addr) (c : Nat) (hA : A = none → c = 0) (l : List Mnt) (a b : Int) (w : World) (h : Ms w w.heap.size A l) (hu : Wide l) (ha : U64 a) (hb : U64 b) (hlen : ¬ 100 < (l.length : Int)) :
    Calls Try.prog 3 #[.slice A l.length c, .int .u64 a, .int .u64 b] w (Yes w) := by
  have hm : l.length ≤ 1000 := by omega
  have H := Lib.hid h; clear h
  have HU := Lib.hid hu; clear hu
  have HWA := Lib.hid ha; clear ha
  have HWB := Lib.hid hb; clear hb
  go_enter Try.func3, Try.ntmps3
  go_wp2_with fail
  refine (lalive_any _).mono ?_
  rintro e w1 ⟨rfl, hb1⟩
  have HB1 := Lib.hid hb1; clear hb1
  go_wp2_with (at_builtin; refine app_ms rfl _ _ rfl _ w.heap.size (by simp; have := HB1.out.size; omega) _ [] rfl (own_bare w1 w.heap.size HB1.out.size) A c l hA rfl ((H.out.up HB1.out).up below1) (by simp; omega) ?_)
  intro v' w2 hown hgrow
  have hb2 := (HB1.out.alloc HB1.out.size (.cells #[] 32)).grown hgrow (by simp; have := HB1.out.size; omega) (by intro g hg; simp [Value.ownBlock] at hg; subst hg; exact HB1.out.size)
  obtain ⟨B, c2, rfl, _, hB⟩ := own_ms hown
  have HA := Lib.hid (H.out.up hb2)
  have HB2 := Lib.hid hb2; clear hb2 hgrow hown HB1 H
  have HO := Lib.hid hB; clear hB
  have k1 := fun w3 (q : Below w2.heap.size w2 w3) => right_any B c2 l w3 (HO.out.up q) HU.out hm
  have k2 := fun w3 (q : Below w2.heap.size w2 w3) => rright_any A c l w3 (HA.out.up q) hm
  have k3 := fun w3 (q : Below w2.heap.size w2 w3) => line_any B c2 l a w3 (HO.out.up q) HU.out HWA.out hm
  have k4 := fun w3 (q : Below w2.heap.size w2 w3) => rline_any A c l a w3 (HA.out.up q) HU.out HWA.out hm
  have k5 := fun w3 (q : Below w2.heap.size w2 w3) => in_any B c2 l w3 (HO.out.up q) HU.out hm a b HWB.out
  have k6 := fun w3 (q : Below w2.heap.size w2 w3) => rin_any A c l w3 (HA.out.up q) HU.out hm a b HWB.out
  have k7 := fun w3 (q : Below w2.heap.size w2 w3) => apart_any B c2 l w3 (HO.out.up q) HU.out hm a b HWA.out HWB.out
  have k8 := fun w3 (q : Below w2.heap.size w2 w3) => rapart_any A c l w3 (HA.out.up q) HU.out hm a b HWA.out HWB.out
  have k9 := fun w3 (q : Below w2.heap.size w2 w3) => common_any B c2 l w3 (HO.out.up q) HU.out hm a b HWA.out HWB.out
  have k10 := fun w3 (q : Below w2.heap.size w2 w3) => rcommon_any A c l w3 (HA.out.up q) HU.out hm a b HWA.out HWB.out
  have hL := line_len l a
  generalize rightL l = r at *
  generalize lineL l a = L at *
  generalize decide (a ∈ lineL l b) = i at *
  generalize apartB l a b = t at *
  generalize commonI l a b = m at *
  have K1 := Lib.hid k1; clear k1
  have K2 := Lib.hid k2; clear k2
  have K3 := Lib.hid k3; clear k3
  have K4 := Lib.hid k4; clear k4
  have K5 := Lib.hid k5; clear k5
  have K6 := Lib.hid k6; clear k6
  have K7 := Lib.hid k7; clear k7
  have K8 := Lib.hid k8; clear k8
  have K9 := Lib.hid k9; clear k9
  have K10 := Lib.hid k10; clear k10
  have HLL := Lib.hid hL; clear hL
  have HE := Lib.hid (Below.refl w2.heap.size w2)
  go_wp2_with fail
  refine (K1.out _ HE.out).mono ?_
  rintro e w3 ⟨rfl, hb⟩
  replace HE := Lib.hid (ext HE.out hb); clear hb K1
  go_wp2_with fail
  refine (K2.out _ HE.out).mono ?_
  rintro e w4 ⟨rfl, hb⟩
  replace HE := Lib.hid (ext HE.out hb); clear hb K2
  go_wp2_with fail
  refine (K3.out _ HE.out).mono ?_
  rintro e w5 ⟨X, c5, rfl, hx, _, hb⟩
  replace HE := Lib.hid (ext HE.out hb); clear hb K3
  have HX := Lib.hid hx; clear hx
  go_wp2_with fail
  refine (K4.out _ HE.out).mono ?_
  rintro e w6 ⟨Y, c6, rfl, hy, _, hb⟩
  have ks := rsamen_any X Y c5 c6 L w6 (HX.out.up hb) hy (by have := HLL.out; unfold maxLen; omega)
  replace HE := Lib.hid (ext HE.out hb); clear hb K4 HX hy
  go_wp2_with fail
  refine ks.mono ?_
  rintro e w7 ⟨rfl, hb⟩
  replace HE := Lib.hid (ext HE.out hb); clear hb ks
  go_wp2_with fail
  refine (K5.out _ HE.out).mono ?_
  rintro e w8 ⟨rfl, hb⟩
  replace HE := Lib.hid (ext HE.out hb); clear hb K5
  go_wp2_with fail
  refine (K6.out _ HE.out).mono ?_
  rintro e w9 ⟨rfl, hb⟩
  replace HE := Lib.hid (ext HE.out hb); clear hb K6
  go_wp2_with fail
  refine (K7.out _ HE.out).mono ?_
  rintro e w10 ⟨rfl, hb⟩
  replace HE := Lib.hid (ext HE.out hb); clear hb K7
  go_wp2_with fail
  refine (K8.out _ HE.out).mono ?_
  rintro e w11 ⟨rfl, hb⟩
  replace HE := Lib.hid (ext HE.out hb); clear hb K8
  go_wp2_with fail
  refine (K9.out _ HE.out).mono ?_
  rintro e w12 ⟨rfl, hb⟩
  replace HE := Lib.hid (ext HE.out hb); clear hb K9
  go_wp2_with fail
  refine (K10.out _ HE.out).mono ?_
  rintro e w13 ⟨rfl, hb⟩
  replace HE := Lib.hid (ext HE.out hb); clear hb K10
  replace HA := Lib.hid (HA.out.up HE.out)
  replace HO := Lib.hid (HO.out.up HE.out)
  have HB := Lib.hid (ext HB2.out HE.out)
  clear HB2 HE HLL
  go_wp2
  go_loopw [8, 9] (fun s i wr => ∃ k n : Nat, k ≤ l.length ∧ s = .bool true ∧ i = .int .i64 k ∧ wr = w13.drewN n) (fun _ i _ => l.length - (intOf i).toNat)
  case atStart => exact ⟨0, 0, by omega, by simp, rfl, rfl⟩
  case round =>
    obtain ⟨k, n, hk, rfl, rfl, rfl⟩ := hrel
    by_cases hlt : k < l.length
    · obtain ⟨a1, rfl, hb1, hc1, hd1, he1⟩ := HA.out k l[k] (List.getElem?_eq_getElem hlt)
      obtain ⟨a2, rfl, hb2, hc2, hd2, he2⟩ := HO.out k l[k] (List.getElem?_eq_getElem hlt)
      generalize l[k] = x at *
      obtain ⟨xg, xp, xk⟩ := x
      dsimp only at hc1 hd1 he1 hc2 hd2 he2
      clear HA HO HU
      go_wp2
      go_quiet (fail)
      go_wp2
      go_roundw
      case rel => exact ⟨k + 1, _, by omega, rfl, by go_num, rfl⟩
      case measure => simp [intOf]; omega
    · go_wp2
      go_ret
      exact ⟨rfl, below_drewN HB.out _⟩

theorem tells_law (A : Option Addr) (c : Nat) (hA : A = none → c = 0) (l : List Mnt) (a b : Int) (w : World) (h : Ms w w.heap.size A l) (hu : Wide l) (ha : U64 a) (hb : U64 b) :
    Calls Try.prog 3 #[.slice A l.length c, .int .u64 a, .int .u64 b] w (Yes w) := by
  by_cases hlen : 100 < (l.length : Int)
  · exact tells_many A c l a b w hlen
  · exact tells_few A c hA l a b w h hu ha hb hlen
end Go.Proofs.Ytpipindifeklbaa
