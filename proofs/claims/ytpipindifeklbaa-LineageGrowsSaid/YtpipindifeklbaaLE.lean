/- Lineage: a generation's line by the document's way. No other condition but that the list lies in memory. -/
import Derived.Test.YtpipindifeklbaaLD
namespace Go.Proofs.Ytpipindifeklbaa
open Go.RowKit

set_option maxHeartbeats 2000000 in
theorem rline_any (A : Option Addr) (c : Nat) (l : List Mnt) (g : Int) (w : World) (h : Ms w w.heap.size A l) (hu : Wide l) (hg : U64 g) (hm : l.length ≤ 1000) :
    Calls Try.prog 11 #[.slice A l.length c, .int .u64 g] w (GivesU (lineL l g) w) := by
  obtain ⟨i0, hi, hz0, hz1, hz2⟩ := info_parts info23
  have HU := Lib.hid hu; clear hu
  have HW0 := Lib.hid (way_start l hg); clear hg
  have H1 := Lib.hid h; clear h
  generalize hL : lineL l g = L at *
  have HL := Lib.hid hL; clear hL
  go_enter Try.func11, Try.ntmps11
  go_wp2
  go_loopw [1, 5] (fun g' v wr => ∃ (out : List Int) (x : Int) (B' : Option Addr) (c' : Nat), g' = .int .u64 x ∧ v = .slice B' out.length c' ∧ Hid (Way l g out x) ∧
    Hid (wr.ownsRow w.heap.size 23 1 (.slice B' out.length c') out.length (out.map (Value.int .u64))) ∧ Hid (Below w.heap.size w wr)) (fun _ v _ => l.length + 2 - lenV v)
  case atStart => exact ⟨[], g, none, 0, rfl, rfl, HW0, World.ownsRow_nil _ _ _ _, Below.refl _ _⟩
  case round =>
    obtain ⟨out, x, B', c', rfl, rfl, HW, HO, HB⟩ := hrel
    clear HW0
    have HG := Lib.hid (own_u HO.out HB.out (Nat.le_refl _))
    by_cases h0 : x = 0
    · subst h0
      have hl := HL.out.symm.trans (way_end HW.out (Or.inl rfl))
      subst hl
      clear HO
      go_wp2
      go_ret
      exact HG.out
    · have hq0 : (x != 0) = true := by simp [h0]
      obtain ⟨A', c2, hv, hes, _, _⟩ := HG.out
      injection hv with hv
      injection hv with e1 e2 e3
      subst e1; subst e3
      have hr := rhasn_any B' c' out x wr _ hes (by have := HW.out.few; unfold maxLen; omega)
      clear hes
      cases hq : decide (x ∈ out) with
      | true =>
        rw [hq] at hr
        have hl := HL.out.symm.trans (way_end HW.out (Or.inr (of_decide_eq_true hq)))
        subst hl
        clear HO h0
        go_wp2_with fail
        refine hr.mono ?_
        rintro e w3 ⟨rfl, rfl⟩
        clear hr
        go_wp2_with fail
        go_ret
        exact HG.out
      | false =>
        rw [hq] at hr
        have hn := way_on HU.out HW.out (x := x) (fun q => q.elim h0 (of_decide_eq_false hq))
        have hlen := hn.2
        have HWN := Lib.hid hn.1; clear hn
        clear HG h0 hq
        go_wp2_with fail
        refine hr.mono ?_
        rintro e w3 ⟨rfl, rfl⟩
        clear hr
        go_wp2_with (at_builtin; refine wpList_append_own _ rfl _ _ 27 rfl w.heap.size 23 i0 (.int .u64 0) 1 8 Try.underlying27 hi hz0 hz1 hz2 rfl (by decide) _ _ _ rfl (HO.out.alloc _) ⟨w3.heap.size, 0, none⟩ 1 1 [.int .u64 x] rfl rfl ?c1 ?c2 ?c3 ?c4 ?c5 ?_)
        case c1 => exact cell_new1 w3 _ 23
        case c2 => intro u hu; simp at hu; subst hu; rfl
        case c3 => unfold maxLen; omega
        case c4 => omega
        case c5 => simp; have := HB.out.size; omega
        intro v' w4 hown' hgrow _
        have hb4 := (HB.out.alloc HB.out.size (.cells #[.int .u64 x] 23)).grown hgrow (by simp; have := HB.out.size; omega) (own_low HO.out)
        rw [← List.map_singleton (f := Value.int .u64), ← List.map_append, show out.length + 1 = (out ++ [x]).length from by simp] at hown'
        obtain ⟨B4, c4, rfl, _, _⟩ := own_slice hown'
        have HO4 := Lib.hid hown'; clear hown' hgrow HO
        have hp4 := rpar_any A c l x w4 _ (H1.out.below hb4 hb4.size) hm
        have HB4 := Lib.hid hb4; clear hb4 HB
        go_wp2_with fail
        refine hp4.mono ?_
        rintro e w5 ⟨rfl, rfl⟩
        clear hp4
        go_wp2_with fail
        go_roundw
        case rel => exact ⟨out ++ [x], par l x, B4, c4, rfl, by simp, HWN, HO4, HB4⟩
        case measure => simp [lenV]; omega
end Go.Proofs.Ytpipindifeklbaa
