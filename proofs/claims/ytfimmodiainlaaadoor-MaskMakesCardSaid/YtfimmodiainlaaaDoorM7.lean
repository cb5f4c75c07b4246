/- Masks: the walks of the laws: each answers true, for every argument. No other condition but that the table of the lowest bits lies as its initialiser lays it. -/
import Derived.Test.YtfimmodiainlaaaDoorM6
import Derived.Laws.AppendOwnNone
namespace Go.Proofs.YtfimmodiainlaaaDoor
open Go.RowKit

/-- It answers true, and leaves what was there as it was. -/
def Yes (w : World) (e : Ending) (w' : World) : Prop := e = .returned (.bool true) ∧ Below w.heap.size w w'

theorem ext {w w1 w2 : World} (h1 : Below w.heap.size w w1) (h2 : Below w1.heap.size w1 w2) : Below w.heap.size w w2 := h1.trans (h2.mono h1.size)
theorem ext_drewN {w w1 : World} (h1 : Below w.heap.size w w1) (n : Nat) : Below w.heap.size w (w1.drewN n) := below_drewN h1 n

set_option maxHeartbeats 2000000 in
theorem tells_law (m : Nat) (i f : Int) (w : World) (hm : m < 4294967296) (hT : Tab w) :
    Calls Tryd.prog 3 #[.int .u32 m, .int .i64 i, .int .i64 f] w (Yes w) := by
  have hpos := hT.size
  have hn := fun w hT => next_any m f w hm hT
  have hrn := fun w => rnext_any m f w
  unfold nxE at hn hrn
  generalize (((nx m f).getD 0 : Nat) : Int) = a at *
  generalize (nx m f).isSome = p at *
  have hh := fun w => has_any m i w hm
  have hrh := fun w => rhas_any m i w
  generalize hasB m i = b at *
  have hr := fun w => right_any m i w hm
  have hrr := fun w => rright_any m i w hm
  generalize rightB m i = r at *
  have ha := fun w => all_any i w
  have hra := fun w => rall_any i w
  generalize ((allB i : Nat) : Int) = al at *
  have hc := fun w => count_any m w hm
  have hrc := fun w => rcount_any m w
  generalize pc 32 m = n at *
  have hl := fun w hT => list_any m w hm hT
  have hrl := fun w => rlist_any m w
  generalize bl 32 m = l at *
  have HT := Lib.hid hT; clear hT
  have HM := Lib.hid hm; clear hm
  go_enter Tryd.func3, Tryd.ntmps3
  go_wp2_with fail
  refine (alive_any _ HT.out).mono ?_
  rintro e w1 ⟨rfl, hb1⟩
  go_wp2_with fail
  refine (hn _ (HT.out.below hb1 hpos)).mono ?_
  rintro e w2 ⟨rfl, rfl⟩
  go_wp2_with fail
  refine (hrn _).mono ?_
  rintro e w2 ⟨rfl, rfl⟩
  go_wp2_with fail
  refine (hh _).mono ?_
  rintro e w2 ⟨rfl, hb2⟩
  replace hb2 := ext hb1 hb2
  clear hb1
  go_wp2_with fail
  refine (hrh _).mono ?_
  rintro e w3 ⟨rfl, rfl⟩
  go_wp2_with fail
  refine (hr _).mono ?_
  rintro e w3 ⟨rfl, rfl⟩
  go_wp2_with fail
  refine (hrr _).mono ?_
  rintro e w3 ⟨rfl, rfl⟩
  go_wp2_with fail
  refine (ha _).mono ?_
  rintro e w3 ⟨rfl, rfl⟩
  go_wp2_with fail
  refine (hra _).mono ?_
  rintro e w3 ⟨rfl, rfl⟩
  go_wp2_with fail
  refine (hc _).mono ?_
  rintro e w3 ⟨rfl, n3, rfl⟩
  go_wp2_with fail
  refine (hrc _).mono ?_
  rintro e w4 ⟨rfl, hb4⟩
  replace hb4 := ext (ext_drewN hb2 n3) hb4
  clear hb2
  go_wp2_with fail
  refine (hl _ (HT.out.below hb4 hpos)).mono ?_
  rintro e w5 ⟨A5, c5, rfl, hm5, hs5, hb5⟩
  have hb5' := ext hb4 hb5
  clear hb4 hb5
  have HM5 := Lib.hid hm5; clear hm5
  have HS5 := Lib.hid hs5; clear hs5
  go_wp2_with fail
  refine (hrl _).mono ?_
  rintro e w6 ⟨A6, c6, rfl, _, hs6, hb6⟩
  have HS6 := Lib.hid hs6; clear hs6
  have HB6 := Lib.hid (ext hb5' hb6)
  clear hb5'
  have HB := Lib.hid hb6; clear hb6
  go_wp2_with fail
  refine (same_yes A5 A6 c5 c6 l _ w6.heap.size (HS5.out.below HB.out HB.out.size) HS6.out HM5.out).mono ?_
  rintro e w7 ⟨rfl, n7, rfl⟩
  go_wp2_with fail
  go_ret
  exact ⟨rfl, ext_drewN HB6.out n7⟩
end Go.Proofs.YtfimmodiainlaaaDoor
