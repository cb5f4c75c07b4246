/- Vectors: the walk of the law on what is made: it answers true, for every vector and every generation. No other condition. -/
import Derived.Test.YtofojafihcekjaaV5
import Derived.Deep.RegionHeld3
namespace Go.Proofs.Ytofojafihcekjaa
open Go.RowKit

/-- It answers true, and leaves what was there as it was. -/
def Yes (w : World) (e : Ending) (w' : World) : Prop := e = .returned (.bool true) ∧ Below w.heap.size w w'

set_option maxRecDepth 100000 in
set_option maxHeartbeats 4000000 in
theorem makes_law (c b o p g : Int) (w : World) : Calls Try.prog 3 #[vecV c b o p, .int .u64 g] w (Yes w) := by
  have hmi := fun w => mint_any c b o p g w
  have hrm := fun w => rmint_any c b o p g w
  have hre := fun w => retire_any c b o p w
  have hrr := fun w => rretire_any c b o p w
  have hfr := fun w => from_any c b o p g w
  have hrf := fun w => rfrom_any c b o p g w
  have hri := fun w => vright_any c b o p w
  have hrri := fun w => rvright_any c b o p w
  have hpl := fun w => place_any c b o p g w
  have hrpl := fun w => rplace_any c b o p g w
  generalize mintB c b g = mb at *
  generalize mintO c b o g = mo at *
  generalize mintP b o p g = mp at *
  generalize mintE g = me at *
  generalize retO b o = ro at *
  generalize retP b o p = rp at *
  generalize (!decide (c = 0)) = ri at *
  generalize placeI c b o p g = pl at *
  have HMI := Lib.hid hmi; clear hmi
  have HRM := Lib.hid hrm; clear hrm
  have HRE := Lib.hid hre; clear hre
  have HRR := Lib.hid hrr; clear hrr
  have HFR := Lib.hid hfr; clear hfr
  have HRF := Lib.hid hrf; clear hrf
  have HRI := Lib.hid hri; clear hri
  have HRRI := Lib.hid hrri; clear hrri
  have HPL := Lib.hid hpl; clear hpl
  have HRPL := Lib.hid hrpl; clear hrpl
  have B0 := Lib.hid ((Boxs.nil w).lay [.int .u64 c, .int .u64 b, .int .u64 o, .int .u64 p] 25)
  have H0 := Lib.hid (below1 (w := w) (o := .cells #[.int .u64 c, .int .u64 b, .int .u64 o, .int .u64 p] 25))
  go_enter Try.func3, Try.ntmps3
  go_wp2_with fail
  refine (alive_any _).mono ?_
  rintro e w1 ⟨rfl, hb⟩
  have B1 := Lib.hid (B0.out.up hb)
  have H1 := Lib.hid (ext H0.out hb)
  clear hb B0 H0
  have k := B1.out.hd.cell
  go_wp2_with fail
  refine (HMI.out _).mono ?_
  rintro e w2 ⟨rfl, hb⟩
  have B2 := Lib.hid ((B1.out.up hb).lay [.int .u64 g, .int .u64 mb, .int .u64 mo, .int .u64 mp] 25)
  have H2 := Lib.hid (ext_alloc (ext H1.out hb) (.cells #[.int .u64 g, .int .u64 mb, .int .u64 mo, .int .u64 mp] 25))
  clear hb B1 H1 k
  have k := B2.out.tl.hd.cell
  go_wp2_with fail
  refine (HRM.out _).mono ?_
  rintro e w3 ⟨rfl, hb⟩
  have B3 := Lib.hid ((B2.out.up hb).lay [.int .u64 g, .int .u64 mb, .int .u64 mo, .int .u64 mp] 25)
  have H3 := Lib.hid (ext_alloc (ext H2.out hb) (.cells #[.int .u64 g, .int .u64 mb, .int .u64 mo, .int .u64 mp] 25))
  clear hb B2 H2 k
  go_wp2_with fail
  generalize hW : w3.alloc (.cells #[.int .u64 g, .int .u64 mb, .int .u64 mo, .int .u64 mp] 25) = W0 at *
  have hkeep : ∀ w', Below W0.heap.size W0 w' → (∀ j, w'.cell? ⟨w.heap.size, j, none⟩ = [Value.int .u64 c, .int .u64 b, .int .u64 o, .int .u64 p][j]?) ∧ (∀ j, w'.cell? ⟨w2.heap.size, j, none⟩ = [Value.int .u64 g, .int .u64 mb, .int .u64 mo, .int .u64 mp][j]?) ∧ (∀ j, w'.cell? ⟨w3.heap.size, j, none⟩ = [Value.int .u64 g, .int .u64 mb, .int .u64 mo, .int .u64 mp][j]?) := fun w' hb =>
    ⟨((B3.out.up hb).tl.tl.hd).cell, ((B3.out.up hb).tl.hd).cell, ((B3.out.up hb).hd).cell⟩
  have HK := Lib.hid hkeep; clear hkeep hW B3
  go_region_held3 (fun w' => Below W0.heap.size W0 w' ∧ (∀ j, w'.cell? ⟨w.heap.size, j, none⟩ = [Value.int .u64 c, .int .u64 b, .int .u64 o, .int .u64 p][j]?) ∧ (∀ j, w'.cell? ⟨w2.heap.size, j, none⟩ = [Value.int .u64 g, .int .u64 mb, .int .u64 mo, .int .u64 mp][j]?) ∧ (∀ j, w'.cell? ⟨w3.heap.size, j, none⟩ = [Value.int .u64 g, .int .u64 mb, .int .u64 mo, .int .u64 mp][j]?))
    (first | exact ⟨(Below.refl _ _).drew, HK.out _ (Below.refl _ _).drew⟩ | exact ⟨by assumption, HK.out _ (by assumption)⟩)
    (first
      | (go_at_call 10; obtain ⟨hcur, _⟩ := ‹Below W0.heap.size W0 _ ∧ _›; refine (HRE.out _).mono ?_; rintro e w6 ⟨rfl, hb6⟩; have hB := ext hcur hb6)
      | (go_at_call 11; obtain ⟨hcur, _⟩ := ‹Below W0.heap.size W0 _ ∧ _›; refine (HRR.out _).mono ?_; rintro e w6 ⟨rfl, hb6⟩; have hB := ext hcur hb6)
      | (go_at_call 12; obtain ⟨hcur, _⟩ := ‹Below W0.heap.size W0 _ ∧ _›; refine (HFR.out _).mono ?_; rintro e w6 ⟨rfl, hb6⟩; have hB := ext hcur hb6)
      | (go_at_call 13; obtain ⟨hcur, _⟩ := ‹Below W0.heap.size W0 _ ∧ _›; refine (HRF.out _).mono ?_; rintro e w6 ⟨rfl, hb6⟩; have hB := ext hcur hb6)
      | (go_at_call 14; obtain ⟨hcur, _⟩ := ‹Below W0.heap.size W0 _ ∧ _›; refine (HRI.out _).mono ?_; rintro e w6 ⟨rfl, hb6⟩; have hB := ext hcur hb6)
      | (go_at_call 15; obtain ⟨hcur, _⟩ := ‹Below W0.heap.size W0 _ ∧ _›; refine (HRRI.out _).mono ?_; rintro e w6 ⟨rfl, hb6⟩; have hB := ext hcur hb6)
      | (go_at_call 16; obtain ⟨hcur, _⟩ := ‹Below W0.heap.size W0 _ ∧ _›; refine (HPL.out _).mono ?_; rintro e w6 ⟨rfl, hb6⟩; have hB := ext hcur hb6)
      | (go_at_call 17; obtain ⟨hcur, _⟩ := ‹Below W0.heap.size W0 _ ∧ _›; refine (HRPL.out _).mono ?_; rintro e w6 ⟨rfl, hb6⟩; have hB := ext hcur hb6))
  all_goals
    obtain ⟨hcur, _⟩ := ‹Below W0.heap.size W0 _ ∧ _›
    go_wp2_with fail
    go_ret
    exact ⟨rfl, ext H3.out hcur⟩
end Go.Proofs.Ytofojafihcekjaa
