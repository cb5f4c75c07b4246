/- The library's table, and the type of errors, as the rows list both: they lie as their initialisers lay them. No condition. -/
import Derived.Test.YtkjikigimmchlaaGreatDoorRows
import Derived.Lib.Tables
import Derived.LaidLaws
import Derived.LaidHandle
import Derived.LaidSub
import Derived.MakeChecks
import Derived.Stop.LaidErr
import Derived.LaidMore
import Derived.OpenShut
import Derived.Stop.Joined
import Derived.ChangeSlices
import Derived.Test.YtkjikigimmchlaaGreatDoorKM
import Derived.Test.YtkjikigimmchlaaGreatDoorPQ
namespace Go.Proofs.YtkjikigimmchlaaGreatDoor
open Go.ChangeShapes Go.WideShapes Go.ChangeAt Go.RowKit
set_option maxRecDepth 100000
def laidE : List (String × DataW Unit) := [("math/bits.deBruijn32tab", Rows.laid_math_bits_deBruijn32tab), ("errors.errorType", Rows.laid_errors_errorType)]
theorem eTab : Tryz.prog.globalNamed "math/bits.deBruijn32tab" = some 1 := by kernel_rfl
theorem eTabT : (Tryz.prog.globals[1]?).map (·.type) = some 276 := by kernel_rfl
theorem ecells5 : Tryz.prog.cellsOf 5 = 1 := by kernel_rfl
theorem ecells41 : Tryz.prog.cellsOf 276 = 32 := by kernel_rfl
def etabZ : List Int := Lib.deBruijn32tab.map fun (n : Nat) => (n : Int)
theorem etabZ_at : ∀ j : Fin 32, etabZ.getD j.val 0 = ((Lib.deBruijn32tab.getD j.val 0 : Nat) : Int) := by decide +kernel
theorem eType : Tryz.prog.globalNamed "errors.errorType" = some 0 := by kernel_rfl
theorem eTypeR : (Tryz.prog.cutTypes.find? (·.1 == "internal/reflectlite.rtype")).map (·.2) = some 250 := by kernel_rfl
theorem etypesSize : Tryz.prog.types.size = 323 := by kernel_rfl
theorem eoneRow : ((List.range 323).filter fun t => Tryz.prog.rowNamed t [101, 114, 114, 111, 114]) = [130] := by kernel_rfl
theorem door_metE (os : Go.Os) (args : Array Value) : laidMetH Tryz.prog laidE ((World.doorLaid Tryz.prog 21 os).forCall (fun _ _ => 0) ⟨#[], args, []⟩).memory :=
  laidMetH_of_parts3 (fuel := 8) (laidMet_of_run' 8 (by kernel_rfl) (by kernel_rfl)) (by kernel_rfl) (by kernel_rfl)
theorem tab_ofE {W : World} (h : laidMetH Tryz.prog laidE W) : Tab W := by
  obtain ⟨hp, _⟩ := laidMetH_iff.1 h
  have h2 : laidMet Tryz.prog [("math/bits.deBruijn32tab", Lib.tabData .u8 etabZ)] W := hp
  have hT := Lib.tabIs_of_head eTab eTabT Tryz.underlying276 Tryz.underlying5 ecells5 ecells41 h2
  intro j hj
  have := hT.cell eTab j (by simpa [etabZ, Lib.deBruijn32tab] using hj)
  rw [this, etabZ_at ⟨j, hj⟩]
theorem etyp_ofE {W : World} (h : laidMetH Tryz.prog laidE W) : Etyp W := by
  obtain ⟨_, hh⟩ := laidMetH_iff.1 h
  have hh' : handlesMet Tryz.prog [("errors.errorType", Rows.laid_errors_errorType)] W := hh
  obtain ⟨name, u, ty, e1, e2, e3, e4, e5⟩ := hh' _ (List.mem_singleton.2 rfl)
  have en : name = [101, 114, 114, 111, 114] := (Option.some.inj e1).symm
  subst en
  obtain rfl := Option.some.inj (eTypeR.symm.trans e2)
  have hm : ty ∈ (List.range 323).filter fun t => Tryz.prog.rowNamed t [101, 114, 114, 111, 114] := List.mem_filter.2 ⟨List.mem_range.2 (by rw [← etypesSize]; exact e3), e4⟩
  rw [eoneRow] at hm
  obtain rfl := List.mem_singleton.1 hm
  have ht : typeHandle Tryz.prog 130 = .pointer (some ⟨2, 130, none⟩) := by kernel_rfl
  rw [ht] at e5
  unfold Etyp
  simpa using World.var?_cell eType e5 0
end Go.Proofs.YtkjikigimmchlaaGreatDoor
