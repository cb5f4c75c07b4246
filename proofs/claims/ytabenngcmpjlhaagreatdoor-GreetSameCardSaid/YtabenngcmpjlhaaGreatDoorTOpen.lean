/- The library's table, as the rows list it: it lies as its initialiser lays it. No condition. -/
import Derived.Test.YtabenngcmpjlhaaGreatDoorRows
import Derived.Lib.Tables
import Derived.LaidMore
import Derived.OpenShut
import Derived.Stop.Joined
import Derived.ChangeSlices
import Derived.Test.YtabenngcmpjlhaaGreatDoorKM
namespace Go.Proofs.YtabenngcmpjlhaaGreatDoor
open Go.ChangeShapes Go.WideShapes Go.ChangeAt Go.RowKit
set_option maxRecDepth 100000
abbrev laidT : List (String × DataW Unit) := [("math/bits.deBruijn32tab", Rows.laid_math_bits_deBruijn32tab)]
theorem gTab : Tryz.prog.globalNamed "math/bits.deBruijn32tab" = some 0 := by kernel_rfl
theorem tTab : (Tryz.prog.globals[0]?).map (·.type) = some 225 := by kernel_rfl
theorem tcells5 : Tryz.prog.cellsOf 5 = 1 := by kernel_rfl
theorem tcells41 : Tryz.prog.cellsOf 225 = 32 := by kernel_rfl
def tabZ : List Int := Lib.deBruijn32tab.map fun (n : Nat) => (n : Int)
theorem tabZ_at : ∀ j : Fin 32, tabZ.getD j.val 0 = ((Lib.deBruijn32tab.getD j.val 0 : Nat) : Int) := by decide +kernel
theorem door_metT (os : Os) (args : Array Value) : laidMetH Tryz.prog laidT ((World.doorLaid Tryz.prog 14 os).forCall (fun _ _ => 0) ⟨#[], args, []⟩).memory :=
  laidMetH_of_parts3 (fuel := 8) (laidMet_of_run' 8 (by kernel_rfl) (by kernel_rfl)) (by kernel_rfl) (by kernel_rfl)
theorem tab_of {W : World} (h : laidMetH Tryz.prog laidT W) : Tab W := by
  rw [MakeChecks.laidMetH_plain _ _ _ (by kernel_rfl)] at h
  have h2 : laidMet Tryz.prog [("math/bits.deBruijn32tab", Lib.tabData .u8 tabZ)] W := h
  have hT := Lib.tabIs_of_head gTab tTab Tryz.underlying225 Tryz.underlying5 tcells5 tcells41 h2
  intro j hj
  have := hT.cell gTab j (by simpa [tabZ, Lib.deBruijn32tab] using hj)
  rw [this, tabZ_at ⟨j, hj⟩]
end Go.Proofs.YtabenngcmpjlhaaGreatDoor
