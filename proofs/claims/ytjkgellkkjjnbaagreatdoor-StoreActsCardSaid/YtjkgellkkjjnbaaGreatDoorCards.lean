/-
  DERIVED. GIVEN WITH THE SEED: THE CARDS: each row of YtjkgellkkjjnbaaGreatDoorRows.lean that lists a variable, with what it lists TIED to the program's text (the seventh form; the later family's looks); each row that meets fmt, with fmt's text TOLD by the authors' own Lean function (tested against real Go, not proved from fmt's source: count such statements apart). THE CARD IS WHAT COUNTS. Prove the row's statement (the work); the ties are given (YtjkgellkkjjnbaaGreatDoorTie.lean); close each card by the builder's one call (the guide's Derived/Test/ToyasCard.lean, 'card_holds'). Laid BY PROGRAM, IN A SANDBOX (cutbox-door.mjs). By AI agents, Wed Nov 11 2026. No macro, syntax, notation, axiom, sorry.
-/
import Derived.Test.YtjkgellkkjjnbaaGreatDoorRows
import GoSem.ClaimSeven
namespace Go.Proofs.YtjkgellkkjjnbaaGreatDoor
namespace Rows

/-- THE TIED CARD OF 'geminationlaw15.StoreAttaches'. -/
def storeAttachesCard : Claim7 := { stood := { row := storeAttachesRow, standIns := [], harness := (true, "16b218ec04faca287ecd3bbfc111a561bb09e1774d8cbef8470ff78c2783cd84"), looks := true }, kinds := [], alts := [], laidByText := true, laidKinds := [.handle, .sentinel], laidTests := true, laidLooks := .later }
def StoreAttachesCardSaid : Prop := Claim7.holds Tryz.pinned (.plain (OpenSpec.ofChange storeAttachesSpec)) storeAttachesCard

/-- THE TIED CARD OF 'geminationlaw15.StoreActs'. -/
def storeActsCard : Claim7 := { stood := { row := storeActsRow, standIns := [], harness := (true, "16b218ec04faca287ecd3bbfc111a561bb09e1774d8cbef8470ff78c2783cd84"), looks := true }, kinds := [], alts := [], laidByText := true, laidKinds := [.handle, .sentinel], laidTests := true, laidLooks := .later }
def StoreActsCardSaid : Prop := Claim7.holds Tryz.pinned (.plain (OpenSpec.ofChange storeActsSpec)) storeActsCard

/-- THE TIED CARD OF 'geminationlaw15.StoreWhole'. -/
def storeWholeCard : Claim7 := { stood := { row := storeWholeRow, standIns := [], harness := (true, "16b218ec04faca287ecd3bbfc111a561bb09e1774d8cbef8470ff78c2783cd84"), looks := true }, kinds := [], alts := [], laidByText := true, laidKinds := [.handle, .sentinel], laidTests := true, laidLooks := .later }
def StoreWholeCardSaid : Prop := Claim7.holds Tryz.pinned (.plain (OpenSpec.ofChange storeWholeSpec)) storeWholeCard

/-- THE TIED CARD OF 'geminationlaw15.StoreMarks'. -/
def storeMarksCard : Claim7 := { stood := { row := storeMarksRow, standIns := [], harness := (true, "16b218ec04faca287ecd3bbfc111a561bb09e1774d8cbef8470ff78c2783cd84"), looks := true }, kinds := [], alts := [], laidByText := true, laidKinds := [.handle, .sentinel], laidTests := true, laidLooks := .later }
def StoreMarksCardSaid : Prop := Claim7.holds Tryz.pinned (.plain (OpenSpec.ofChange storeMarksSpec)) storeMarksCard

/-- THE SECOND FORM's CARD OF 'geminationlaw15.StoreAttaches'. -/
def storeAttachesUptoCard : Claim7 := { stood := { row := storeAttachesUptoRow, standIns := [], harness := (true, "16b218ec04faca287ecd3bbfc111a561bb09e1774d8cbef8470ff78c2783cd84"), looks := true }, kinds := [], alts := [], laidByText := true, laidKinds := [.handle, .sentinel], laidTests := true, laidLooks := .later }
def StoreAttachesUptoCardSaid : Prop := Claim7.holds Tryz.pinned (.plain (OpenSpec.upto storeAttachesSpec)) storeAttachesUptoCard

/-- THE SECOND FORM's CARD OF 'geminationlaw15.StoreActs'. -/
def storeActsUptoCard : Claim7 := { stood := { row := storeActsUptoRow, standIns := [], harness := (true, "16b218ec04faca287ecd3bbfc111a561bb09e1774d8cbef8470ff78c2783cd84"), looks := true }, kinds := [], alts := [], laidByText := true, laidKinds := [.handle, .sentinel], laidTests := true, laidLooks := .later }
def StoreActsUptoCardSaid : Prop := Claim7.holds Tryz.pinned (.plain (OpenSpec.upto storeActsSpec)) storeActsUptoCard

/-- THE SECOND FORM's CARD OF 'geminationlaw15.StoreWhole'. -/
def storeWholeUptoCard : Claim7 := { stood := { row := storeWholeUptoRow, standIns := [], harness := (true, "16b218ec04faca287ecd3bbfc111a561bb09e1774d8cbef8470ff78c2783cd84"), looks := true }, kinds := [], alts := [], laidByText := true, laidKinds := [.handle, .sentinel], laidTests := true, laidLooks := .later }
def StoreWholeUptoCardSaid : Prop := Claim7.holds Tryz.pinned (.plain (OpenSpec.upto storeWholeSpec)) storeWholeUptoCard

/-- THE SECOND FORM's CARD OF 'geminationlaw15.StoreMarks'. -/
def storeMarksUptoCard : Claim7 := { stood := { row := storeMarksUptoRow, standIns := [], harness := (true, "16b218ec04faca287ecd3bbfc111a561bb09e1774d8cbef8470ff78c2783cd84"), looks := true }, kinds := [], alts := [], laidByText := true, laidKinds := [.handle, .sentinel], laidTests := true, laidLooks := .later }
def StoreMarksUptoCardSaid : Prop := Claim7.holds Tryz.pinned (.plain (OpenSpec.upto storeMarksSpec)) storeMarksUptoCard
end Rows
end Go.Proofs.YtjkgellkkjjnbaaGreatDoor
