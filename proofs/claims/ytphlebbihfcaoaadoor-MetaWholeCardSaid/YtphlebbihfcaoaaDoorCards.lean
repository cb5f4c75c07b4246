/-
  DERIVED. GIVEN WITH THE SEED: THE CARDS: each row of YtphlebbihfcaoaaDoorRows.lean that lists a variable, with what it lists TIED to the program's text (the seventh form; the later family's looks); each row that meets fmt, with fmt's text TOLD by the authors' own Lean function (tested against real Go, not proved from fmt's source: count such statements apart). THE CARD IS WHAT COUNTS. Prove the row's statement (the work); the ties are given (YtphlebbihfcaoaaDoorTie.lean); close each card by the builder's one call (the guide's Derived/Test/ToyasCard.lean, 'card_holds'). Laid BY PROGRAM, IN A SANDBOX (cutbox-door.mjs). By AI agents, Wed Nov 11 2026. No macro, syntax, notation, axiom, sorry.
-/
import Derived.Test.YtphlebbihfcaoaaDoorRows
import GoSem.ClaimSeven
namespace Go.Proofs.YtphlebbihfcaoaaDoor
namespace Rows

/-- THE TIED CARD OF 'geminationlaw07.MetaLoads'. -/
def metaLoadsCard : Claim7 := { stood := { row := metaLoadsRow, standIns := [], harness := (true, "6ef98a0db7880d06f7e6277e285e41d8e4e95345995023566237876ef3e73280"), looks := true }, kinds := [], alts := [], laidByText := true, laidKinds := [.handle, .sentinel], laidTests := true, laidLooks := .later }
def MetaLoadsCardSaid : Prop := Claim7.holds Tryd.pinned (.plain (OpenSpec.ofChange metaLoadsSpec)) metaLoadsCard

/-- THE TIED CARD OF 'geminationlaw07.MetaWhole'. -/
def metaWholeCard : Claim7 := { stood := { row := metaWholeRow, standIns := [], harness := (true, "6ef98a0db7880d06f7e6277e285e41d8e4e95345995023566237876ef3e73280"), looks := true }, kinds := [], alts := [], laidByText := true, laidKinds := [.handle, .sentinel], laidTests := true, laidLooks := .later }
def MetaWholeCardSaid : Prop := Claim7.holds Tryd.pinned (.plain (OpenSpec.ofChange metaWholeSpec)) metaWholeCard

/-- THE SECOND FORM's CARD OF 'geminationlaw07.MetaLoads'. -/
def metaLoadsUptoCard : Claim7 := { stood := { row := metaLoadsUptoRow, standIns := [], harness := (true, "6ef98a0db7880d06f7e6277e285e41d8e4e95345995023566237876ef3e73280"), looks := true }, kinds := [], alts := [], laidByText := true, laidKinds := [.handle, .sentinel], laidTests := true, laidLooks := .later }
def MetaLoadsUptoCardSaid : Prop := Claim7.holds Tryd.pinned (.plain (OpenSpec.upto metaLoadsSpec)) metaLoadsUptoCard

/-- THE SECOND FORM's CARD OF 'geminationlaw07.MetaWhole'. -/
def metaWholeUptoCard : Claim7 := { stood := { row := metaWholeUptoRow, standIns := [], harness := (true, "6ef98a0db7880d06f7e6277e285e41d8e4e95345995023566237876ef3e73280"), looks := true }, kinds := [], alts := [], laidByText := true, laidKinds := [.handle, .sentinel], laidTests := true, laidLooks := .later }
def MetaWholeUptoCardSaid : Prop := Claim7.holds Tryd.pinned (.plain (OpenSpec.upto metaWholeSpec)) metaWholeUptoCard
end Rows
end Go.Proofs.YtphlebbihfcaoaaDoor
