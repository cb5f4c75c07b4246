/-
  DERIVED. GIVEN WITH THE SEED: THE CARDS: each row of YtkjikigimmchlaaGreatDoorRows.lean that lists a variable, with what it lists TIED to the program's text (the seventh form; the later family's looks); each row that meets fmt, with fmt's text TOLD by the authors' own Lean function (tested against real Go, not proved from fmt's source: count such statements apart). THE CARD IS WHAT COUNTS. Prove the row's statement (the work); the ties are given (YtkjikigimmchlaaGreatDoorTie.lean); close each card by the builder's one call (the guide's Derived/Test/ToyasCard.lean, 'card_holds'). Laid BY PROGRAM, IN A SANDBOX (cutbox-door.mjs). By AI agents, Wed Nov 11 2026. No macro, syntax, notation, axiom, sorry.
-/
import Derived.Test.YtkjikigimmchlaaGreatDoorRows
import GoSem.ClaimSeven
namespace Go.Proofs.YtkjikigimmchlaaGreatDoor
namespace Rows

/-- THE TIED CARD OF 'geminationlaw20.PeerJunk'. -/
def peerJunkCard : Claim7 := { stood := { row := peerJunkRow, standIns := [], harness := (true, "79e36695b4f654d0469fa4bd33a808d35a68516383b2acd3366666117255a4e5"), looks := true }, kinds := [], alts := [], laidByText := true, laidKinds := [.data, .handle], laidTests := true, laidLooks := .later }
def PeerJunkCardSaid : Prop := Claim7.holds Tryz.pinned (.plain (OpenSpec.ofChange peerJunkSpec)) peerJunkCard

/-- THE SECOND FORM's CARD OF 'geminationlaw20.PeerJunk'. -/
def peerJunkUptoCard : Claim7 := { stood := { row := peerJunkUptoRow, standIns := [], harness := (true, "79e36695b4f654d0469fa4bd33a808d35a68516383b2acd3366666117255a4e5"), looks := true }, kinds := [], alts := [], laidByText := true, laidKinds := [.data, .handle], laidTests := true, laidLooks := .later }
def PeerJunkUptoCardSaid : Prop := Claim7.holds Tryz.pinned (.plain (OpenSpec.upto peerJunkSpec)) peerJunkUptoCard
end Rows
end Go.Proofs.YtkjikigimmchlaaGreatDoor
