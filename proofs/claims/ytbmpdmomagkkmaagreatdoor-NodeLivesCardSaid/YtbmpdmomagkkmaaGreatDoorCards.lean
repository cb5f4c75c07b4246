/-
  DERIVED. GIVEN WITH THE SEED: THE CARDS: each row of YtbmpdmomagkkmaaGreatDoorRows.lean that lists a variable, with what it lists TIED to the program's text (the seventh form; the later family's looks); each row that meets fmt, with fmt's text TOLD by the authors' own Lean function (tested against real Go, not proved from fmt's source: count such statements apart). THE CARD IS WHAT COUNTS. Prove the row's statement (the work); the ties are given (YtbmpdmomagkkmaaGreatDoorTie.lean); close each card by the builder's one call (the guide's Derived/Test/ToyasCard.lean, 'card_holds'). Laid BY PROGRAM, IN A SANDBOX (cutbox-door.mjs). By AI agents, Wed Nov 11 2026. No macro, syntax, notation, axiom, sorry.
-/
import Derived.Test.YtbmpdmomagkkmaaGreatDoorRows
import GoSem.ClaimSeven
namespace Go.Proofs.YtbmpdmomagkkmaaGreatDoor
namespace Rows

/-- THE TIED CARD OF 'geminationlaw16.NodeRoles'. -/
def nodeRolesCard : Claim7 := { stood := { row := nodeRolesRow, standIns := [], harness := (true, "fac14d2d4b594b97c6412da75a4a249821f998ced097e4b2d8659f5861c7baff"), looks := true }, kinds := [], alts := [], laidByText := true, laidKinds := [.handle, .sentinel], laidTests := true, laidLooks := .later }
def NodeRolesCardSaid : Prop := Claim7.holds Tryz.pinned (.plain (OpenSpec.ofChange nodeRolesSpec)) nodeRolesCard

/-- THE TIED CARD OF 'geminationlaw16.NodeReads'. -/
def nodeReadsCard : Claim7 := { stood := { row := nodeReadsRow, standIns := [], harness := (true, "fac14d2d4b594b97c6412da75a4a249821f998ced097e4b2d8659f5861c7baff"), looks := true }, kinds := [], alts := [], laidByText := true, laidKinds := [.handle, .sentinel], laidTests := true, laidLooks := .later }
def NodeReadsCardSaid : Prop := Claim7.holds Tryz.pinned (.plain (OpenSpec.ofChange nodeReadsSpec)) nodeReadsCard

/-- THE TIED CARD OF 'geminationlaw16.NodeLives'. -/
def nodeLivesCard : Claim7 := { stood := { row := nodeLivesRow, standIns := [], harness := (true, "fac14d2d4b594b97c6412da75a4a249821f998ced097e4b2d8659f5861c7baff"), looks := true }, kinds := [], alts := [], laidByText := true, laidKinds := [.handle, .sentinel], laidTests := true, laidLooks := .later }
def NodeLivesCardSaid : Prop := Claim7.holds Tryz.pinned (.plain (OpenSpec.ofChange nodeLivesSpec)) nodeLivesCard

/-- THE TIED CARD OF 'geminationlaw16.NodeRefuses'. -/
def nodeRefusesCard : Claim7 := { stood := { row := nodeRefusesRow, standIns := [], harness := (true, "fac14d2d4b594b97c6412da75a4a249821f998ced097e4b2d8659f5861c7baff"), looks := true }, kinds := [], alts := [], laidByText := true, laidKinds := [.handle, .sentinel], laidTests := true, laidLooks := .later }
def NodeRefusesCardSaid : Prop := Claim7.holds Tryz.pinned (.plain (OpenSpec.ofChange nodeRefusesSpec)) nodeRefusesCard

/-- THE TIED CARD OF 'geminationlaw16.NodeKeeps'. -/
def nodeKeepsCard : Claim7 := { stood := { row := nodeKeepsRow, standIns := [], harness := (true, "fac14d2d4b594b97c6412da75a4a249821f998ced097e4b2d8659f5861c7baff"), looks := true }, kinds := [], alts := [], laidByText := true, laidKinds := [.handle, .sentinel], laidTests := true, laidLooks := .later }
def NodeKeepsCardSaid : Prop := Claim7.holds Tryz.pinned (.plain (OpenSpec.ofChange nodeKeepsSpec)) nodeKeepsCard

/-- THE TIED CARD OF 'geminationlaw18.SyncTargets'. -/
def syncTargetsCard : Claim7 := { stood := { row := syncTargetsRow, standIns := [], harness := (true, "fac14d2d4b594b97c6412da75a4a249821f998ced097e4b2d8659f5861c7baff"), looks := true }, kinds := [], alts := [], laidByText := true, laidKinds := [.data], laidTests := true, laidLooks := .later }
def SyncTargetsCardSaid : Prop := Claim7.holds Tryz.pinned (.plain (OpenSpec.ofChange syncTargetsSpec)) syncTargetsCard

/-- THE TIED CARD OF 'geminationlaw18.SyncSources'. -/
def syncSourcesCard : Claim7 := { stood := { row := syncSourcesRow, standIns := [], harness := (true, "fac14d2d4b594b97c6412da75a4a249821f998ced097e4b2d8659f5861c7baff"), looks := true }, kinds := [], alts := [], laidByText := true, laidKinds := [.data], laidTests := true, laidLooks := .later }
def SyncSourcesCardSaid : Prop := Claim7.holds Tryz.pinned (.plain (OpenSpec.ofChange syncSourcesSpec)) syncSourcesCard

/-- THE TIED CARD OF 'geminationlaw18.SyncEnds'. -/
def syncEndsCard : Claim7 := { stood := { row := syncEndsRow, standIns := [], harness := (true, "fac14d2d4b594b97c6412da75a4a249821f998ced097e4b2d8659f5861c7baff"), looks := true }, kinds := [], alts := [], laidByText := true, laidKinds := [.data], laidTests := true, laidLooks := .later }
def SyncEndsCardSaid : Prop := Claim7.holds Tryz.pinned (.plain (OpenSpec.ofChange syncEndsSpec)) syncEndsCard

/-- THE SECOND FORM's CARD OF 'geminationlaw16.NodeRoles'. -/
def nodeRolesUptoCard : Claim7 := { stood := { row := nodeRolesUptoRow, standIns := [], harness := (true, "fac14d2d4b594b97c6412da75a4a249821f998ced097e4b2d8659f5861c7baff"), looks := true }, kinds := [], alts := [], laidByText := true, laidKinds := [.handle, .sentinel], laidTests := true, laidLooks := .later }
def NodeRolesUptoCardSaid : Prop := Claim7.holds Tryz.pinned (.plain (OpenSpec.upto nodeRolesSpec)) nodeRolesUptoCard

/-- THE SECOND FORM's CARD OF 'geminationlaw16.NodeReads'. -/
def nodeReadsUptoCard : Claim7 := { stood := { row := nodeReadsUptoRow, standIns := [], harness := (true, "fac14d2d4b594b97c6412da75a4a249821f998ced097e4b2d8659f5861c7baff"), looks := true }, kinds := [], alts := [], laidByText := true, laidKinds := [.handle, .sentinel], laidTests := true, laidLooks := .later }
def NodeReadsUptoCardSaid : Prop := Claim7.holds Tryz.pinned (.plain (OpenSpec.upto nodeReadsSpec)) nodeReadsUptoCard

/-- THE SECOND FORM's CARD OF 'geminationlaw16.NodeLives'. -/
def nodeLivesUptoCard : Claim7 := { stood := { row := nodeLivesUptoRow, standIns := [], harness := (true, "fac14d2d4b594b97c6412da75a4a249821f998ced097e4b2d8659f5861c7baff"), looks := true }, kinds := [], alts := [], laidByText := true, laidKinds := [.handle, .sentinel], laidTests := true, laidLooks := .later }
def NodeLivesUptoCardSaid : Prop := Claim7.holds Tryz.pinned (.plain (OpenSpec.upto nodeLivesSpec)) nodeLivesUptoCard

/-- THE SECOND FORM's CARD OF 'geminationlaw16.NodeRefuses'. -/
def nodeRefusesUptoCard : Claim7 := { stood := { row := nodeRefusesUptoRow, standIns := [], harness := (true, "fac14d2d4b594b97c6412da75a4a249821f998ced097e4b2d8659f5861c7baff"), looks := true }, kinds := [], alts := [], laidByText := true, laidKinds := [.handle, .sentinel], laidTests := true, laidLooks := .later }
def NodeRefusesUptoCardSaid : Prop := Claim7.holds Tryz.pinned (.plain (OpenSpec.upto nodeRefusesSpec)) nodeRefusesUptoCard

/-- THE SECOND FORM's CARD OF 'geminationlaw16.NodeKeeps'. -/
def nodeKeepsUptoCard : Claim7 := { stood := { row := nodeKeepsUptoRow, standIns := [], harness := (true, "fac14d2d4b594b97c6412da75a4a249821f998ced097e4b2d8659f5861c7baff"), looks := true }, kinds := [], alts := [], laidByText := true, laidKinds := [.handle, .sentinel], laidTests := true, laidLooks := .later }
def NodeKeepsUptoCardSaid : Prop := Claim7.holds Tryz.pinned (.plain (OpenSpec.upto nodeKeepsSpec)) nodeKeepsUptoCard

/-- THE SECOND FORM's CARD OF 'geminationlaw18.SyncTargets'. -/
def syncTargetsUptoCard : Claim7 := { stood := { row := syncTargetsUptoRow, standIns := [], harness := (true, "fac14d2d4b594b97c6412da75a4a249821f998ced097e4b2d8659f5861c7baff"), looks := true }, kinds := [], alts := [], laidByText := true, laidKinds := [.data], laidTests := true, laidLooks := .later }
def SyncTargetsUptoCardSaid : Prop := Claim7.holds Tryz.pinned (.plain (OpenSpec.upto syncTargetsSpec)) syncTargetsUptoCard

/-- THE SECOND FORM's CARD OF 'geminationlaw18.SyncSources'. -/
def syncSourcesUptoCard : Claim7 := { stood := { row := syncSourcesUptoRow, standIns := [], harness := (true, "fac14d2d4b594b97c6412da75a4a249821f998ced097e4b2d8659f5861c7baff"), looks := true }, kinds := [], alts := [], laidByText := true, laidKinds := [.data], laidTests := true, laidLooks := .later }
def SyncSourcesUptoCardSaid : Prop := Claim7.holds Tryz.pinned (.plain (OpenSpec.upto syncSourcesSpec)) syncSourcesUptoCard

/-- THE SECOND FORM's CARD OF 'geminationlaw18.SyncEnds'. -/
def syncEndsUptoCard : Claim7 := { stood := { row := syncEndsUptoRow, standIns := [], harness := (true, "fac14d2d4b594b97c6412da75a4a249821f998ced097e4b2d8659f5861c7baff"), looks := true }, kinds := [], alts := [], laidByText := true, laidKinds := [.data], laidTests := true, laidLooks := .later }
def SyncEndsUptoCardSaid : Prop := Claim7.holds Tryz.pinned (.plain (OpenSpec.upto syncEndsSpec)) syncEndsUptoCard
end Rows
end Go.Proofs.YtbmpdmomagkkmaaGreatDoor
