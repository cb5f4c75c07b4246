/-
  NARROWER THAN 'FOR EVERY INPUT', by the rows' own cells (each row's printed sentence says how): NodeRoles: laid · NodeReads: laid · NodeLives: laid · NodeRefuses: laid · NodeKeeps: laid · SyncTargets: laid · SyncSources: laid · SyncEnds: laid.
  DERIVED. THE GIVEN ROWS OF THIS SEAT. 8 by the template 'for every input the law returns true; each argument reads behind the call as it read before'; 0 by the template 'total and deterministic' (their statements: YtbmpdmomagkkmaaGreatDoorTotals.lean).
  GIVEN WITH THE SEED: the statements are not yours to turn. If you find one false, say at which input.
  Laid BY PROGRAM, IN A SANDBOX (cutbox-rows.mjs): the forced cells as the released guide's own fill.sh prints them over the translation 93c288ce69a0d79d… (all of the seat's roots in one cut). By AI agents, Wed Nov 11 2026. No macro, syntax, notation, axiom, sorry.
-/
import Derived.Test.YtbmpdmomagkkmaaGreatDoorChecked
import GoSem.Claim
import GoSem.ClaimJoined
import GoSem.ClaimMapViews
import Derived.JoinedTies
import Derived.KernelRfl
namespace Go.Proofs.YtbmpdmomagkkmaaGreatDoor
/- THE CELL 'sum', in the pinned program and in every row, IS THE sha256 OF THE DUMP (.gsa) THAT YtbmpdmomagkkmaaGreatDoorProg.lean LOADS. Nothing in Lean hashes anything: it is a label: what it is worth is what the hold of that sum in a sandbox is worth. -/
noncomputable def Tryz.pinned : Pinned := { name := "ytbmpdmomagkkmaagreatdoor", sum := "93c288ce69a0d79dd18b8c6fa1e0396352f6a45d7ac7641745777b990612f967", checked := Tryz.checked }
namespace Rows
def none {H : Type} : Left H := { results := [], args := [] }

/- WHAT THE LISTED PACKAGE-LEVEL VARIABLES READ AS WHEN THE CALL BEGINS. Each datum BY PROGRAM (the guide's laid-datum.mjs) off the statement by which the dump's own 'gosem.cut.vars' lays the variable. In a bare row this is a premise. The card (YtbmpdmomagkkmaaGreatDoorCards.lean) ties it to the program's text. -/
def laid_errors_errorType {H : Type} : DataW H := .iface "internal/reflectlite.rtype" (.agg [.ptr (.lit (.string [101, 114, 114, 111, 114]))])
def laid_gemination_super_errShape {H : Type} : DataW H := .iface "*errors.errorString" (.ptr (.agg [.lit (.string [110, 111, 116, 32, 97, 32, 115, 117, 112, 101, 114, 98, 108, 111, 99, 107])]))
def laid_math_bits_deBruijn32tab {H : Type} : DataW H := .agg [.lit (.int .u8 0), .lit (.int .u8 1), .lit (.int .u8 28), .lit (.int .u8 2), .lit (.int .u8 29), .lit (.int .u8 14), .lit (.int .u8 24), .lit (.int .u8 3), .lit (.int .u8 30), .lit (.int .u8 22), .lit (.int .u8 20), .lit (.int .u8 15), .lit (.int .u8 25), .lit (.int .u8 17), .lit (.int .u8 4), .lit (.int .u8 8), .lit (.int .u8 31), .lit (.int .u8 27), .lit (.int .u8 13), .lit (.int .u8 23), .lit (.int .u8 21), .lit (.int .u8 19), .lit (.int .u8 16), .lit (.int .u8 7), .lit (.int .u8 26), .lit (.int .u8 12), .lit (.int .u8 18), .lit (.int .u8 6), .lit (.int .u8 11), .lit (.int .u8 5), .lit (.int .u8 10), .lit (.int .u8 9)]

/-- 'geminationlaw16.NodeRoles': WHATEVER THE INPUT: true; the input reads as it did. -/
def nodeRolesSpec : ChangeSpec := { name := "nodeRoles", fn := fun _ => fun
  | [d1, d2] => { results := [.lit (.bool true)], args := [d1, d2] }
  | _ => none }
def nodeRolesRow : OpenClaim := { program := "ytbmpdmomagkkmaagreatdoor", sum := "93c288ce69a0d79dd18b8c6fa1e0396352f6a45d7ac7641745777b990612f967", func := "gemination/geminationlaw16.NodeRoles", spec := "nodeRoles", inPlace := ["internal/reflectlite.TypeOf", "internal/reflectlite.ValueOf", "(internal/reflectlite.Value).Type", "(internal/reflectlite.Value).IsNil", "(internal/reflectlite.Value).Elem", "(internal/reflectlite.Value).Set"], unfollowed := true, recurses := true, named := ["gemination/super.errShape", "errors.errorType"], apart := false, laid := [("errors.errorType", laid_errors_errorType), ("gemination/super.errShape", laid_gemination_super_errShape)] }
def NodeRolesSaid : Prop := nodeRolesRow.holds Tryz.pinned (OpenSpec.ofChange nodeRolesSpec)

/-- ITS FALSE NEIGHBOUR: 'it returns false'. Refute it at one input. -/
def nodeRolesWrong : ChangeSpec := { name := "nodeRoles", fn := fun _ => fun
  | [d1, d2] => { results := [.lit (.bool false)], args := [d1, d2] }
  | _ => none }
def NodeRolesWrongFalsely : Prop := nodeRolesRow.holds Tryz.pinned (OpenSpec.ofChange nodeRolesWrong)

/-- 'geminationlaw16.NodeReads': WHATEVER THE INPUT: true; the input reads as it did. -/
def nodeReadsSpec : ChangeSpec := { name := "nodeReads", fn := fun _ => fun
  | [d1, d2, d3] => { results := [.lit (.bool true)], args := [d1, d2, d3] }
  | _ => none }
def nodeReadsRow : OpenClaim := { program := "ytbmpdmomagkkmaagreatdoor", sum := "93c288ce69a0d79dd18b8c6fa1e0396352f6a45d7ac7641745777b990612f967", func := "gemination/geminationlaw16.NodeReads", spec := "nodeReads", inPlace := ["internal/reflectlite.TypeOf", "internal/reflectlite.ValueOf", "(internal/reflectlite.Value).Type", "(internal/reflectlite.Value).IsNil", "(internal/reflectlite.Value).Elem", "(internal/reflectlite.Value).Set"], unfollowed := true, recurses := true, named := ["gemination/super.errShape", "errors.errorType"], apart := false, laid := [("errors.errorType", laid_errors_errorType), ("gemination/super.errShape", laid_gemination_super_errShape)] }
def NodeReadsSaid : Prop := nodeReadsRow.holds Tryz.pinned (OpenSpec.ofChange nodeReadsSpec)

/-- ITS FALSE NEIGHBOUR: 'it returns false'. Refute it at one input. -/
def nodeReadsWrong : ChangeSpec := { name := "nodeReads", fn := fun _ => fun
  | [d1, d2, d3] => { results := [.lit (.bool false)], args := [d1, d2, d3] }
  | _ => none }
def NodeReadsWrongFalsely : Prop := nodeReadsRow.holds Tryz.pinned (OpenSpec.ofChange nodeReadsWrong)

/-- 'geminationlaw16.NodeLives': WHATEVER THE INPUT: true; the input reads as it did. -/
def nodeLivesSpec : ChangeSpec := { name := "nodeLives", fn := fun _ => fun
  | [d1, d2, d3] => { results := [.lit (.bool true)], args := [d1, d2, d3] }
  | _ => none }
def nodeLivesRow : OpenClaim := { program := "ytbmpdmomagkkmaagreatdoor", sum := "93c288ce69a0d79dd18b8c6fa1e0396352f6a45d7ac7641745777b990612f967", func := "gemination/geminationlaw16.NodeLives", spec := "nodeLives", inPlace := ["internal/reflectlite.TypeOf", "internal/reflectlite.ValueOf", "(internal/reflectlite.Value).Type", "(internal/reflectlite.Value).IsNil", "(internal/reflectlite.Value).Elem", "(internal/reflectlite.Value).Set"], unfollowed := true, recurses := true, named := ["gemination/super.errShape", "errors.errorType"], apart := false, laid := [("errors.errorType", laid_errors_errorType), ("gemination/super.errShape", laid_gemination_super_errShape)] }
def NodeLivesSaid : Prop := nodeLivesRow.holds Tryz.pinned (OpenSpec.ofChange nodeLivesSpec)

/-- ITS FALSE NEIGHBOUR: 'it returns false'. Refute it at one input. -/
def nodeLivesWrong : ChangeSpec := { name := "nodeLives", fn := fun _ => fun
  | [d1, d2, d3] => { results := [.lit (.bool false)], args := [d1, d2, d3] }
  | _ => none }
def NodeLivesWrongFalsely : Prop := nodeLivesRow.holds Tryz.pinned (OpenSpec.ofChange nodeLivesWrong)

/-- 'geminationlaw16.NodeRefuses': WHATEVER THE INPUT: true; the input reads as it did. -/
def nodeRefusesSpec : ChangeSpec := { name := "nodeRefuses", fn := fun _ => fun
  | [d1, d2, d3] => { results := [.lit (.bool true)], args := [d1, d2, d3] }
  | _ => none }
def nodeRefusesRow : OpenClaim := { program := "ytbmpdmomagkkmaagreatdoor", sum := "93c288ce69a0d79dd18b8c6fa1e0396352f6a45d7ac7641745777b990612f967", func := "gemination/geminationlaw16.NodeRefuses", spec := "nodeRefuses", inPlace := ["internal/reflectlite.TypeOf", "internal/reflectlite.ValueOf", "(internal/reflectlite.Value).Type", "(internal/reflectlite.Value).IsNil", "(internal/reflectlite.Value).Elem", "(internal/reflectlite.Value).Set"], unfollowed := true, recurses := true, named := ["gemination/super.errShape", "errors.errorType"], apart := false, laid := [("errors.errorType", laid_errors_errorType), ("gemination/super.errShape", laid_gemination_super_errShape)] }
def NodeRefusesSaid : Prop := nodeRefusesRow.holds Tryz.pinned (OpenSpec.ofChange nodeRefusesSpec)

/-- ITS FALSE NEIGHBOUR: 'it returns false'. Refute it at one input. -/
def nodeRefusesWrong : ChangeSpec := { name := "nodeRefuses", fn := fun _ => fun
  | [d1, d2, d3] => { results := [.lit (.bool false)], args := [d1, d2, d3] }
  | _ => none }
def NodeRefusesWrongFalsely : Prop := nodeRefusesRow.holds Tryz.pinned (OpenSpec.ofChange nodeRefusesWrong)

/-- 'geminationlaw16.NodeKeeps': WHATEVER THE INPUT: true; the input reads as it did. -/
def nodeKeepsSpec : ChangeSpec := { name := "nodeKeeps", fn := fun _ => fun
  | [d1, d2] => { results := [.lit (.bool true)], args := [d1, d2] }
  | _ => none }
def nodeKeepsRow : OpenClaim := { program := "ytbmpdmomagkkmaagreatdoor", sum := "93c288ce69a0d79dd18b8c6fa1e0396352f6a45d7ac7641745777b990612f967", func := "gemination/geminationlaw16.NodeKeeps", spec := "nodeKeeps", inPlace := ["internal/reflectlite.TypeOf", "internal/reflectlite.ValueOf", "(internal/reflectlite.Value).Type", "(internal/reflectlite.Value).IsNil", "(internal/reflectlite.Value).Elem", "(internal/reflectlite.Value).Set"], unfollowed := true, recurses := true, named := ["gemination/super.errShape", "errors.errorType"], apart := false, laid := [("errors.errorType", laid_errors_errorType), ("gemination/super.errShape", laid_gemination_super_errShape)] }
def NodeKeepsSaid : Prop := nodeKeepsRow.holds Tryz.pinned (OpenSpec.ofChange nodeKeepsSpec)

/-- ITS FALSE NEIGHBOUR: 'it returns false'. Refute it at one input. -/
def nodeKeepsWrong : ChangeSpec := { name := "nodeKeeps", fn := fun _ => fun
  | [d1, d2] => { results := [.lit (.bool false)], args := [d1, d2] }
  | _ => none }
def NodeKeepsWrongFalsely : Prop := nodeKeepsRow.holds Tryz.pinned (OpenSpec.ofChange nodeKeepsWrong)

/-- 'geminationlaw18.SyncTargets': WHATEVER THE INPUT: true; the input reads as it did. -/
def syncTargetsSpec : ChangeSpec := { name := "syncTargets", fn := fun _ => fun
  | [d1, d2, d3] => { results := [.lit (.bool true)], args := [d1, d2, d3] }
  | _ => none }
def syncTargetsRow : OpenClaim := { program := "ytbmpdmomagkkmaagreatdoor", sum := "93c288ce69a0d79dd18b8c6fa1e0396352f6a45d7ac7641745777b990612f967", func := "gemination/geminationlaw18.SyncTargets", spec := "syncTargets", unfollowed := true, recurses := true, named := ["math/bits.deBruijn32tab"], apart := false, laid := [("math/bits.deBruijn32tab", laid_math_bits_deBruijn32tab)] }
def SyncTargetsSaid : Prop := syncTargetsRow.holds Tryz.pinned (OpenSpec.ofChange syncTargetsSpec)

/-- ITS FALSE NEIGHBOUR: 'it returns false'. Refute it at one input. -/
def syncTargetsWrong : ChangeSpec := { name := "syncTargets", fn := fun _ => fun
  | [d1, d2, d3] => { results := [.lit (.bool false)], args := [d1, d2, d3] }
  | _ => none }
def SyncTargetsWrongFalsely : Prop := syncTargetsRow.holds Tryz.pinned (OpenSpec.ofChange syncTargetsWrong)

/-- 'geminationlaw18.SyncSources': WHATEVER THE INPUT: true; the input reads as it did. -/
def syncSourcesSpec : ChangeSpec := { name := "syncSources", fn := fun _ => fun
  | [d1, d2] => { results := [.lit (.bool true)], args := [d1, d2] }
  | _ => none }
def syncSourcesRow : OpenClaim := { program := "ytbmpdmomagkkmaagreatdoor", sum := "93c288ce69a0d79dd18b8c6fa1e0396352f6a45d7ac7641745777b990612f967", func := "gemination/geminationlaw18.SyncSources", spec := "syncSources", unfollowed := true, recurses := true, named := ["math/bits.deBruijn32tab"], apart := false, laid := [("math/bits.deBruijn32tab", laid_math_bits_deBruijn32tab)] }
def SyncSourcesSaid : Prop := syncSourcesRow.holds Tryz.pinned (OpenSpec.ofChange syncSourcesSpec)

/-- ITS FALSE NEIGHBOUR: 'it returns false'. Refute it at one input. -/
def syncSourcesWrong : ChangeSpec := { name := "syncSources", fn := fun _ => fun
  | [d1, d2] => { results := [.lit (.bool false)], args := [d1, d2] }
  | _ => none }
def SyncSourcesWrongFalsely : Prop := syncSourcesRow.holds Tryz.pinned (OpenSpec.ofChange syncSourcesWrong)

/-- 'geminationlaw18.SyncEnds': WHATEVER THE INPUT: true; the input reads as it did. -/
def syncEndsSpec : ChangeSpec := { name := "syncEnds", fn := fun _ => fun
  | [d1, d2, d3] => { results := [.lit (.bool true)], args := [d1, d2, d3] }
  | _ => none }
def syncEndsRow : OpenClaim := { program := "ytbmpdmomagkkmaagreatdoor", sum := "93c288ce69a0d79dd18b8c6fa1e0396352f6a45d7ac7641745777b990612f967", func := "gemination/geminationlaw18.SyncEnds", spec := "syncEnds", unfollowed := true, recurses := true, named := ["math/bits.deBruijn32tab"], apart := false, laid := [("math/bits.deBruijn32tab", laid_math_bits_deBruijn32tab)] }
def SyncEndsSaid : Prop := syncEndsRow.holds Tryz.pinned (OpenSpec.ofChange syncEndsSpec)

/-- ITS FALSE NEIGHBOUR: 'it returns false'. Refute it at one input. -/
def syncEndsWrong : ChangeSpec := { name := "syncEnds", fn := fun _ => fun
  | [d1, d2, d3] => { results := [.lit (.bool false)], args := [d1, d2, d3] }
  | _ => none }
def SyncEndsWrongFalsely : Prop := syncEndsRow.holds Tryz.pinned (OpenSpec.ofChange syncEndsWrong)

/- THE SECOND FORM. 'bulk': how many values and letters a reading holds, each counted each time it is reached (what is shared counts as often as it is met; a slice's spare places count too). A statement '..UptoSaid' is the law's where the arguments, and the package variables that the reading takes, are together of bulk at most 1048576: NARROWER than '..Said'. Prove '..Said' where nothing that the law and all that it calls make is longer than what came in: it says more and counts as full. Else prove '..UptoSaid'. A law counts once. -/
mutual
def uptoBulk {H : Type} : DataW H → Nat
  | .lit (.string bytes) => bytes.length + 1
  | .lit _ => 1
  | .nil => 1
  | .ptr d => uptoBulk d + 1
  | .slice elems spare => uptoBulkAll elems + uptoBulkAll spare + 1
  | .agg parts => uptoBulkAll parts + 1
  | .iface _ d => uptoBulk d + 1
  | .map entries => uptoBulkEntries entries + 1
  | .held _ => 1
def uptoBulkAll {H : Type} : List (DataW H) → Nat
  | [] => 0
  | d :: r => uptoBulk d + uptoBulkAll r
def uptoBulkEntries {H : Type} : List (Lit × DataW H) → Nat
  | [] => 0
  | x :: r => uptoBulkEntry x + uptoBulkEntries r
def uptoBulkEntry {H : Type} : Lit × DataW H → Nat
  | (.string bytes, d) => bytes.length + uptoBulk d + 1
  | (_, d) => uptoBulk d + 1
 end
def uptoSmall : (H : Type) → List (DataW H) → Bool := fun _ ds => decide (uptoBulkAll ds ≤ 1048576)
def OpenSpec.upto (s : _root_.Go.ChangeSpec) : _root_.Go.OpenSpec := { _root_.Go.OpenSpec.ofChange s with cond := some uptoSmall }

/-- 'geminationlaw16.NodeRoles', WHERE WHAT IT READS IS OF BULK AT MOST 1048576: true; the input reads as it did. -/
def nodeRolesUptoRow : OpenClaim := { program := "ytbmpdmomagkkmaagreatdoor", sum := "93c288ce69a0d79dd18b8c6fa1e0396352f6a45d7ac7641745777b990612f967", func := "gemination/geminationlaw16.NodeRoles", spec := "nodeRoles", inPlace := ["internal/reflectlite.TypeOf", "internal/reflectlite.ValueOf", "(internal/reflectlite.Value).Type", "(internal/reflectlite.Value).IsNil", "(internal/reflectlite.Value).Elem", "(internal/reflectlite.Value).Set"], unfollowed := true, recurses := true, named := ["gemination/super.errShape", "errors.errorType"], apart := false, laid := [("errors.errorType", laid_errors_errorType), ("gemination/super.errShape", laid_gemination_super_errShape)], narrowed := true }
def NodeRolesUptoSaid : Prop := nodeRolesUptoRow.holds Tryz.pinned (OpenSpec.upto nodeRolesSpec)

/-- 'geminationlaw16.NodeReads', WHERE WHAT IT READS IS OF BULK AT MOST 1048576: true; the input reads as it did. -/
def nodeReadsUptoRow : OpenClaim := { program := "ytbmpdmomagkkmaagreatdoor", sum := "93c288ce69a0d79dd18b8c6fa1e0396352f6a45d7ac7641745777b990612f967", func := "gemination/geminationlaw16.NodeReads", spec := "nodeReads", inPlace := ["internal/reflectlite.TypeOf", "internal/reflectlite.ValueOf", "(internal/reflectlite.Value).Type", "(internal/reflectlite.Value).IsNil", "(internal/reflectlite.Value).Elem", "(internal/reflectlite.Value).Set"], unfollowed := true, recurses := true, named := ["gemination/super.errShape", "errors.errorType"], apart := false, laid := [("errors.errorType", laid_errors_errorType), ("gemination/super.errShape", laid_gemination_super_errShape)], narrowed := true }
def NodeReadsUptoSaid : Prop := nodeReadsUptoRow.holds Tryz.pinned (OpenSpec.upto nodeReadsSpec)

/-- 'geminationlaw16.NodeLives', WHERE WHAT IT READS IS OF BULK AT MOST 1048576: true; the input reads as it did. -/
def nodeLivesUptoRow : OpenClaim := { program := "ytbmpdmomagkkmaagreatdoor", sum := "93c288ce69a0d79dd18b8c6fa1e0396352f6a45d7ac7641745777b990612f967", func := "gemination/geminationlaw16.NodeLives", spec := "nodeLives", inPlace := ["internal/reflectlite.TypeOf", "internal/reflectlite.ValueOf", "(internal/reflectlite.Value).Type", "(internal/reflectlite.Value).IsNil", "(internal/reflectlite.Value).Elem", "(internal/reflectlite.Value).Set"], unfollowed := true, recurses := true, named := ["gemination/super.errShape", "errors.errorType"], apart := false, laid := [("errors.errorType", laid_errors_errorType), ("gemination/super.errShape", laid_gemination_super_errShape)], narrowed := true }
def NodeLivesUptoSaid : Prop := nodeLivesUptoRow.holds Tryz.pinned (OpenSpec.upto nodeLivesSpec)

/-- 'geminationlaw16.NodeRefuses', WHERE WHAT IT READS IS OF BULK AT MOST 1048576: true; the input reads as it did. -/
def nodeRefusesUptoRow : OpenClaim := { program := "ytbmpdmomagkkmaagreatdoor", sum := "93c288ce69a0d79dd18b8c6fa1e0396352f6a45d7ac7641745777b990612f967", func := "gemination/geminationlaw16.NodeRefuses", spec := "nodeRefuses", inPlace := ["internal/reflectlite.TypeOf", "internal/reflectlite.ValueOf", "(internal/reflectlite.Value).Type", "(internal/reflectlite.Value).IsNil", "(internal/reflectlite.Value).Elem", "(internal/reflectlite.Value).Set"], unfollowed := true, recurses := true, named := ["gemination/super.errShape", "errors.errorType"], apart := false, laid := [("errors.errorType", laid_errors_errorType), ("gemination/super.errShape", laid_gemination_super_errShape)], narrowed := true }
def NodeRefusesUptoSaid : Prop := nodeRefusesUptoRow.holds Tryz.pinned (OpenSpec.upto nodeRefusesSpec)

/-- 'geminationlaw16.NodeKeeps', WHERE WHAT IT READS IS OF BULK AT MOST 1048576: true; the input reads as it did. -/
def nodeKeepsUptoRow : OpenClaim := { program := "ytbmpdmomagkkmaagreatdoor", sum := "93c288ce69a0d79dd18b8c6fa1e0396352f6a45d7ac7641745777b990612f967", func := "gemination/geminationlaw16.NodeKeeps", spec := "nodeKeeps", inPlace := ["internal/reflectlite.TypeOf", "internal/reflectlite.ValueOf", "(internal/reflectlite.Value).Type", "(internal/reflectlite.Value).IsNil", "(internal/reflectlite.Value).Elem", "(internal/reflectlite.Value).Set"], unfollowed := true, recurses := true, named := ["gemination/super.errShape", "errors.errorType"], apart := false, laid := [("errors.errorType", laid_errors_errorType), ("gemination/super.errShape", laid_gemination_super_errShape)], narrowed := true }
def NodeKeepsUptoSaid : Prop := nodeKeepsUptoRow.holds Tryz.pinned (OpenSpec.upto nodeKeepsSpec)

/-- 'geminationlaw18.SyncTargets', WHERE WHAT IT READS IS OF BULK AT MOST 1048576: true; the input reads as it did. -/
def syncTargetsUptoRow : OpenClaim := { program := "ytbmpdmomagkkmaagreatdoor", sum := "93c288ce69a0d79dd18b8c6fa1e0396352f6a45d7ac7641745777b990612f967", func := "gemination/geminationlaw18.SyncTargets", spec := "syncTargets", unfollowed := true, recurses := true, named := ["math/bits.deBruijn32tab"], apart := false, laid := [("math/bits.deBruijn32tab", laid_math_bits_deBruijn32tab)], narrowed := true }
def SyncTargetsUptoSaid : Prop := syncTargetsUptoRow.holds Tryz.pinned (OpenSpec.upto syncTargetsSpec)

/-- 'geminationlaw18.SyncSources', WHERE WHAT IT READS IS OF BULK AT MOST 1048576: true; the input reads as it did. -/
def syncSourcesUptoRow : OpenClaim := { program := "ytbmpdmomagkkmaagreatdoor", sum := "93c288ce69a0d79dd18b8c6fa1e0396352f6a45d7ac7641745777b990612f967", func := "gemination/geminationlaw18.SyncSources", spec := "syncSources", unfollowed := true, recurses := true, named := ["math/bits.deBruijn32tab"], apart := false, laid := [("math/bits.deBruijn32tab", laid_math_bits_deBruijn32tab)], narrowed := true }
def SyncSourcesUptoSaid : Prop := syncSourcesUptoRow.holds Tryz.pinned (OpenSpec.upto syncSourcesSpec)

/-- 'geminationlaw18.SyncEnds', WHERE WHAT IT READS IS OF BULK AT MOST 1048576: true; the input reads as it did. -/
def syncEndsUptoRow : OpenClaim := { program := "ytbmpdmomagkkmaagreatdoor", sum := "93c288ce69a0d79dd18b8c6fa1e0396352f6a45d7ac7641745777b990612f967", func := "gemination/geminationlaw18.SyncEnds", spec := "syncEnds", unfollowed := true, recurses := true, named := ["math/bits.deBruijn32tab"], apart := false, laid := [("math/bits.deBruijn32tab", laid_math_bits_deBruijn32tab)], narrowed := true }
def SyncEndsUptoSaid : Prop := syncEndsUptoRow.holds Tryz.pinned (OpenSpec.upto syncEndsSpec)

end Rows
end Go.Proofs.YtbmpdmomagkkmaaGreatDoor
