/-
  No cell of these rows narrows 'for every input' (looked for: loops, veiled, ifaces, maps, wideKeys, modest, calm, conditions, laid).
  DERIVED. THE GIVEN ROWS OF THIS SEAT. 3 by the template 'for every input the law returns true; each argument reads behind the call as it read before'; 0 by the template 'total and deterministic' (their statements: YtlgfinomkpingaaTotals.lean).
  GIVEN WITH THE SEED: the statements are not yours to turn. If you find one false, say at which input.
  Laid BY PROGRAM, IN A SANDBOX (cutbox-rows.mjs): the forced cells as the released guide's own fill.sh prints them over the translation dd7e6af6ee40dc8f… (all of the seat's roots in one cut). By AI agents, Wed Nov 11 2026. No macro, syntax, notation, axiom, sorry.
-/
import Derived.Test.YtlgfinomkpingaaChecked
import GoSem.Claim
import GoSem.ClaimJoined
import GoSem.ClaimMapViews
import Derived.JoinedTies
import Derived.KernelRfl
namespace Go.Proofs.Ytlgfinomkpingaa
/- THE CELL 'sum', in the pinned program and in every row, IS THE sha256 OF THE DUMP (.gsa) THAT YtlgfinomkpingaaProg.lean LOADS. Nothing in Lean hashes anything: it is a label: what it is worth is what the hold of that sum in a sandbox is worth. -/
noncomputable def Try.pinned : Pinned := { name := "ytlgfinomkpingaa", sum := "dd7e6af6ee40dc8f280a8cb43c266ce4d13e5651cca89aaff9e4252299b292b6", checked := Try.checked }
namespace Rows
def none {H : Type} : Left H := { results := [], args := [] }

/-- 'geminationlaw09.AreaTells': WHATEVER THE INPUT: true; the input reads as it did. -/
def areaTellsSpec : ChangeSpec := { name := "areaTells", fn := fun _ => fun
  | [d1, d2, d3] => { results := [.lit (.bool true)], args := [d1, d2, d3] }
  | _ => none }
def areaTellsRow : OpenClaim := { program := "ytlgfinomkpingaa", sum := "dd7e6af6ee40dc8f280a8cb43c266ce4d13e5651cca89aaff9e4252299b292b6", func := "gemination/geminationlaw09.AreaTells", spec := "areaTells", inPlace := ["internal/abi.NoEscape", "internal/bytealg.MakeNoZero"], unfollowed := true, recurses := true, apart := false }
def AreaTellsSaid : Prop := areaTellsRow.holds Try.pinned (OpenSpec.ofChange areaTellsSpec)

/-- ITS FALSE NEIGHBOUR: 'it returns false'. Refute it at one input. -/
def areaTellsWrong : ChangeSpec := { name := "areaTells", fn := fun _ => fun
  | [d1, d2, d3] => { results := [.lit (.bool false)], args := [d1, d2, d3] }
  | _ => none }
def AreaTellsWrongFalsely : Prop := areaTellsRow.holds Try.pinned (OpenSpec.ofChange areaTellsWrong)

/-- 'geminationlaw09.AreaFormats': WHATEVER THE INPUT: true; the input reads as it did. -/
def areaFormatsSpec : ChangeSpec := { name := "areaFormats", fn := fun _ => fun
  | [d1, d2] => { results := [.lit (.bool true)], args := [d1, d2] }
  | _ => none }
def areaFormatsRow : OpenClaim := { program := "ytlgfinomkpingaa", sum := "dd7e6af6ee40dc8f280a8cb43c266ce4d13e5651cca89aaff9e4252299b292b6", func := "gemination/geminationlaw09.AreaFormats", spec := "areaFormats", inPlace := ["internal/abi.NoEscape", "internal/bytealg.MakeNoZero"], unfollowed := true, recurses := true, apart := false }
def AreaFormatsSaid : Prop := areaFormatsRow.holds Try.pinned (OpenSpec.ofChange areaFormatsSpec)

/-- ITS FALSE NEIGHBOUR: 'it returns false'. Refute it at one input. -/
def areaFormatsWrong : ChangeSpec := { name := "areaFormats", fn := fun _ => fun
  | [d1, d2] => { results := [.lit (.bool false)], args := [d1, d2] }
  | _ => none }
def AreaFormatsWrongFalsely : Prop := areaFormatsRow.holds Try.pinned (OpenSpec.ofChange areaFormatsWrong)

/-- 'geminationlaw09.AreaOne': WHATEVER THE INPUT: true; the input reads as it did. -/
def areaOneSpec : ChangeSpec := { name := "areaOne", fn := fun _ => fun
  | [d1, d2, d3] => { results := [.lit (.bool true)], args := [d1, d2, d3] }
  | _ => none }
def areaOneRow : OpenClaim := { program := "ytlgfinomkpingaa", sum := "dd7e6af6ee40dc8f280a8cb43c266ce4d13e5651cca89aaff9e4252299b292b6", func := "gemination/geminationlaw09.AreaOne", spec := "areaOne", inPlace := ["internal/abi.NoEscape", "internal/bytealg.MakeNoZero"], unfollowed := true, recurses := true, apart := false }
def AreaOneSaid : Prop := areaOneRow.holds Try.pinned (OpenSpec.ofChange areaOneSpec)

/-- ITS FALSE NEIGHBOUR: 'it returns false'. Refute it at one input. -/
def areaOneWrong : ChangeSpec := { name := "areaOne", fn := fun _ => fun
  | [d1, d2, d3] => { results := [.lit (.bool false)], args := [d1, d2, d3] }
  | _ => none }
def AreaOneWrongFalsely : Prop := areaOneRow.holds Try.pinned (OpenSpec.ofChange areaOneWrong)

/- THE SECOND FORM. 'bulk': how many values and letters a reading holds, each counted each time it is reached (what is shared counts as often as it is met; a slice's spare places count too). A statement '..UptoSaid' is the law's where the arguments, and the package variables that the reading takes, are together of bulk at most 1048576: NARROWER than '..Said'. Prove '..Said' where nothing that the law and all that it calls make is longer than what came in: it says more and counts as full. Else prove '..UptoSaid'. A law counts once. -/
mutual
def uptoBulk {H : Type} : DataW H → Nat
  | .lit (.string bytes) => bytes.length + 1
  | .lit _ => 1
  | .nil => 1
  | .ptr d => uptoBulk d + 1
  | .slice elems spare => uptoBulkAll elems + uptoBulkAll spare + 1
  | .agg parts => uptoBulkAll parts + 1
  | .iface _ d => uptoBulk d + 1
  | .map entries => uptoBulkEntries entries + 1
  | .held _ => 1
def uptoBulkAll {H : Type} : List (DataW H) → Nat
  | [] => 0
  | d :: r => uptoBulk d + uptoBulkAll r
def uptoBulkEntries {H : Type} : List (Lit × DataW H) → Nat
  | [] => 0
  | x :: r => uptoBulkEntry x + uptoBulkEntries r
def uptoBulkEntry {H : Type} : Lit × DataW H → Nat
  | (.string bytes, d) => bytes.length + uptoBulk d + 1
  | (_, d) => uptoBulk d + 1
 end
def uptoSmall : (H : Type) → List (DataW H) → Bool := fun _ ds => decide (uptoBulkAll ds ≤ 1048576)
def OpenSpec.upto (s : _root_.Go.ChangeSpec) : _root_.Go.OpenSpec := { _root_.Go.OpenSpec.ofChange s with cond := some uptoSmall }

/-- 'geminationlaw09.AreaTells', WHERE WHAT IT READS IS OF BULK AT MOST 1048576: true; the input reads as it did. -/
def areaTellsUptoRow : OpenClaim := { program := "ytlgfinomkpingaa", sum := "dd7e6af6ee40dc8f280a8cb43c266ce4d13e5651cca89aaff9e4252299b292b6", func := "gemination/geminationlaw09.AreaTells", spec := "areaTells", inPlace := ["internal/abi.NoEscape", "internal/bytealg.MakeNoZero"], unfollowed := true, recurses := true, apart := false, narrowed := true }
def AreaTellsUptoSaid : Prop := areaTellsUptoRow.holds Try.pinned (OpenSpec.upto areaTellsSpec)

/-- 'geminationlaw09.AreaFormats', WHERE WHAT IT READS IS OF BULK AT MOST 1048576: true; the input reads as it did. -/
def areaFormatsUptoRow : OpenClaim := { program := "ytlgfinomkpingaa", sum := "dd7e6af6ee40dc8f280a8cb43c266ce4d13e5651cca89aaff9e4252299b292b6", func := "gemination/geminationlaw09.AreaFormats", spec := "areaFormats", inPlace := ["internal/abi.NoEscape", "internal/bytealg.MakeNoZero"], unfollowed := true, recurses := true, apart := false, narrowed := true }
def AreaFormatsUptoSaid : Prop := areaFormatsUptoRow.holds Try.pinned (OpenSpec.upto areaFormatsSpec)

/-- 'geminationlaw09.AreaOne', WHERE WHAT IT READS IS OF BULK AT MOST 1048576: true; the input reads as it did. -/
def areaOneUptoRow : OpenClaim := { program := "ytlgfinomkpingaa", sum := "dd7e6af6ee40dc8f280a8cb43c266ce4d13e5651cca89aaff9e4252299b292b6", func := "gemination/geminationlaw09.AreaOne", spec := "areaOne", inPlace := ["internal/abi.NoEscape", "internal/bytealg.MakeNoZero"], unfollowed := true, recurses := true, apart := false, narrowed := true }
def AreaOneUptoSaid : Prop := areaOneUptoRow.holds Try.pinned (OpenSpec.upto areaOneSpec)

end Rows
end Go.Proofs.Ytlgfinomkpingaa
