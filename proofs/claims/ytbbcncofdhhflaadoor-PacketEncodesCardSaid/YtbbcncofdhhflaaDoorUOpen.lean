/- How a superblock that comes in is opened. No condition. -/
import Derived.Test.YtbbcncofdhhflaaDoorVOpen
import Derived.Test.YtbbcncofdhhflaaDoorSD
namespace Go.Proofs.YtbbcncofdhhflaaDoor
open Go.ChangeShapes Go.WideShapes Go.ChangeAt Go.RowKit
set_option maxRecDepth 100000

section
variable {H : Type} {enc : TypeId × Value → H} {W : World} {r : Reach} {base : Nat}

theorem cells3 : Tryd.prog.cellsOf 3 = 1 := by kernel_rfl

theorem cells4 : Tryd.prog.cellsOf 4 = 1 := by kernel_rfl

theorem open_i64 {fuel : Nat} {cs : List Value} {x : DataW H × List MemPlace} (h : DataW.trod enc Tryd.prog W 0 (fun _ => true) true fuel 3 cs = some x) : ∃ c : Int, cs = [.int .i64 c] := by
  obtain ⟨c, rfl, _, wc⟩ := DataW.trod_int (k := .i64) Tryd.underlying3 h
  exact ⟨c, rfl⟩

theorem open_b {fuel : Nat} {cs : List Value} {x : DataW H × List MemPlace} (h : DataW.trod enc Tryd.prog W 0 (fun _ => true) true fuel 4 cs = some x) : ∃ c : Bool, cs = [.bool c] := by
  obtain ⟨c, rfl, _⟩ := DataW.trod_bool Tryd.underlying4 h
  exact ⟨c, rfl⟩

end

end Go.Proofs.YtbbcncofdhhflaaDoor
