/- Rows of mints put one behind the other, as the library does it. No condition but that they lie in memory. -/
import Derived.Lib.AppendZeros
import Derived.Test.YtkjikigimmchlaaGreatDoorPN
import Derived.Test.YtkjikigimmchlaaGreatDoorX2
namespace Go.Proofs.YtkjikigimmchlaaGreatDoor
open Go.RowKit
end Go.Proofs.YtkjikigimmchlaaGreatDoor
