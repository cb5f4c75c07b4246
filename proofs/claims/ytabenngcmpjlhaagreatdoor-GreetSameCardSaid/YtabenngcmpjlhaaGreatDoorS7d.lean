/- Superblocks out of bytes: what a row of bytes is. No condition. -/
import Derived.Test.YtabenngcmpjlhaaGreatDoorKS
import Derived.Test.YtabenngcmpjlhaaGreatDoorKB
namespace Go.Proofs.YtabenngcmpjlhaaGreatDoor
open Go.RowKit
def supOf (l : List UInt8) : Sup :=
  ⟨((l.getD 3 0).toNat : Int), num8 l 5, num8 l 13, num8 l 21, num8 l 29, decide ((l.getD 4 0).toNat % 2 = 1), decide ((l.getD 4 0).toNat / 2 % 2 = 1), decide ((l.getD 4 0).toNat / 2 / 2 % 2 = 1)⟩
def formed (l : List UInt8) : Bool := decide (l.length = 37) && decide (l.take 3 = [71, 77, 1]) && decide ((l.getD 4 0).toNat < 8) && (supOf l).right
def Sup.zero : Sup := ⟨0, 0, 0, 0, 0, false, false, false⟩
def dec (s : ByteArray) : Sup × Int := if openE s = 0 then (if formed (openT s).data.toList then (supOf (openT s).data.toList, 0) else (Sup.zero, 2)) else (Sup.zero, openE s)
theorem unfl3 (x : Nat) : unfl 3 x = [decide (x % 2 = 1), decide (x / 2 % 2 = 1), decide (x / 2 / 2 % 2 = 1)] := rfl
end Go.Proofs.YtabenngcmpjlhaaGreatDoor
