/- Superblocks out of bytes: what a row of bytes is, and what parse answers, for every text of up to 3000 bytes. Under: both package variables as they are laid. -/
import Derived.Test.YtlgfinomkpingaaS4
import Derived.Test.YtlgfinomkpingaaCO
namespace Go.Proofs.Ytlgfinomkpingaa
open Go.RowKit

/-- What a row of bytes tells, field by field. -/
def supOf (l : List UInt8) : Sup :=
  ⟨((l.getD 3 0).toNat : Int), num8 l 5, num8 l 13, num8 l 21, num8 l 29, decide ((l.getD 4 0).toNat % 2 = 1), decide ((l.getD 4 0).toNat / 2 % 2 = 1), decide ((l.getD 4 0).toNat / 2 / 2 % 2 = 1)⟩

/-- Are they the bytes of a superblock that may be? -/
def formed (l : List UInt8) : Bool := decide (l.length = 37) && decide (l.take 3 = [71, 77, 1]) && decide ((l.getD 4 0).toNat < 8) && (supOf l).right

def Sup.zero : Sup := ⟨0, 0, 0, 0, 0, false, false, false⟩

/-- What bytes are, and their number. -/
def dec (s : ByteArray) : Sup × Int := if openE s = 0 then (if formed (openT s).data.toList then (supOf (openT s).data.toList, 0) else (Sup.zero, 2)) else (Sup.zero, openE s)

theorem at_txt (t : ByteArray) (k : Nat) (h : k < t.size) : t[k] = t.data.toList.getD k 0 := by
  obtain ⟨⟨l⟩⟩ := t
  have h' : k < l.length := h
  show l[k] = l.getD k 0
  simp [List.getD, List.getElem?_eq_getElem h']

theorem text_head : (⟨#[71, 77, 1]⟩ : ByteArray).toList = [71, 77, 1] := by rw [ByteArray.toList_eq]

theorem unfl3 (x : Nat) : unfl 3 x = [decide (x % 2 = 1), decide (x / 2 % 2 = 1), decide (x / 2 / 2 % 2 = 1)] := rfl

end Go.Proofs.Ytlgfinomkpingaa
