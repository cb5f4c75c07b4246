/- A text out of its bytes, and its bytes out of a text. No condition. -/
import Derived.Test.YtbbcncofdhhflaaDoorBase
namespace Go.Proofs.YtbbcncofdhhflaaDoor
open Go.RowKit

/-- A text out of its bytes. -/
def txt (l : List UInt8) : ByteArray := ⟨l.toArray⟩

theorem txt_data (l : List UInt8) : (txt l).data.toList = l := rfl

theorem txt_of (s : ByteArray) : txt s.data.toList = s := by
  obtain ⟨⟨l⟩⟩ := s
  rfl

theorem txt_size (l : List UInt8) : (txt l).size = l.length := rfl

theorem size_len (s : ByteArray) : s.size = s.data.toList.length := rfl

end Go.Proofs.YtbbcncofdhhflaaDoor
