/- Superblocks out of bytes: what a row of bytes is, and what parse answers, for every text of up to 3000 bytes. Under: both package variables as they are laid. -/
import Derived.Test.YtphlebbihfcaoaaDoorS4
import Derived.Test.YtphlebbihfcaoaaDoorS6
namespace Go.Proofs.YtphlebbihfcaoaaDoor
open Go.RowKit

/-- What a sealed text holds, and its number. -/
def openT (s : ByteArray) : ByteArray := if s.size < 4 then ⟨#[]⟩ else if val (s.data.toList.drop (s.size - 4)) = fnv (s.data.toList.take (s.size - 4)) then txt (s.data.toList.take (s.size - 4)) else ⟨#[]⟩
def openE (s : ByteArray) : Int := if s.size < 4 then 2 else if val (s.data.toList.drop (s.size - 4)) = fnv (s.data.toList.take (s.size - 4)) then 0 else 3

theorem open_any (s : ByteArray) (w : World) (hs : (s.size : Int) ≤ 3000) :
    Calls Tryd.prog 51 #[.string s] w fun e w' => e = .returned (.tuple #[.string (openT s), .int .i64 (openE s)]) ∧ Below w.heap.size w w' := by
  unfold openT openE
  by_cases h4 : s.size < 4
  · rw [if_pos h4, if_pos h4]
    refine (open_short s w (by omega)).mono ?_
    rintro e w' ⟨rfl, n, rfl⟩
    exact ⟨rfl, below_drewN (Below.refl _ _) n⟩
  · rw [if_neg h4, if_neg h4]
    by_cases hw : val (s.data.toList.drop (s.size - 4)) = fnv (s.data.toList.take (s.size - 4))
    · rw [if_pos hw, if_pos hw]
      refine (open_good s (s.size - 4) w hs (by omega) hw).mono ?_
      rintro e w' ⟨rfl, n, rfl⟩
      exact ⟨rfl, below_drewN (Below.refl _ _) n⟩
    · rw [if_neg hw, if_neg hw]
      refine (open_bad s (s.size - 4) w hs (by omega) hw).mono ?_
      rintro e w' ⟨rfl, n, rfl⟩
      exact ⟨rfl, below_drewN (Below.refl _ _) n⟩

theorem ropen_any (s : ByteArray) (w : World) (hs : (s.size : Int) ≤ 3000) :
    Calls Tryd.prog 34 #[.string s] w fun e w' => e = .returned (.tuple #[.string (openT s), .int .i64 (openE s)]) ∧ Below w.heap.size w w' := by
  unfold openT openE
  by_cases h4 : s.size < 4
  · rw [if_pos h4, if_pos h4]
    exact ropen_short s w (by omega)
  · rw [if_neg h4, if_neg h4]
    by_cases hw : val (s.data.toList.drop (s.size - 4)) = fnv (s.data.toList.take (s.size - 4))
    · rw [if_pos hw, if_pos hw]
      exact ropen_good s (s.size - 4) w hs (by omega) hw
    · rw [if_neg hw, if_neg hw]
      exact ropen_bad s (s.size - 4) w hs (by omega) hw

theorem openT_size (s : ByteArray) : (openT s).size ≤ s.size := by
  unfold openT
  split
  · exact Nat.zero_le _
  · split
    · rw [txt_size, List.length_take]; omega
    · exact Nat.zero_le _

theorem openE_three (s : ByteArray) : openE s = 0 ∨ openE s = 2 ∨ openE s = 3 := by
  unfold openE
  split
  · exact .inr (.inl rfl)
  · split
    · exact .inl rfl
    · exact .inr (.inr rfl)

/-- What a row of bytes tells, field by field. -/
def supOf (l : List UInt8) : Sup :=
  ⟨((l.getD 3 0).toNat : Int), num8 l 5, num8 l 13, num8 l 21, num8 l 29, decide ((l.getD 4 0).toNat % 2 = 1), decide ((l.getD 4 0).toNat / 2 % 2 = 1), decide ((l.getD 4 0).toNat / 2 / 2 % 2 = 1)⟩

/-- Are they the bytes of a superblock that may be? -/
def formed (l : List UInt8) : Bool := decide (l.length = 37) && decide (l.take 3 = [71, 77, 1]) && decide ((l.getD 4 0).toNat < 8) && (supOf l).right

def Sup.zero : Sup := ⟨0, 0, 0, 0, 0, false, false, false⟩

/-- What bytes are, and their number. -/
def dec (s : ByteArray) : Sup × Int := if openE s = 0 then (if formed (openT s).data.toList then (supOf (openT s).data.toList, 0) else (Sup.zero, 2)) else (Sup.zero, openE s)

theorem at_txt (t : ByteArray) (k : Nat) (h : k < t.size) : t[k] = t.data.toList.getD k 0 := by
  obtain ⟨⟨l⟩⟩ := t
  have h' : k < l.length := h
  show l[k] = l.getD k 0
  simp [List.getD, List.getElem?_eq_getElem h']

theorem text_head : (⟨#[71, 77, 1]⟩ : ByteArray).toList = [71, 77, 1] := by rw [ByteArray.toList_eq]

theorem unfl3 (x : Nat) : unfl 3 x = [decide (x % 2 = 1), decide (x / 2 % 2 = 1), decide (x / 2 / 2 % 2 = 1)] := rfl

end Go.Proofs.YtphlebbihfcaoaaDoor
