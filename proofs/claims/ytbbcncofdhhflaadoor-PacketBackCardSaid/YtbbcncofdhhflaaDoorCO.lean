/- Sealed texts: what both ways of opening one answer, for every text of up to 3000 bytes. No other condition. -/
import Derived.Test.YtbbcncofdhhflaaDoorC2
namespace Go.Proofs.YtbbcncofdhhflaaDoor
open Go.RowKit

/-- What a sealed text holds, and its number. -/
def openT (s : ByteArray) : ByteArray := if s.size < 4 then ⟨#[]⟩ else if val (s.data.toList.drop (s.size - 4)) = fnv (s.data.toList.take (s.size - 4)) then txt (s.data.toList.take (s.size - 4)) else ⟨#[]⟩
def openE (s : ByteArray) : Int := if s.size < 4 then 2 else if val (s.data.toList.drop (s.size - 4)) = fnv (s.data.toList.take (s.size - 4)) then 0 else 3

theorem open_any (s : ByteArray) (w : World) (hs : (s.size : Int) ≤ 3000) :
    Calls Tryd.prog 42 #[.string s] w fun e w' => e = .returned (.tuple #[.string (openT s), .int .i64 (openE s)]) ∧ Below w.heap.size w w' := by
  unfold openT openE
  by_cases h4 : s.size < 4
  · rw [if_pos h4, if_pos h4]
    refine (open_short s w (by omega)).mono ?_
    rintro e w' ⟨rfl, n, rfl⟩
    exact ⟨rfl, below_drewN (Below.refl _ _) n⟩
  · rw [if_neg h4, if_neg h4]
    by_cases hw : val (s.data.toList.drop (s.size - 4)) = fnv (s.data.toList.take (s.size - 4))
    · rw [if_pos hw, if_pos hw]
      refine (open_good s (s.size - 4) w hs (by omega) hw).mono ?_
      rintro e w' ⟨rfl, n, rfl⟩
      exact ⟨rfl, below_drewN (Below.refl _ _) n⟩
    · rw [if_neg hw, if_neg hw]
      refine (open_bad s (s.size - 4) w hs (by omega) hw).mono ?_
      rintro e w' ⟨rfl, n, rfl⟩
      exact ⟨rfl, below_drewN (Below.refl _ _) n⟩

theorem ropen_any (s : ByteArray) (w : World) (hs : (s.size : Int) ≤ 3000) :
    Calls Tryd.prog 30 #[.string s] w fun e w' => e = .returned (.tuple #[.string (openT s), .int .i64 (openE s)]) ∧ Below w.heap.size w w' := by
  unfold openT openE
  by_cases h4 : s.size < 4
  · rw [if_pos h4, if_pos h4]
    exact ropen_short s w (by omega)
  · rw [if_neg h4, if_neg h4]
    by_cases hw : val (s.data.toList.drop (s.size - 4)) = fnv (s.data.toList.take (s.size - 4))
    · rw [if_pos hw, if_pos hw]
      exact ropen_good s (s.size - 4) w hs (by omega) hw
    · rw [if_neg hw, if_neg hw]
      exact ropen_bad s (s.size - 4) w hs (by omega) hw

theorem openT_size (s : ByteArray) : (openT s).size ≤ s.size := by
  unfold openT
  split
  · exact Nat.zero_le _
  · split
    · rw [txt_size, List.length_take]; omega
    · exact Nat.zero_le _

theorem openE_three (s : ByteArray) : openE s = 0 ∨ openE s = 2 ∨ openE s = 3 := by
  unfold openE
  split
  · exact .inr (.inl rfl)
  · split
    · exact .inl rfl
    · exact .inr (.inr rfl)
end Go.Proofs.YtbbcncofdhhflaaDoor
