/- Sealed texts there and back, in plain words. No program in it, no condition. -/
import Derived.Test.YtbbcncofdhhflaaDoorCO
namespace Go.Proofs.YtbbcncofdhhflaaDoor
open Go.RowKit

theorem open_sealed (l : List UInt8) : openE (txt (sealed l)) = 0 ∧ openT (txt (sealed l)) = txt l := by
  have hz : (txt (sealed l)).size = l.length + 4 := by rw [txt_size, seal_length]
  have hd : (txt (sealed l)).data.toList.drop ((txt (sealed l)).size - 4) = be 4 (fnv l) := by
    rw [hz, txt_data, Nat.add_sub_cancel]
    unfold sealed
    rw [List.drop_left]
  have ht : (txt (sealed l)).data.toList.take ((txt (sealed l)).size - 4) = l := by
    rw [hz, txt_data, Nat.add_sub_cancel]
    unfold sealed
    rw [List.take_left]
  unfold openE openT
  have h4 : ¬ (txt (sealed l)).size < 4 := by omega
  rw [hd, ht, val_sum, if_neg h4, if_neg h4, if_pos rfl, if_pos rfl]
  exact ⟨rfl, rfl⟩

theorem sealed_open (s : ByteArray) (h : openE s = 0) : txt (sealed (openT s).data.toList) = s := by
  unfold openE at h
  unfold openT
  split at h
  · cases h
  · rename_i h4
    rw [if_neg h4]
    split at h
    · rename_i hw
      rw [if_pos hw]
      have := (whole_iff s (s.size - 4) (by omega)).1 hw
      rw [head_list] at this
      exact this
    · cases h
end Go.Proofs.YtbbcncofdhhflaaDoor
