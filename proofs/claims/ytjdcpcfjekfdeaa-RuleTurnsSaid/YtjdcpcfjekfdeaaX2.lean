/- Flags as a byte: what both functions answer, for every list that a slice of bools reads as; no other condition. -/
import Derived.Test.YtjdcpcfjekfdeaaX1
namespace Go.Proofs.Ytjdcpcfjekfdeaa
open Go.RowKit

/-- A slice of bools that reads as a list, nil let in; it lies below block B. -/
def Bs (w : World) (B : Nat) (A : Option Addr) (l : List Bool) : Prop :=
  ∀ (k : Nat) (b : Bool), l[k]? = some b → ∃ a, A = some a ∧ a.block < B ∧ w.cell? (a.add k) = some (.bool b)

theorem fl_take (l : List Bool) (k : Nat) (h : k < l.length) : fl (l.take (k + 1)) = fl (l.take k) + l[k].toNat * 2 ^ k := by
  rw [List.take_succ_eq_append_getElem h, fl_snoc, List.length_take, Nat.min_eq_left (by omega)]

theorem pow2_le (k : Nat) (h : k < 8) : 2 ^ k ≤ 128 := by
  have : 2 ^ k ≤ 2 ^ 7 := Nat.pow_le_pow_right (by decide) (by omega)
  simpa using this

theorem or_bit (x k : Nat) (hk : k < 8) (hx : x < 2 ^ k) : bits .or .u8 (x : Int) (2 ^ k % 256) = ((x + 2 ^ k : Nat) : Int) := by
  have h2 := pow2_le k hk
  rw [show ((2 : Int) ^ k % 256) = ((2 ^ k : Nat) : Int) from by
    have : ((2 : Int) ^ k) = ((2 ^ k : Nat) : Int) := by simp
    rw [this]; omega]
  rw [u8_or_nat _ _ (by omega) (by omega), Nat.or_comm, nat_join k (2 ^ k) x (by simp) hx, Nat.add_comm]
end Go.Proofs.Ytjdcpcfjekfdeaa
