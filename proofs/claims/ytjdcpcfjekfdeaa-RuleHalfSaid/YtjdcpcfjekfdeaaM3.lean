/- Masks: the least one from one on: what both functions answer, for every argument within its type; no other condition but that the table of the lowest bits lies as its initialiser lays it. -/
import Derived.Test.YtjdcpcfjekfdeaaM2
namespace Go.Proofs.Ytjdcpcfjekfdeaa
open Go.RowKit

/-- What Next answers. -/
def nxE (r : Option Nat) : Ending := .returned (.tuple #[.int .i64 ((r.getD 0 : Nat) : Int), .bool r.isSome])

theorem rest_int (m k : Nat) (hm : m < 4294967296) : (m : Int) / 2 ^ k * 2 ^ k % 4294967296 = ((m / 2 ^ k * 2 ^ k : Nat) : Int) := by
  have h1 : m / 2 ^ k * 2 ^ k ≤ m := Nat.div_mul_le_self _ _
  have e : (m : Int) / 2 ^ k * 2 ^ k = ((m / 2 ^ k * 2 ^ k : Nat) : Int) := by
    rw [Int.natCast_mul, Int.natCast_ediv, Int.natCast_pow]; rfl
  rw [e]
  generalize m / 2 ^ k * 2 ^ k = r at *
  omega
end Go.Proofs.Ytjdcpcfjekfdeaa
