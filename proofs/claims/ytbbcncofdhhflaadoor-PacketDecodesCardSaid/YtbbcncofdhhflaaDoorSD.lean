/- A superblock as numbers: its cells, and whether it may be. No condition. -/
import Derived.Test.YtbbcncofdhhflaaDoorBase
namespace Go.Proofs.YtbbcncofdhhflaaDoor
open Go.RowKit

/-- A superblock as numbers. -/
structure Sup where
  n : Int
  c : Int
  b : Int
  o : Int
  p : Int
  i : Bool
  r : Bool
  d : Bool

/-- Its cells. -/
@[reducible] def supC (s : Sup) : List Value := [.int .i64 s.n, .int .u64 s.c, .int .u64 s.b, .int .u64 s.o, .int .u64 s.p, .bool s.i, .bool s.r, .bool s.d]

@[reducible] def supV (s : Sup) : Value := .agg #[.int .i64 s.n, .int .u64 s.c, .int .u64 s.b, .int .u64 s.o, .int .u64 s.p, .bool s.i, .bool s.r, .bool s.d]

/-- Its generations are numbers of eight bytes. -/
def Sup.wide (s : Sup) : Prop := (0 ≤ s.c ∧ s.c < 18446744073709551616) ∧ (0 ≤ s.b ∧ s.b < 18446744073709551616) ∧ (0 ≤ s.o ∧ s.o < 18446744073709551616) ∧ 0 ≤ s.p ∧ s.p < 18446744073709551616

/-- May it be? -/
def Sup.right (s : Sup) : Bool := decide (1 ≤ s.n) && decide (s.n ≤ 32) && !decide (s.c = 0)

end Go.Proofs.YtbbcncofdhhflaaDoor
