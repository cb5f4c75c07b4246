/- Vectors: what is minted, retired, put in, and whether one may be, on both sides, for every vector and every generation. No other condition. -/
import Derived.Test.YtbbcncofdhhflaaDoorBase
import Derived.ChangeKeysEq
namespace Go.Proofs.YtbbcncofdhhflaaDoor
open Go.RowKit

/-- A vector as a value: its four cells. -/
@[reducible] def vecV (c b o p : Int) : Value := .agg #[.int .u64 c, .int .u64 b, .int .u64 o, .int .u64 p]
/-- What a mint makes of the cells, and its number. -/
def mintB (c b g : Int) : Int := if g = 0 then 0 else if b = 0 then c else b
def mintO (c b o g : Int) : Int := if g = 0 then 0 else if b = 0 then o else c
def mintP (b o p g : Int) : Int := if g = 0 then 0 else if b = 0 then p else o
def mintE (g : Int) : Int := if g = 0 then 14 else 0
/-- What a retirement makes of the cells. -/
def retO (b o : Int) : Int := if b = 0 then o else b
def retP (b o p : Int) : Int := if b = 0 then p else o

theorem cells_u64 : Tryd.prog.cellsOf 22 = 1 := by kernel_rfl

/-- Two arrays of two generations, compared. -/
@[go_sem] theorem eql_two (d : Nat) (o1 p1 o2 p2 : Int) (w : World) :
    (Op.equalIn (d + 2) 23 (.agg #[.int .u64 o1, .int .u64 p1]) (.agg #[.int .u64 o2, .int .u64 p2])).run Tryd.prog w = .ok (o1 == o2 && p1 == p2) w := by
  obtain ⟨i, hi⟩ := info_of_underlying Tryd.underlying22
  rw [show d + 2 = (d + 1) + 1 from rfl, run_equalIn_array w (d + 1) _ _ Tryd.underlying23 hi, cells_u64]
  cases h1 : (o1 == o2) <;> cases h2 : (p1 == p2) <;> simp [List.range, List.range.loop, Op.eqItems, go_sem, h1, h2]

/-- A vector's fields, taken of the value. -/
@[go_sem] theorem fld0 (c b o p : Int) (w : World) : (Instr.field 25 (.agg #[.int .u64 c, .int .u64 b, .int .u64 o, .int .u64 p]) 0).run Tryd.prog w = .ok (.int .u64 c) w := by kernel_rfl
@[go_sem] theorem fld1 (c b o p : Int) (w : World) : (Instr.field 25 (.agg #[.int .u64 c, .int .u64 b, .int .u64 o, .int .u64 p]) 1).run Tryd.prog w = .ok (.int .u64 b) w := by kernel_rfl
@[go_sem] theorem fld2 (c b o p : Int) (w : World) : (Instr.field 25 (.agg #[.int .u64 c, .int .u64 b, .int .u64 o, .int .u64 p]) 2).run Tryd.prog w = .ok (.agg #[.int .u64 o, .int .u64 p]) w := by kernel_rfl

set_option maxHeartbeats 400000 in
theorem vright_any (c b o p : Int) (w : World) :
    Calls Tryd.prog 38 #[vecV c b o p] w fun e w' => e = .returned (.bool (!decide (c = 0))) ∧ Below w.heap.size w w' := by
  go_enter Tryd.func38, Tryd.ntmps38
  go_wp2
  go_ret
  exact ⟨ret_bool rfl, below1⟩
end Go.Proofs.YtbbcncofdhhflaaDoor
