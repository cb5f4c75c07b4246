/- Superblocks: what one is as numbers, whether one may be, and its generations in a row, on both sides; for every superblock. No other condition. -/
import Derived.Test.YtlgfinomkpingaaX3
import Derived.Test.YtlgfinomkpingaaC2
import Derived.Test.YtlgfinomkpingaaV1
import Derived.Deep.RegionHeld3
namespace Go.Proofs.Ytlgfinomkpingaa
open Go.RowKit

/-- A superblock as numbers. -/
structure Sup where
  n : Int
  c : Int
  b : Int
  o : Int
  p : Int
  i : Bool
  r : Bool
  d : Bool

/-- Its cells. -/
@[reducible] def supC (s : Sup) : List Value := [.int .i64 s.n, .int .u64 s.c, .int .u64 s.b, .int .u64 s.o, .int .u64 s.p, .bool s.i, .bool s.r, .bool s.d]
@[reducible] def supV (s : Sup) : Value := .agg #[.int .i64 s.n, .int .u64 s.c, .int .u64 s.b, .int .u64 s.o, .int .u64 s.p, .bool s.i, .bool s.r, .bool s.d]

/-- Its generations are numbers of eight bytes. -/
def Sup.wide (s : Sup) : Prop := (0 ≤ s.c ∧ s.c < 18446744073709551616) ∧ (0 ≤ s.b ∧ s.b < 18446744073709551616) ∧ (0 ≤ s.o ∧ s.o < 18446744073709551616) ∧ 0 ≤ s.p ∧ s.p < 18446744073709551616

/-- May it be? -/
def Sup.right (s : Sup) : Bool := decide (1 ≤ s.n) && decide (s.n ≤ 32) && !decide (s.c = 0)

set_option maxHeartbeats 1000000 in
theorem sright_any (s : Sup) (w : World) : Calls Try.prog 35 #[supV s] w fun e w' => e = .returned (.bool s.right) ∧ Below w.heap.size w w' := by
  obtain ⟨n, c, b, o, p, i, r, d⟩ := s
  unfold Sup.right
  dsimp only [supV]
  have hv := fun w => vright_any c b o p w
  generalize (!decide (c = 0)) = x at *
  have HV := Lib.hid hv; clear hv
  by_cases h1 : (1 : Int) ≤ n
  · have e1 : decide ((1 : Int) ≤ n) = true := decide_eq_true h1
    by_cases h2 : n ≤ (32 : Int)
    · have e2 : decide (n ≤ (32 : Int)) = true := decide_eq_true h2
      rw [e1, e2]
      go_enter Try.func35, Try.ntmps35
      go_wp2_with fail
      refine (HV.out _).mono ?_
      rintro e w1 ⟨rfl, hb⟩
      go_wp2_with fail
      go_ret
      exact ⟨ret_bool (by simp), ext below1 hb⟩
    · have e2 : decide (n ≤ (32 : Int)) = false := decide_eq_false h2
      rw [e1, e2]
      go_enter Try.func35, Try.ntmps35
      go_wp2_with fail
      go_ret
      exact ⟨ret_bool (by simp), below1⟩
  · have e1 : decide ((1 : Int) ≤ n) = false := decide_eq_false h1
    rw [e1]
    go_enter Try.func35, Try.ntmps35
    go_wp2_with fail
    go_ret
    exact ⟨ret_bool (by simp), below1⟩

set_option maxHeartbeats 1000000 in
theorem rsright_any (s : Sup) (w : World) : Calls Try.prog 66 #[supV s] w fun e w' => e = .returned (.bool s.right) ∧ Below w.heap.size w w' := by
  obtain ⟨n, c, b, o, p, i, r, d⟩ := s
  unfold Sup.right
  dsimp only [supV]
  by_cases h1 : (1 : Int) ≤ n
  · have e1 : decide ((1 : Int) ≤ n) = true := decide_eq_true h1
    by_cases h2 : n ≤ (32 : Int)
    · have e2 : decide (n ≤ (32 : Int)) = true := decide_eq_true h2
      rw [e1, e2]
      go_enter Try.func66, Try.ntmps66
      go_wp2
      go_ret
      exact ⟨ret_bool (by simp [bne]; rfl), below1⟩
    · have e2 : decide (n ≤ (32 : Int)) = false := decide_eq_false h2
      rw [e1, e2]
      go_enter Try.func66, Try.ntmps66
      go_wp2
      go_ret
      exact ⟨ret_bool (by simp), below1⟩
  · have e1 : decide ((1 : Int) ≤ n) = false := decide_eq_false h1
    rw [e1]
    go_enter Try.func66, Try.ntmps66
    go_wp2
    go_ret
    exact ⟨ret_bool (by simp), below1⟩

set_option maxHeartbeats 1000000 in
theorem slist_any (c b o p : Int) (w : World) : Calls Try.prog 79 #[vecV c b o p] w fun e w' => e = .returned (.agg #[.int .u64 c, .int .u64 b, .int .u64 o, .int .u64 p]) ∧ Below w.heap.size w w' := by
  go_enter Try.func79, Try.ntmps79
  go_wp2
  refine bodyPost_ret (v := .agg #[.int .u64 c, .int .u64 b, .int .u64 o, .int .u64 p]) (by simp [results, Try.results79, go_sem]) rfl ⟨rfl, ?_⟩
  exact below2

end Go.Proofs.Ytlgfinomkpingaa
