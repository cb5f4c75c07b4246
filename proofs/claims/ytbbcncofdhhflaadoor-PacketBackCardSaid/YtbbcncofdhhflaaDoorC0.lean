/- Plain facts on sums of bytes, and on texts with their sum behind them; no condition. Nothing of the program is imported. -/
import Derived.Test.YtbbcncofdhhflaaDoorNum
namespace Go.Proofs.YtbbcncofdhhflaaDoor

/-- One more byte turned into a sum. -/
def step (n : Nat) (c : UInt8) : Nat := (n ^^^ c.toNat) * 16777619 % 4294967296

/-- The sum of bytes. -/
def fnv (l : List UInt8) : Nat := l.foldl step 2166136261

theorem step_lt (n : Nat) (c : UInt8) : step n c < 4294967296 := Nat.mod_lt _ (by decide)

theorem foldl_lt (l : List UInt8) (a : Nat) (h : a < 4294967296) : l.foldl step a < 4294967296 := by
  induction l generalizing a with
  | nil => exact h
  | cons c l ih => exact ih _ (step_lt a c)

theorem fnv_lt (l : List UInt8) : fnv l < 4294967296 := by
  unfold fnv
  exact foldl_lt l 2166136261 (by decide)

theorem fnv_snoc (l : List UInt8) (c : UInt8) : fnv (l ++ [c]) = step (fnv l) c := by
  unfold fnv; rw [List.foldl_append, List.foldl_cons, List.foldl_nil]

theorem xor_lt32 (a : Nat) (c : UInt8) (h : a < 4294967296) : a ^^^ c.toNat < 4294967296 := by
  have hc := UInt8.toNat_lt c
  exact Nat.xor_lt_two_pow (n := 32) h (Nat.lt_of_lt_of_le hc (by decide))

/-- The factor is odd: it can be taken away again. -/
theorem mul_back (x : Nat) (h : x < 4294967296) : x * 16777619 % 4294967296 * 899433627 % 4294967296 = x := by
  rw [Nat.mod_mul_mod, Nat.mul_assoc, show 16777619 * 899433627 = 1 + 3513497 * 4294967296 from by decide, Nat.mul_add, Nat.mul_one, ← Nat.mul_assoc, Nat.add_mul_mod_self_right, Nat.mod_eq_of_lt h]

theorem mul_inj {a b : Nat} (ha : a < 4294967296) (hb : b < 4294967296) (h : a * 16777619 % 4294967296 = b * 16777619 % 4294967296) : a = b := by
  rw [← mul_back a ha, ← mul_back b hb, h]

theorem xor_left {a b c : Nat} (h : a ^^^ c = b ^^^ c) : a = b := by
  have h2 : a ^^^ c ^^^ c = b ^^^ c ^^^ c := by rw [h]
  rwa [Nat.xor_assoc, Nat.xor_assoc, Nat.xor_self, Nat.xor_zero, Nat.xor_zero] at h2

theorem step_left {a b : Nat} {c : UInt8} (ha : a < 4294967296) (hb : b < 4294967296) (h : step a c = step b c) : a = b :=
  xor_left (mul_inj (xor_lt32 a c ha) (xor_lt32 b c hb) h)

theorem step_right {a : Nat} {c d : UInt8} (ha : a < 4294967296) (h : step a c = step a d) : c = d := by
  have h1 := mul_inj (xor_lt32 a c ha) (xor_lt32 a d ha) h
  rw [Nat.xor_comm a, Nat.xor_comm a] at h1
  exact UInt8.toNat_inj.1 (xor_left h1)

theorem foldl_inj (l : List UInt8) {a b : Nat} (ha : a < 4294967296) (hb : b < 4294967296) (h : l.foldl step a = l.foldl step b) : a = b := by
  induction l generalizing a b with
  | nil => exact h
  | cons c l ih => exact step_left ha hb (ih (step_lt a c) (step_lt b c) h)

theorem fnv_mid {l r : List UInt8} {c d : UInt8} (h : fnv (l ++ c :: r) = fnv (l ++ d :: r)) : c = d := by
  unfold fnv at h
  rw [List.foldl_append, List.foldl_append, List.foldl_cons, List.foldl_cons] at h
  exact step_right (foldl_lt l _ (by decide)) (foldl_inj r (step_lt _ c) (step_lt _ d) h)

/-- With one byte changed the sum is another one. -/
theorem fnv_set (l : List UInt8) (i : Nat) (c : UInt8) (hi : i < l.length) (hc : l[i] ≠ c) : fnv (l.set i c) ≠ fnv l := by
  intro h
  have e : l = l.take i ++ l[i] :: l.drop (i + 1) := by simp
  rw [List.set_eq_take_append_cons_drop, if_pos hi] at h
  conv at h => rhs; rw [e]
  exact hc (fnv_mid h).symm

/-- A text, and its sum behind it. -/
def sealed (l : List UInt8) : List UInt8 := l ++ be 4 (fnv l)

theorem seal_length (l : List UInt8) : (sealed l).length = l.length + 4 := by simp [sealed, be_length]

theorem val_sum (l : List UInt8) : val (be 4 (fnv l)) = fnv l := by
  rw [val_be]; exact Nat.mod_eq_of_lt (fnv_lt l)

/-- Sealed with one byte changed: what stands behind isn't the sum of what stands in front. -/
theorem seal_set (l : List UInt8) (i : Nat) (c : UInt8) (hi : i < l.length + 4) (hc : (sealed l)[i]'(by rw [seal_length]; exact hi) ≠ c) :
    val (((sealed l).set i c).drop l.length) ≠ fnv (((sealed l).set i c).take l.length) := by
  unfold sealed at *
  by_cases h : i < l.length
  · rw [List.set_append_left _ _ h, List.drop_append_of_le_length (by simp), List.take_append_of_le_length (by simp)]
    rw [List.drop_of_length_le (by simp), List.nil_append, List.take_of_length_le (by simp), val_sum]
    rw [List.getElem_append_left h] at hc
    exact fun e => fnv_set l i c h hc e.symm
  · have h' : l.length ≤ i := by omega
    rw [List.set_append_right _ _ h', List.drop_left, List.take_left]
    rw [List.getElem_append_right h'] at hc
    intro e
    have hl : ((be 4 (fnv l)).set (i - l.length) c).length = 4 := by rw [List.length_set, be_length]
    have e2 := be_val ((be 4 (fnv l)).set (i - l.length) c)
    rw [hl, e] at e2
    apply hc
    have hj : i - l.length < (be 4 (fnv l)).length := by rw [be_length]; omega
    have e3 : (be 4 (fnv l))[i - l.length]'hj = ((be 4 (fnv l)).set (i - l.length) c)[i - l.length]'(by rw [List.length_set]; exact hj) := by
      congr 1
    rw [e3, List.getElem_set_self]
end Go.Proofs.YtbbcncofdhhflaaDoor
