/- Plain facts on numbers as bytes, and flags as bits; no condition. Nothing of the program is imported. -/
import Derived.Laws.BytesArg
import Derived.Laws.BitsAllLaws
namespace Go.Proofs.YtbbcncofdhhflaaDoor

/-- The lowest k bytes of n, the highest one first. -/
def be : Nat → Nat → List UInt8
  | 0, _ => []
  | k + 1, n => be k (n / 256) ++ [UInt8.ofNat n]

theorem be_length (k n : Nat) : (be k n).length = k := by
  induction k generalizing n with
  | zero => rfl
  | succ k ih => simp [be, ih]

theorem be_head (k n : Nat) : be (k + 1) n = UInt8.ofNat (n / 256 ^ k) :: be k n := by
  induction k generalizing n with
  | zero => simp [be]
  | succ k ih =>
    rw [be, ih (n / 256), List.cons_append]
    rw [Nat.div_div_eq_div_mul, show 256 * 256 ^ k = 256 ^ (k + 1) from by rw [Nat.pow_succ, Nat.mul_comm]]
    rfl

theorem ofNat_mod (n : Nat) : UInt8.ofNat (n % 256) = UInt8.ofNat n := by
  apply UInt8.toNat_inj.1; simp

theorem be_mod (k n : Nat) : be k (n % 256 ^ k) = be k n := by
  induction k generalizing n with
  | zero => rfl
  | succ k ih =>
    rw [be, be]
    have h1 : n % 256 ^ (k + 1) / 256 = n / 256 % 256 ^ k := by
      rw [Nat.pow_succ, Nat.mul_comm, Nat.mod_mul_right_div_self]
    have h2 : UInt8.ofNat (n % 256 ^ (k + 1)) = UInt8.ofNat n := by
      rw [← ofNat_mod (n % 256 ^ (k + 1)), ← ofNat_mod n, Nat.pow_succ, Nat.mod_mul_left_mod]
    rw [h1, h2, ih]

theorem be_add (j k n : Nat) : be (j + k) n = be j (n / 256 ^ k) ++ be k n := by
  induction k generalizing n with
  | zero => simp [be]
  | succ k ih =>
    rw [← Nat.add_assoc, be, ih, be, List.append_assoc, Nat.div_div_eq_div_mul, show 256 * 256 ^ k = 256 ^ (k + 1) from by rw [Nat.pow_succ, Nat.mul_comm]]

/-- The number of bytes, the highest one first. -/
def val (l : List UInt8) : Nat := l.foldl (fun a c => a * 256 + c.toNat) 0

theorem val_snoc (l : List UInt8) (c : UInt8) : val (l ++ [c]) = val l * 256 + c.toNat := by
  unfold val; simp

theorem foldl_val (l : List UInt8) (a : Nat) : l.foldl (fun a c => a * 256 + c.toNat) a = a * 256 ^ l.length + val l := by
  induction l generalizing a with
  | nil => simp [val]
  | cons c l ih =>
    have e : val (c :: l) = c.toNat * 256 ^ l.length + val l := by
      show List.foldl _ (0 * 256 + c.toNat) l = _
      rw [ih]; simp
    rw [List.foldl_cons, ih, e, List.length_cons, Nat.pow_succ, Nat.add_mul, Nat.add_assoc, Nat.mul_assoc, Nat.mul_comm 256]

theorem val_append (l r : List UInt8) : val (l ++ r) = val l * 256 ^ r.length + val r := by
  unfold val; rw [List.foldl_append, foldl_val]; rfl

theorem val_lt (l : List UInt8) : val l < 256 ^ l.length := by
  induction l with
  | nil => simp [val]
  | cons c l ih =>
    have e : val (c :: l) = c.toNat * 256 ^ l.length + val l := by
      have := val_append [c] l
      simpa [val] using this
    have hc : c.toNat < 256 := UInt8.toNat_lt c
    have h2 : c.toNat * 256 ^ l.length + 256 ^ l.length ≤ 256 * 256 ^ l.length := by
      have : (c.toNat + 1) * 256 ^ l.length ≤ 256 * 256 ^ l.length := Nat.mul_le_mul_right _ (by omega)
      rw [Nat.add_mul, Nat.one_mul] at this; exact this
    rw [e, List.length_cons, Nat.pow_succ, Nat.mul_comm _ 256]
    omega

theorem val_be (k n : Nat) : val (be k n) = n % 256 ^ k := by
  induction k generalizing n with
  | zero => simp [be, val, Nat.mod_one]
  | succ k ih =>
    rw [be, val_snoc, ih]
    have : (UInt8.ofNat n).toNat = n % 256 := by simp
    rw [this, Nat.pow_succ, Nat.mul_comm (256 ^ k) 256, Nat.mod_mul]
    omega

theorem val_cons (c : UInt8) (l : List UInt8) : val (c :: l) = c.toNat * 256 ^ l.length + val l := by
  have := val_append [c] l
  simpa [val] using this

theorem be_val (l : List UInt8) : be l.length (val l) = l := by
  induction l with
  | nil => rfl
  | cons c l ih =>
    have hl := val_lt l
    have hp : 0 < 256 ^ l.length := Nat.pow_pos (by decide)
    rw [List.length_cons, be_head, val_cons]
    have h1 : (c.toNat * 256 ^ l.length + val l) / 256 ^ l.length = c.toNat := by
      rw [Nat.mul_comm, Nat.mul_add_div hp, Nat.div_eq_of_lt hl, Nat.add_zero]
    have h2 : be l.length (c.toNat * 256 ^ l.length + val l) = l := by
      rw [← be_mod, show (c.toNat * 256 ^ l.length + val l) % 256 ^ l.length = val l from by rw [Nat.mul_comm, Nat.mul_add_mod, Nat.mod_eq_of_lt hl], ih]
    rw [h1, h2]
    simp

/-- The bits of a list, the lowest one first. -/
def fl : List Bool → Nat
  | [] => 0
  | b :: r => b.toNat + 2 * fl r

theorem fl_lt (l : List Bool) : fl l < 2 ^ l.length := by
  induction l with
  | nil => simp [fl]
  | cons b l ih =>
    rw [fl, List.length_cons, Nat.pow_succ]
    cases b <;> simp <;> omega

theorem fl_snoc (l : List Bool) (b : Bool) : fl (l ++ [b]) = fl l + b.toNat * 2 ^ l.length := by
  induction l with
  | nil => simp [fl]
  | cons c l ih =>
    rw [List.cons_append, fl, ih, fl, List.length_cons, Nat.pow_succ, Nat.mul_add]
    rw [Nat.mul_comm (2 ^ l.length) 2, Nat.mul_left_comm]
    omega

/-- The lowest n bits of b, the lowest one first. -/
def unfl : Nat → Nat → List Bool
  | 0, _ => []
  | n + 1, b => decide (b % 2 = 1) :: unfl n (b / 2)

theorem unfl_length (n b : Nat) : (unfl n b).length = n := by
  induction n generalizing b with
  | zero => rfl
  | succ n ih => simp [unfl, ih]

theorem unfl_snoc (n b : Nat) : unfl (n + 1) b = unfl n b ++ [decide (b / 2 ^ n % 2 = 1)] := by
  induction n generalizing b with
  | zero => simp [unfl]
  | succ n ih =>
    rw [unfl, ih, Nat.div_div_eq_div_mul, show 2 * 2 ^ n = 2 ^ (n + 1) from by rw [Nat.pow_succ, Nat.mul_comm]]
    rfl

theorem unfl_fl (l : List Bool) : unfl l.length (fl l) = l := by
  induction l with
  | nil => rfl
  | cons b l ih =>
    rw [List.length_cons, unfl, fl]
    have h1 : (b.toNat + 2 * fl l) / 2 = fl l := by cases b <;> simp <;> omega
    have h2 : decide ((b.toNat + 2 * fl l) % 2 = 1) = b := by cases b <;> simp
    rw [h1, h2, ih]
end Go.Proofs.YtbbcncofdhhflaaDoor
