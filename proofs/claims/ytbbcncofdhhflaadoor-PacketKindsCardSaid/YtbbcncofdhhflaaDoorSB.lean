/- Eight bytes as a number out of a text, four generations in a row, two bytes as a text: what superblocks and hellos share. No condition. -/
import Derived.Test.YtbbcncofdhhflaaDoorTX
import Derived.Test.YtbbcncofdhhflaaDoorX3
import Derived.Test.YtbbcncofdhhflaaDoorV1
import Derived.Test.YtbbcncofdhhflaaDoorR0
namespace Go.Proofs.YtbbcncofdhhflaaDoor
open Go.RowKit

theorem conv_box {w : World} {g : Nat} {a b : Int} (h : Box w g [.int .u8 a, .int .u8 b]) : (convert 42 9 (.slice (some ⟨g, 0, none⟩) 2 2)).run Tryd.prog w = .ok (.string (strOfNums [a, b])) w := by
  refine run_convert_bytes_arg (P := Tryd.prog) _ 42 5 Tryd.underlying42 Tryd.underlying5 g 0 2 2 [a, b] rfl (fun i hi => ?_) 9 Tryd.underlying9
  match i, hi with
  | 0, _ => exact h.cell 0
  | 1, _ => exact h.cell 1

theorem nums2 (a b : Int) : (strOfNums [a, b]).size = 2 := by rw [strOfNums_size]; rfl

/-- Four generations in a row, one taken. -/
@[go_sem] theorem idx0 (c b o p : Int) (w : World) : (Instr.index 77 (.agg #[.int .u64 c, .int .u64 b, .int .u64 o, .int .u64 p]) (.int .i64 0)).run Tryd.prog w = .ok (.int .u64 c) w := by kernel_rfl

@[go_sem] theorem idx1 (c b o p : Int) (w : World) : (Instr.index 77 (.agg #[.int .u64 c, .int .u64 b, .int .u64 o, .int .u64 p]) (.int .i64 1)).run Tryd.prog w = .ok (.int .u64 b) w := by kernel_rfl

@[go_sem] theorem idx2 (c b o p : Int) (w : World) : (Instr.index 77 (.agg #[.int .u64 c, .int .u64 b, .int .u64 o, .int .u64 p]) (.int .i64 2)).run Tryd.prog w = .ok (.int .u64 o) w := by kernel_rfl

@[go_sem] theorem idx3 (c b o p : Int) (w : World) : (Instr.index 77 (.agg #[.int .u64 c, .int .u64 b, .int .u64 o, .int .u64 p]) (.int .i64 3)).run Tryd.prog w = .ok (.int .u64 p) w := by kernel_rfl

theorem txt_app (l r : List UInt8) : txt l ++ (⟨r.toArray⟩ : ByteArray) = txt (l ++ r) := join_str l r

theorem be8_size (n : Nat) : (⟨(be 8 n).toArray⟩ : ByteArray).size = 8 := by simp [ByteArray.size, be_length]

/-- The number of eight bytes from a place on. -/
def num8 (l : List UInt8) (k : Nat) : Int := ((val ((l.drop k).take 8) : Nat) : Int)

theorem num8_range (l : List UInt8) (k : Nat) : 0 ≤ num8 l k ∧ num8 l k < 18446744073709551616 := by
  unfold num8
  have h := val_lt ((l.drop k).take 8)
  have h2 : ((l.drop k).take 8).length ≤ 8 := by rw [List.length_take]; omega
  have h3 : 256 ^ ((l.drop k).take 8).length ≤ 256 ^ 8 := Nat.pow_le_pow_right (by decide) h2
  have h4 : (256 : Nat) ^ 8 = 18446744073709551616 := by decide
  omega

theorem extract_num8 (s : ByteArray) (k : Nat) : ((val (s.extract k (k + 8)).data.toList : Nat) : Int) = num8 s.data.toList k := by
  unfold num8
  obtain ⟨⟨l⟩⟩ := s
  have e : ((⟨⟨l⟩⟩ : ByteArray).extract k (k + 8)).data.toList = (l.drop k).take 8 := by
    simp [List.extract, show k + 8 - k = 8 from by omega]
  rw [e]

theorem extract8 (s : ByteArray) (k : Nat) (h : k + 8 ≤ s.size) : (s.extract k (k + 8)).size = 8 := by simp; omega

theorem get64_b (s : ByteArray) (w : World) (h0 : s.size = 8) :
    Calls Tryd.prog 43 #[.string s] w fun e w' => e = .returned (.tuple #[.int .u64 (val s.data.toList), .bool true]) ∧ Below w.heap.size w w' := by
  refine (get64_yes s w h0).mono ?_
  rintro e w' ⟨rfl, n, rfl⟩
  exact ⟨rfl, below_drewN (Below.refl _ _) n⟩

theorem at_txt (t : ByteArray) (k : Nat) (h : k < t.size) : t[k] = t.data.toList.getD k 0 := by
  obtain ⟨⟨l⟩⟩ := t
  have h' : k < l.length := h
  show l[k] = l.getD k 0
  simp [List.getD, List.getElem?_eq_getElem h']

theorem num8_at (h r : List UInt8) (k x : Nat) (hk : h.length = k) : num8 (h ++ (be 8 x ++ r)) k = ((x % 18446744073709551616 : Nat) : Int) := by
  subst hk
  unfold num8
  rw [List.drop_left, List.take_left' (be_length 8 x), val_be]

theorem num8_nat (x : Int) (h0 : 0 ≤ x) (h1 : x < 18446744073709551616) : ((x.toNat % 18446744073709551616 : Nat) : Int) = x := by omega

theorem be_drop (l : List UInt8) (k : Nat) (h : k + 8 ≤ l.length) : be 8 (num8 l k).toNat = (l.drop k).take 8 := by
  unfold num8
  have := be_val ((l.drop k).take 8)
  rw [List.length_take, List.length_drop, Nat.min_eq_left (by omega)] at this
  rw [Int.toNat_natCast]
  exact this

end Go.Proofs.YtbbcncofdhhflaaDoor
