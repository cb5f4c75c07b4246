/- Masks: what the functions that only reckon answer, for every argument within its type; no other condition but that the table of the lowest bits lies as its initialiser lays it. -/
import Derived.Test.YtfimmodiainlaaaDoorRows
import Derived.Test.YtfimmodiainlaaaDoorM0
import Derived.WalkKit
import Derived.WalkSpells
import Derived.WalkLawsBesides
import Derived.Handy
import Derived.Lib.Hide
import Derived.BigQuiet
import Derived.Deep.QuietTactic
import Derived.Laws.BitsAllLaws
import Derived.Lib.LaidTab
namespace Go.Proofs.YtfimmodiainlaaaDoor
open Go.RowKit

theorem ret_int {k : IntKind} {a b : Int} (h : a = b) : Ending.returned (.int k a) = .returned (.int k b) := by rw [h]
theorem ret_bool {a b : Bool} (h : a = b) : Ending.returned (.bool a) = .returned (.bool b) := by rw [h]
theorem ret_num {k : IntKind} {a b : Int} {c d : Bool} (h : a = b) (h2 : c = d) : Ending.returned (.tuple #[.int k a, .bool c]) = .returned (.tuple #[.int k b, .bool d]) := by rw [h, h2]

/-- The table of the lowest bits, as its initialiser lays it. -/
def Tab (w : World) : Prop := ∀ j, j < 32 → w.cell? ⟨0, j, none⟩ = some (.int .u8 ((Lib.deBruijn32tab.getD j 0 : Nat) : Int))

theorem Tab.size {w : World} (h : Tab w) : 0 < w.heap.size := World.block_lt_of_cell? w _ (h 0 (by decide))
theorem Tab.below {w w' : World} {B : Nat} (h : Tab w) (hb : Below B w w') (hB : 0 < B) : Tab w' := fun j hj => (hb.cell hB).trans (h j hj)

theorem neg_u32 (x : Nat) (hx : x < 4294967296) (hx0 : x ≠ 0) : (-(x : Int)) % 4294967296 = ((4294967296 - x : Nat) : Int) := by omega
theorem tz_c (x y a : Nat) (hx : x < 4294967296) (hy : y < 4294967296) (hlow : x &&& y = a) :
    bits BinOp.and IntKind.u32 (x : Int) (y : Int) = (a : Int) := by
  rw [u32_and_nat x y hx hy, hlow]
theorem cast_mul_mod_div (a c d e : Nat) : ((a * c % d / e : Nat) : Int) = (a : Int) * (c : Int) % (d : Int) / (e : Int) := by
  rw [Int.natCast_ediv, Int.natCast_emod, Int.natCast_mul]
theorem sub_lt32 (x : Nat) (hx0 : x ≠ 0) : 4294967296 - x < 4294967296 := by omega
theorem tz_key (x a : Nat) (hx : x < 4294967296) (hx0 : x ≠ 0) (hlow : x &&& (4294967296 - x) = a) :
    bits BinOp.and IntKind.u32 (x : Int) ((-(x : Int)) % 4294967296) * 125613361 % 4294967296 / 134217728 = ((a * 125613361 % 4294967296 / 134217728 : Nat) : Int) := by
  have h := sub_lt32 x hx0
  have e := neg_u32 x hx hx0
  generalize 4294967296 - x = y at *
  rw [e, tz_c x y a hx h hlow]
  exact (cast_mul_mod_div a 125613361 4294967296 134217728).symm

set_option maxHeartbeats 400000 in
theorem tz32_core (x k j : Nat) (w : World) (hz : ((x : Int) == 0) = false)
    (key : bits BinOp.and IntKind.u32 (x : Int) ((-(x : Int)) % 4294967296) * 125613361 % 4294967296 / 134217728 = (j : Int)) (hi : j < 32) (hk : k < 32)
    (hc : w.cell? ⟨0, j, none⟩ = some (.int .u8 (k : Int))) :
    Calls Tryd.prog 26 #[.int .u32 x] w fun e w' => e = .returned (.int .i64 k) ∧ w' = w := by
  go_enter Tryd.func26, Tryd.ntmps26
  go_wp2_with (simp only [key])
  go_ret
  exact ⟨rfl, rfl⟩

theorem nat_int_zero (x : Nat) (h : x ≠ 0) : ((x : Int) == 0) = false := by rw [beq_eq_false_iff_ne]; omega

theorem tz32_any (x : Nat) (w : World) (hx : x < 4294967296) (hx0 : x ≠ 0) (hT : Tab w) :
    Calls Tryd.prog 26 #[.int .u32 x] w fun e w' => e = .returned (.int .i64 (Lib.ctz 32 x)) ∧ w' = w := by
  obtain ⟨hlow, hk⟩ := Lib.lowest_bit 32 x hx0 hx
  obtain ⟨hi, htab⟩ := Lib.deBruijn32_at _ hk
  have hc := hT _ hi
  rw [htab] at hc
  exact tz32_core x _ _ w (nat_int_zero x hx0) (tz_key x _ hx hx0 hlow) hi hk hc

set_option maxRecDepth 10000 in
@[go_sem high] theorem fold_pop : ({ data := (List.append (List.append [0, 1, 1, 2, 1, 2, 2, 3, 1, 2, 2, 3, 2, 3, 3, 4, 1, 2, 2, 3, 2, 3, 3, 4, 2, 3, 3, 4, 3, 4, 4, 5, 1, 2, 2, 3, 2, 3, 3, 4, 2, 3, 3, 4, 3, 4, 4, 5, 2, 3, 3, 4, 3, 4, 4, 5, 3, 4, 4, 5, 4, 5, 5, 6] [1, 2, 2, 3, 2, 3, 3, 4, 2, 3, 3, 4, 3, 4, 4, 5, 2, 3, 3, 4, 3, 4, 4, 5, 3, 4, 4, 5, 4, 5, 5, 6, 2, 3, 3, 4, 3, 4, 4, 5, 3, 4, 4, 5, 4, 5, 5, 6, 3, 4, 4, 5, 4, 5, 5, 6, 4, 5, 5, 6, 5, 6, 6, 7]) (List.append [1, 2, 2, 3, 2, 3, 3, 4, 2, 3, 3, 4, 3, 4, 4, 5, 2, 3, 3, 4, 3, 4, 4, 5, 3, 4, 4, 5, 4, 5, 5, 6, 2, 3, 3, 4, 3, 4, 4, 5, 3, 4, 4, 5, 4, 5, 5, 6, 3, 4, 4, 5, 4, 5, 5, 6, 4, 5, 5, 6, 5, 6, 6, 7] [2, 3, 3, 4, 3, 4, 4, 5, 3, 4, 4, 5, 4, 5, 5, 6, 3, 4, 4, 5, 4, 5, 5, 6, 4, 5, 5, 6, 5, 6, 6, 7, 3, 4, 4, 5, 4, 5, 5, 6, 4, 5, 5, 6, 5, 6, 6, 7, 4, 5, 5, 6, 5, 6, 6, 7, 5, 6, 6, 7, 6, 7, 7, 8])).toArray } : ByteArray) = Lib.pop8tab := rfl

theorem byte_and (x : Nat) (h : x < 4294967296) : bits .and .u32 (x : Int) 255 = ((x % 256 : Nat) : Int) := by
  rw [show (255 : Int) = ((255 : Nat) : Int) from rfl, u32_and_nat _ _ h (by decide)]
  congr 1
  exact Nat.and_two_pow_sub_one_eq_mod x 8

set_option maxHeartbeats 400000 in
theorem ones_any (m : Nat) (w : World) (hm : m < 4294967296) :
    Calls Tryd.prog 29 #[.int .u32 m] w fun e w' => e = .returned (.int .i64 (pc 32 m)) ∧ ∃ n, w' = w.drewN n := by
  have e0 := byte_and m hm
  have e1 := byte_and (m / 256) (by omega)
  have e2 := byte_and (m / 65536) (by omega)
  have c1 : ((m / 256 : Nat) : Int) = (m : Int) / 256 := rfl
  have c2 : ((m / 65536 : Nat) : Int) = (m : Int) / 65536 := rfl
  rw [c1] at e1
  rw [c2] at e2
  obtain ⟨g0, h0⟩ : 0 ≤ bits .and .u32 (m : Int) 255 ∧ bits .and .u32 (m : Int) 255 ≤ 255 := by rw [e0]; omega
  obtain ⟨g1, h1⟩ : 0 ≤ bits .and .u32 ((m : Int) / 256) 255 ∧ bits .and .u32 ((m : Int) / 256) 255 ≤ 255 := by rw [e1]; omega
  obtain ⟨g2, h2⟩ : 0 ≤ bits .and .u32 ((m : Int) / 65536) 255 ∧ bits .and .u32 ((m : Int) / 65536) 255 ≤ 255 := by rw [e2]; omega
  have d0 : 0 ≤ (m : Int) / 16777216 := by omega
  have d1 : (m : Int) / 16777216 ≤ 255 := by omega
  have E0 := Lib.hid e0; clear e0
  have E1 := Lib.hid e1; clear e1
  have E2 := Lib.hid e2; clear e2
  go_enter Tryd.func29, Tryd.ntmps29
  go_wp2
  go_quiet (fail)
  go_wp2
  go_ret
  refine ⟨ret_int ?_, _, rfl⟩
  rw [E0.out, E1.out, E2.out, show (m : Int) / 16777216 = ((m / 16777216 : Nat) : Int) from rfl]
  rw [pop_at _ (by omega), pop_at _ (by omega), pop_at _ (by omega), pop_at _ (by omega)]
  have p0 := pc_le 8 (m / 16777216)
  have p1 := pc_le 8 (m / 65536 % 256)
  have p2 := pc_le 8 (m / 256 % 256)
  have p3 := pc_le 8 (m % 256)
  have p4 := pc_four m
  omega
end Go.Proofs.YtfimmodiainlaaaDoor
