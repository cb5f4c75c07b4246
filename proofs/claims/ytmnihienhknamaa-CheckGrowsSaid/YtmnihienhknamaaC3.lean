/- The law's own fixed fact: it answers true. No condition. -/
import Derived.Test.YtmnihienhknamaaC2
namespace Go.Proofs.Ytmnihienhknamaa
open Go.RowKit

theorem fnv_none : fnv [] = 2166136261 := by decide +kernel
theorem fnv_a : fnv [97] = 3826002220 := by decide +kernel
theorem sealed_ab : sealed [97, 98] = [97, 98, 77, 37, 5, 202] := by decide +kernel

theorem whole_ab : whole 2 (txt [97, 98, 77, 37, 5, 202]) := by
  unfold whole; decide +kernel
theorem whole_abx : ¬ whole 3 (txt [97, 98, 77, 37, 5, 202, 120]) := by
  unfold whole; decide +kernel

theorem ab_list : (txt [97, 98]).toList = [97, 98] := by rw [ByteArray.toList_eq]; rfl

theorem abx : txt [97, 98, 77, 37, 5, 202] ++ (⟨#[120]⟩ : ByteArray) = txt [97, 98, 77, 37, 5, 202, 120] := by
  exact join_str [97, 98, 77, 37, 5, 202] [120]

set_option maxHeartbeats 1000000 in
theorem alive_any (w : World) : Calls Try.prog 6 #[] w fun e w' => e = .returned (.bool true) ∧ Below w.heap.size w w' := by
  go_enter Try.func6, Try.ntmps6
  go_wp2_with fail
  refine (seal_any _ _ (by decide)).mono ?_
  rintro e w1 ⟨rfl, hb1⟩
  rw [show sealed (ByteArray.mk #[97, 98]).data.toList = [97, 98, 77, 37, 5, 202] from sealed_ab]
  generalize hx : txt [97, 98, 77, 37, 5, 202] = x
  have hz : (x.size : Int) = 6 := by rw [← hx]; rfl
  have hg : whole 2 x := by rw [← hx]; exact whole_ab
  have hl : List.take 2 x.data.toList = [97, 98] := by rw [← hx]; rfl
  have hy : x ++ (⟨#[120]⟩ : ByteArray) = txt [97, 98, 77, 37, 5, 202, 120] := by rw [← hx]; exact abx
  clear hx
  have HG := Lib.hid hg; clear hg
  have HL := Lib.hid hl; clear hl
  have HY := Lib.hid hy; clear hy
  go_wp2_with fail
  refine (open_good x 2 _ (by omega) (by omega) HG.out).mono ?_
  rintro e w2 ⟨rfl, n2, rfl⟩
  rw [HL.out]
  go_wp2_with fail
  rw [HY.out]
  refine (open_bad _ 3 _ (by decide) (by decide) whole_abx).mono ?_
  rintro e w3 ⟨rfl, n3, rfl⟩
  go_wp2_with fail
  refine (open_short _ _ (by decide)).mono ?_
  have ht := ab_list
  rintro e w4 ⟨rfl, n4, rfl⟩
  go_wp2_with fail
  refine (sum_any _ _ (by decide)).mono ?_
  rintro e w5 ⟨rfl, n5, rfl⟩
  rw [show fnv (ByteArray.mk #[]).data.toList = 2166136261 from fnv_none]
  go_wp2_with fail
  refine (sum_any _ _ (by decide)).mono ?_
  rintro e w6 ⟨rfl, n6, rfl⟩
  rw [show fnv (ByteArray.mk #[97]).data.toList = 3826002220 from fnv_a]
  go_wp2_with fail
  go_ret
  exact ⟨rfl, below_drewN hb1 _⟩
end Go.Proofs.Ytmnihienhknamaa
