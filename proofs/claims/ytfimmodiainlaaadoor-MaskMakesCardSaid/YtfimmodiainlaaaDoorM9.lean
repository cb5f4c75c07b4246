/- Masks: the walk of the law 'one by one': it answers true, for every argument. No other condition but that the table of the lowest bits lies as its initialiser lays it. -/
import Derived.Test.YtfimmodiainlaaaDoorM8
namespace Go.Proofs.YtfimmodiainlaaaDoor
open Go.RowKit

theorem union_two (m n : Nat) (w : World) (hm : m < 4294967296) (hn : n < 4294967296) :
    Calls Tryd.prog 24 #[.slice (some ⟨w.heap.size, 0, none⟩) 2 2] (w.alloc (.cells #[.int .u32 m, .int .u32 n] 22)) fun e w' => e = .returned (.int .u32 (uniB [m, n] : Nat)) ∧ Below w.heap.size w w' := by
  have := union_any (some ⟨w.heap.size, 0, none⟩) 2 [m, n] _ _ (cs_new .u32 w [(m : Int), (n : Int)] 22) (by intro x hx; simp at hx; rcases hx with rfl | rfl <;> assumption) (by simp [maxLen])
  refine this.mono ?_
  rintro e w1 ⟨rfl, rfl⟩
  exact ⟨rfl, (Below.refl _ _).alloc (Nat.le_refl _) _⟩

theorem pc_le32 (m : Nat) : ((pc 32 m : Nat) : Int) ≤ 32 := by have := pc_le 32 m; omega

set_option maxHeartbeats 2000000 in
theorem ones_law (m n : Nat) (w : World) (hm : m < 4294967296) (hn : n < 4294967296) (hT : Tab w) :
    Calls Tryd.prog 5 #[.int .u32 m, .int .u32 n] w (Yes w) := by
  have hpos := hT.size
  have HT := Lib.hid hT; clear hT
  have HM := Lib.hid hm; clear hm
  have HN := Lib.hid hn; clear hn
  go_enter Tryd.func5, Tryd.ntmps5
  go_wp2_with fail
  refine (alive_any _ HT.out).mono ?_
  rintro e w1 ⟨rfl, hb1⟩
  go_wp2_with fail
  refine (list_any m _ HM.out (HT.out.below hb1 hpos)).mono ?_
  rintro e w2 ⟨A, c, rfl, hl, hcs, hb2⟩
  have HB2 := Lib.hid (ext hb1 hb2)
  clear hb1 hb2
  have HL := Lib.hid hl; clear hl
  have HC := Lib.hid hcs; clear hcs
  have hle := bl_length_le 32 m
  go_wp2_with fail
  go_loopw [6, 7] (fun f i wr => ∃ k j : Nat, k ≤ (bl 32 m).length ∧ i = .int .i64 k ∧ f = .int .i64 j ∧ j ≤ 32 ∧ (bl j m).length = k ∧ Below w2.heap.size w2 wr) (fun _ i _ => (bl 32 m).length - (intOf i).toNat)
  case atStart => exact ⟨0, 0, by omega, rfl, rfl, by omega, rfl, Below.refl _ _⟩
  case round =>
    obtain ⟨k, j, hk, rfl, rfl, hj, hjk, hb⟩ := hrel
    have HB := Lib.hid hb; clear hb
    have hTr := HT.out.below (ext HB2.out HB.out) hpos
    have HTR := Lib.hid hTr; clear hTr
    by_cases hlt : k < (bl 32 m).length
    · obtain ⟨x, hx, hat, hx32, hlen⟩ := bl_at hj hjk hlt
      obtain ⟨a1, rfl, hb1, hc1⟩ := HC.out.below HB.out (Nat.le_refl _) k _ hat
      have hn1 := next_any m j wr HM.out HTR.out
      rw [hx] at hn1
      have hn2 : Calls Tryd.prog 7 #[.int .u32 m, .int .i64 j] wr fun e w' => e = .returned (.tuple #[.int .i64 x, .bool true]) ∧ w' = wr := hn1
      clear hn1
      have hh : hasB m x = true := by
        rw [hasB_bit m x hx32]
        exact (nx_some.1 hx).1.2
      have hhas := fun w => has_n m x true HM.out hh w
      have HLEN := Lib.hid hlen; clear hlen
      clear hat hx hh hjk
      generalize hL : (bl 32 m).length = L at *
      go_wp2_with fail
      refine hn2.mono ?_
      rintro e w3 ⟨rfl, rfl⟩
      go_wp2_with fail
      refine (hhas _).mono ?_
      rintro e w4 ⟨rfl, hb4⟩
      have HB4 := Lib.hid (ext HB.out hb4)
      clear hb4
      go_wp2_with fail
      go_roundw
      case rel => exact ⟨k + 1, x + 1, by omega, by go_num, by go_num, by omega, HLEN.out, HB4.out⟩
      case measure => simp [intOf]; omega
    · obtain rfl : k = (bl 32 m).length := by omega
      have hn1 := next_any m j wr HM.out HTR.out
      rw [bl_end hjk] at hn1
      have hn2 : Calls Tryd.prog 7 #[.int .u32 m, .int .i64 j] wr fun e w' => e = .returned (.tuple #[.int .i64 0, .bool false]) ∧ w' = wr := hn1
      clear hn1 hjk
      have hset := fun w B h => set_any 0 A c (bl 32 m) w B (by decide) h HL.out
      rw [setB_all m HM.out] at hset
      have hclr := fun w B h => clear_any m A c (bl 32 m) w B HM.out h HL.out
      rw [clrB_all m HM.out] at hclr
      have hu : uniB [m, n] < 4294967296 := uniB_lt _ (by intro x hx; simp at hx; rcases hx with rfl | rfl; exact HM.out; exact HN.out)
      have hclu := fun w B h => clear_any (uniB [m, n]) A c (bl 32 m) w B hu h HL.out
      rw [clrB_union m n HM.out HN.out] at hclu
      have hcln := fun w B h => clear_any n A c (bl 32 m) w B HN.out h HL.out
      generalize ((clrB n (bl 32 m) : Nat) : Int) = q at *
      have hun := fun w => union_two m n w HM.out HN.out
      have hcu := fun w => count_any (uniB [m, n]) w hu
      have hcm := fun w => count_any m w HM.out
      have hcn := fun w => count_any n w HN.out
      have hor : pc 32 (uniB [m, n]) ≤ pc 32 m + pc 32 n := by
        have e : uniB [m, n] = m ||| n := by simp [uniB]
        rw [e]; exact pc_or m n 32
      have hpm := pc_le 32 m
      have hpn := pc_le 32 n
      clear hu
      generalize uniB [m, n] = u at *
      generalize pc 32 u = cu at *
      generalize pc 32 m = cm at *
      generalize pc 32 n = cn at *
      generalize bl 32 m = l at *
      go_wp2_with fail
      refine hn2.mono ?_
      rintro e w3 ⟨rfl, rfl⟩
      go_wp2_with fail
      refine (hun _).mono ?_
      rintro e w4 ⟨rfl, hb4⟩
      have HB4 := Lib.hid (ext HB.out hb4)
      clear hb4
      have HC4 := Lib.hid (HC.out.below HB4.out (Nat.le_refl _))
      go_wp2_with fail
      refine (hset _ _ HC4.out).mono ?_
      rintro e w5 ⟨rfl, rfl⟩
      go_wp2_with fail
      refine (hclr _ _ HC4.out).mono ?_
      rintro e w5 ⟨rfl, rfl⟩
      go_wp2_with fail
      refine (hcu _).mono ?_
      rintro e w5 ⟨rfl, n5, rfl⟩
      go_wp2_with fail
      refine (hcm _).mono ?_
      rintro e w5 ⟨rfl, n6, rfl⟩
      go_wp2_with fail
      refine (hcn _).mono ?_
      rintro e w5 ⟨rfl, n7, rfl⟩
      go_wp2_with fail
      have HC5 := Lib.hid (HC.out.below (below_drewN HB4.out (n5 + n6 + n7)) (Nat.le_refl _))
      refine (hclu _ _ HC5.out).mono ?_
      rintro e w5 ⟨rfl, rfl⟩
      go_wp2_with fail
      refine (hcln _ _ HC5.out).mono ?_
      rintro e w5 ⟨rfl, rfl⟩
      go_wp2_with fail
      go_ret
      exact ⟨rfl, ext HB2.out (below_drewN HB4.out (n5 + n6 + n7))⟩
end Go.Proofs.YtfimmodiainlaaaDoor
