/- Masks: the fixed examples come out as they stand; the union of lists by the document's way. No other condition but that the table of the lowest bits lies as its initialiser lays it. -/
import Derived.Test.YtfimmodiainlaaaDoorM5
namespace Go.Proofs.YtfimmodiainlaaaDoor
open Go.RowKit

set_option maxHeartbeats 1000000 in
theorem runion_any (A : Option Addr) (c : Nat) (l : List Nat) (w : World) (h : Cs .u32 w w.heap.size A (l.map fun (x : Nat) => (x : Int))) (hlt2 : ∀ x ∈ l, x < 4294967296) (hm : l.length ≤ maxLen) :
    Calls Tryd.prog 25 #[.slice A l.length c] w fun e w' => e = .returned (.int .u32 (uniB l : Nat)) ∧ Below w.heap.size w w' := by
  unfold maxLen at hm
  have H1 := Lib.hid h; clear h
  have H2 := Lib.hid hlt2; clear hlt2
  go_enter Tryd.func25, Tryd.ntmps25
  go_wp2
  go_loopw [3, 4] (fun m i wr => ∃ k : Nat, k ≤ l.length ∧ i = .int .i64 k ∧ m = .int .u32 (uniB (l.take k) : Nat) ∧ Below w.heap.size w wr) (fun _ i _ => l.length - (intOf i).toNat)
  case atStart => exact ⟨0, by omega, rfl, rfl, Below.refl _ _⟩
  case round =>
    obtain ⟨k, hk, rfl, rfl, hb⟩ := hrel
    by_cases hlt : k < l.length
    · obtain ⟨a1, rfl, hb1, hc1⟩ := (H1.out.below hb (Nat.le_refl _)) k (l[k] : Int) (by simp [hlt])
      have hs : uniB (l.take (k + 1)) = uniB (l.take k) ||| l[k] := by rw [take_snoc l k hlt, uniB_snoc]
      have hq := uniB_lt (l.take k) fun x hx => H2.out x (List.mem_of_mem_take hx)
      have hx := H2.out _ (List.getElem_mem hlt)
      generalize l[k] = x at *
      generalize uniB (l.take k) = q at *
      rw [← setB_bl q x hx] at hs
      have HS := Lib.hid hs; clear hs
      have HB := Lib.hid hb; clear hb
      have hle := bl_length_le 32 x
      go_wp2_with fail
      refine (rlist_any x _).mono ?_
      rintro e w1 ⟨A2, c2, rfl, hm2, hs2, hb2⟩
      have HM2 := Lib.hid hm2; clear hm2
      have HC2 := Lib.hid hs2; clear hs2
      generalize bl 32 x = y at *
      go_wp2_with fail
      refine (rset_any q A2 c2 y _ _ hq HC2.out HM2.out).mono ?_
      rintro e w2 ⟨rfl, rfl⟩
      go_wp2_with fail
      go_roundw
      case rel => exact ⟨k + 1, by omega, by go_num, by rw [HS.out], HB.out.trans (hb2.mono HB.out.size)⟩
      case measure => simp [intOf]; omega
    · obtain rfl : k = l.length := by omega
      rw [List.take_length]
      go_wp2
      go_ret
      exact ⟨rfl, hb⟩

theorem next_51 (w : World) (hT : Tab w) : Calls Tryd.prog 7 #[.int .u32 5, .int .i64 1] w fun e w' => e = .returned (.tuple #[.int .i64 2, .bool true]) ∧ w' = w := by
  have := next_any 5 1 w (by decide) hT
  rw [show nx 5 1 = some 2 from by decide +kernel] at this
  exact this
theorem next_53 (w : World) (hT : Tab w) : Calls Tryd.prog 7 #[.int .u32 5, .int .i64 3] w fun e w' => e = .returned (.tuple #[.int .i64 0, .bool false]) ∧ w' = w := by
  have := next_any 5 3 w (by decide) hT
  rw [show nx 5 3 = none from by decide +kernel] at this
  exact this
theorem set_5 (w : World) : Calls Tryd.prog 20 #[.int .u32 0, .slice (some ⟨w.heap.size, 0, none⟩) 2 2] (w.alloc (.cells #[.int .i64 0, .int .i64 2] 3)) fun e w' => e = .returned (.int .u32 5) ∧ Below w.heap.size w w' := by
  have := set_any 0 (some ⟨w.heap.size, 0, none⟩) 2 [0, 2] _ _ (by decide) (cs_new .i64 w [0, 2] 3) (by simp [maxLen])
  rw [show setB 0 [0, 2] = 5 from by decide +kernel] at this
  refine this.mono ?_
  rintro e w1 ⟨rfl, rfl⟩
  exact ⟨rfl, (Below.refl _ _).alloc (Nat.le_refl _) _⟩
theorem clear_4 (w : World) : Calls Tryd.prog 22 #[.int .u32 5, .slice (some ⟨w.heap.size, 0, none⟩) 2 2] (w.alloc (.cells #[.int .i64 0, .int .i64 7] 3)) fun e w' => e = .returned (.int .u32 4) ∧ Below w.heap.size w w' := by
  have := clear_any 5 (some ⟨w.heap.size, 0, none⟩) 2 [0, 7] _ _ (by decide) (cs_new .i64 w [0, 7] 3) (by simp [maxLen])
  rw [show clrB 5 [0, 7] = 4 from by decide +kernel] at this
  refine this.mono ?_
  rintro e w1 ⟨rfl, rfl⟩
  exact ⟨rfl, (Below.refl _ _).alloc (Nat.le_refl _) _⟩
theorem union_5 (w : World) : Calls Tryd.prog 24 #[.slice (some ⟨w.heap.size, 0, none⟩) 2 2] (w.alloc (.cells #[.int .u32 1, .int .u32 4] 22)) fun e w' => e = .returned (.int .u32 5) ∧ Below w.heap.size w w' := by
  have := union_any (some ⟨w.heap.size, 0, none⟩) 2 [1, 4] _ _ (cs_new .u32 w [1, 4] 22) (by decide) (by simp [maxLen])
  rw [show uniB [1, 4] = 5 from by decide +kernel] at this
  refine this.mono ?_
  rintro e w1 ⟨rfl, rfl⟩
  exact ⟨rfl, (Below.refl _ _).alloc (Nat.le_refl _) _⟩
theorem count_5 (w : World) : Calls Tryd.prog 15 #[.int .u32 5] w fun e w' => e = .returned (.int .i64 2) ∧ ∃ n, w' = w.drewN n := by
  have := count_any 5 w (by decide)
  rw [show pc 32 5 = 2 from by decide +kernel] at this
  exact this
theorem all_n (n : Int) (x : Nat) (h : allB n = x) (w : World) : Calls Tryd.prog 13 #[.int .i64 n] w fun e w' => e = .returned (.int .u32 x) ∧ w' = w := by
  have := all_any n w
  rw [h] at this
  exact this
theorem right_n (m : Nat) (n : Int) (b : Bool) (hm : m < 4294967296) (h : rightB m n = b) (w : World) : Calls Tryd.prog 11 #[.int .u32 m, .int .i64 n] w fun e w' => e = .returned (.bool b) ∧ w' = w := by
  have := right_any m n w hm
  rw [h] at this
  exact this
theorem has_n (m : Nat) (n : Int) (b : Bool) (hm : m < 4294967296) (h : hasB m n = b) (w : World) : Calls Tryd.prog 9 #[.int .u32 m, .int .i64 n] w fun e w' => e = .returned (.bool b) ∧ Below w.heap.size w w' := by
  have := has_any m n w hm
  rw [h] at this
  exact this
theorem list_5 (w : World) (hT : Tab w) : Calls Tryd.prog 18 #[.int .u32 5] w (Gives [0, 2] w) := by
  have := list_any 5 w (by decide) hT
  rw [show bl 32 5 = [0, 2] from by decide +kernel] at this
  exact this

set_option maxHeartbeats 1000000 in
theorem alive_any (w : World) (hT : Tab w) : Calls Tryd.prog 6 #[] w fun e w' => e = .returned (.bool true) ∧ Below w.heap.size w w' := by
  have hpos := hT.size
  have HT := Lib.hid hT; clear hT
  go_enter Tryd.func6, Tryd.ntmps6
  go_wp2_with fail
  refine (next_51 _ HT.out).mono ?_
  rintro e w1 ⟨rfl, rfl⟩
  go_wp2_with fail
  refine (next_53 _ HT.out).mono ?_
  rintro e w2 ⟨rfl, rfl⟩
  go_wp2_with fail
  refine (set_5 _).mono ?_
  rintro e w3 ⟨rfl, hb3⟩
  go_wp2_with fail
  refine (clear_4 _).mono ?_
  rintro e w4 ⟨rfl, hb4⟩
  replace hb4 := hb3.trans (hb4.mono hb3.size)
  clear hb3
  go_wp2_with fail
  refine (union_5 _).mono ?_
  rintro e w5 ⟨rfl, hb5⟩
  replace hb5 := hb4.trans (hb5.mono hb4.size)
  clear hb4
  go_wp2_with fail
  refine (count_5 _).mono ?_
  rintro e w6 ⟨rfl, n6, rfl⟩
  go_wp2_with fail
  refine (all_n 3 7 (by decide +kernel) _).mono ?_
  rintro e w7 ⟨rfl, rfl⟩
  go_wp2_with fail
  refine (all_n 32 4294967295 (by decide +kernel) _).mono ?_
  rintro e w7 ⟨rfl, rfl⟩
  go_wp2_with fail
  refine (all_n 33 0 (by decide +kernel) _).mono ?_
  rintro e w7 ⟨rfl, rfl⟩
  go_wp2_with fail
  refine (right_n 5 3 true (by decide) (by decide +kernel) _).mono ?_
  rintro e w7 ⟨rfl, rfl⟩
  go_wp2_with fail
  refine (right_n 8 3 false (by decide) (by decide +kernel) _).mono ?_
  rintro e w7 ⟨rfl, rfl⟩
  go_wp2_with fail
  refine (has_n 4 2 true (by decide) (by decide +kernel) _).mono ?_
  rintro e w7 ⟨rfl, hb7⟩
  replace hb7 := (below_drewN hb5 n6).trans (hb7.mono hb5.size)
  clear hb5
  go_wp2_with fail
  refine (has_n 4 34 false (by decide) (by decide +kernel) _).mono ?_
  rintro e w8 ⟨rfl, hb8⟩
  replace hb8 := hb7.trans (hb8.mono hb7.size)
  clear hb7
  go_wp2_with fail
  refine (list_5 _ (HT.out.below hb8 hpos)).mono ?_
  rintro e w9 ⟨A, c, rfl, hm9, hc9, hb9⟩
  replace hb9 := hb8.trans (hb9.mono hb8.size)
  clear hb8 hm9
  have HC := Lib.hid hc9; clear hc9
  have HB := Lib.hid hb9; clear hb9
  go_wp2_with fail
  refine (same_yes A (some ⟨w9.heap.size, 0, none⟩) c 2 [0, 2] _ (w9.heap.size + 1) (HC.out.below ((Below.refl _ _).alloc (Nat.le_refl _) _) (Nat.le_succ _)) (cs_new .i64 w9 [0, 2] 3) (by simp [maxLen])).mono ?_
  rintro e w10 ⟨rfl, n10, rfl⟩
  go_wp2_with fail
  go_ret
  exact ⟨rfl, below_drewN (HB.out.alloc HB.out.size _) n10⟩
end Go.Proofs.YtfimmodiainlaaaDoor
