/- Lineage: the law's own example: the fixed fact holds. No condition. -/
import Derived.Test.YtpipindifeklbaaLH
namespace Go.Proofs.Ytpipindifeklbaa
open Go.RowKit

def mnt3 : List Mnt := [⟨7, 5, 0⟩, ⟨8, 5, 1⟩, ⟨9, 8, 0⟩]
def mnt2 : List Mnt := [⟨1, 2, 0⟩, ⟨2, 1, 0⟩]
def mnt1 : List Mnt := [⟨0, 0, 0⟩]

theorem wide3 : Wide mnt3 := by intro m hm; simp [mnt3] at hm; rcases hm with rfl | rfl | rfl <;> exact ⟨by unfold U64; decide, by unfold U64; decide⟩
theorem wide2 : Wide mnt2 := by intro m hm; simp [mnt2] at hm; rcases hm with rfl | rfl <;> exact ⟨by unfold U64; decide, by unfold U64; decide⟩
theorem wide1 : Wide mnt1 := by intro m hm; simp [mnt1] at hm; subst hm; exact ⟨by unfold U64; decide, by unfold U64; decide⟩

section
variable (A : Option Addr) (c : Nat) (w : World)

theorem la0 (h : Ms w w.heap.size A mnt3) : Calls Try.prog 7 #[.slice A 3 c] w fun e w' => e = .returned (.bool true) ∧ Below w.heap.size w w' := by
  have := right_any A c mnt3 w h wide3 (by decide)
  rw [show rightL mnt3 = true from by decide] at this
  exact this
theorem la1 (h : Ms w w.heap.size A mnt1) : Calls Try.prog 7 #[.slice A 1 c] w fun e w' => e = .returned (.bool false) ∧ Below w.heap.size w w' := by
  have := right_any A c mnt1 w h wide1 (by decide)
  rw [show rightL mnt1 = false from by decide] at this
  exact this
theorem la2 (h : Ms w w.heap.size A mnt3) : Calls Try.prog 10 #[.slice A 3 c, .int .u64 9] w (GivesU [9, 8, 5] w) := by
  have := line_any A c mnt3 9 w h wide3 (by unfold U64; decide) (by decide)
  rw [show lineL mnt3 9 = [9, 8, 5] from by decide] at this
  exact this
theorem la3 (h : Ms w w.heap.size A mnt2) : Calls Try.prog 10 #[.slice A 2 c, .int .u64 1] w (GivesU [1, 2] w) := by
  have := line_any A c mnt2 1 w h wide2 (by unfold U64; decide) (by decide)
  rw [show lineL mnt2 1 = [1, 2] from by decide] at this
  exact this
theorem la4 (h : Ms w w.heap.size A mnt3) : Calls Try.prog 12 #[.slice A 3 c, .int .u64 5, .int .u64 9] w fun e w' => e = .returned (.bool true) ∧ Below w.heap.size w w' := by
  have := in_any A c mnt3 w h wide3 (by decide) 5 9 (by unfold U64; decide)
  rw [show decide ((5 : Int) ∈ lineL mnt3 9) = true from by decide] at this
  exact this
theorem la5 (h : Ms w w.heap.size A mnt3) : Calls Try.prog 12 #[.slice A 3 c, .int .u64 7, .int .u64 9] w fun e w' => e = .returned (.bool false) ∧ Below w.heap.size w w' := by
  have := in_any A c mnt3 w h wide3 (by decide) 7 9 (by unfold U64; decide)
  rw [show decide ((7 : Int) ∈ lineL mnt3 9) = false from by decide] at this
  exact this
theorem la6 (h : Ms w w.heap.size A mnt3) : Calls Try.prog 14 #[.slice A 3 c, .int .u64 7, .int .u64 8] w fun e w' => e = .returned (.bool true) ∧ Below w.heap.size w w' := by
  have := apart_any A c mnt3 w h wide3 (by decide) 7 8 (by unfold U64; decide) (by unfold U64; decide)
  rw [show apartB mnt3 7 8 = true from by decide] at this
  exact this
theorem la7 (h : Ms w w.heap.size A mnt3) : Calls Try.prog 14 #[.slice A 3 c, .int .u64 5, .int .u64 8] w fun e w' => e = .returned (.bool false) ∧ Below w.heap.size w w' := by
  have := apart_any A c mnt3 w h wide3 (by decide) 5 8 (by unfold U64; decide) (by unfold U64; decide)
  rw [show apartB mnt3 5 8 = false from by decide] at this
  exact this
theorem la8 (h : Ms w w.heap.size A mnt3) : Calls Try.prog 16 #[.slice A 3 c, .int .u64 7, .int .u64 9] w fun e w' => e = .returned (.int .u64 5) ∧ Below w.heap.size w w' := by
  have := common_any A c mnt3 w h wide3 (by decide) 7 9 (by unfold U64; decide) (by unfold U64; decide)
  rw [show commonI mnt3 7 9 = 5 from by decide] at this
  exact this
theorem la9 (h : Ms w w.heap.size A mnt3) : Calls Try.prog 16 #[.slice A 3 c, .int .u64 7, .int .u64 3] w fun e w' => e = .returned (.int .u64 0) ∧ Below w.heap.size w w' := by
  have := common_any A c mnt3 w h wide3 (by decide) 7 3 (by unfold U64; decide) (by unfold U64; decide)
  rw [show commonI mnt3 7 3 = 0 from by decide] at this
  exact this
end

set_option maxHeartbeats 4000000 in
theorem lalive_any (w : World) : Calls Try.prog 6 #[] w fun e w' => e = .returned (.bool true) ∧ Below w.heap.size w w' := by
  have HM := Lib.hid (ms_new w mnt3 32)
  have HB := Lib.hid (below1 (w := w) (o := .cells (cellsM mnt3).toArray 32))
  go_enter Try.func6, Try.ntmps6
  go_wp2_with fail
  refine (la0 _ _ _ HM.out).mono ?_
  rintro e w1 ⟨rfl, hb⟩
  replace HM := Lib.hid ((HM.out.up hb).up (below1 (o := .cells (cellsM mnt1).toArray 32)))
  replace HB := Lib.hid (ext_alloc (ext HB.out hb) (.cells (cellsM mnt1).toArray 32))
  have HM1 := Lib.hid (ms_new w1 mnt1 32)
  clear hb
  go_wp2_with fail
  refine (la1 _ _ _ HM1.out).mono ?_
  rintro e w2 ⟨rfl, hb⟩
  replace HM := Lib.hid (HM.out.up hb)
  replace HB := Lib.hid (ext HB.out hb)
  clear hb HM1
  go_wp2_with fail
  refine (la2 _ _ _ HM.out).mono ?_
  rintro e w3 ⟨B, c3, rfl, hes, _, hb⟩
  replace HM := Lib.hid ((HM.out.up hb).up (below1 (o := .cells ([9, 8, 5].map (Value.int .u64)).toArray 23)))
  replace HB := Lib.hid (ext_alloc (ext HB.out hb) (.cells ([9, 8, 5].map (Value.int .u64)).toArray 23))
  have h1 := hes.up (below1 (o := .cells ([9, 8, 5].map (Value.int .u64)).toArray 23))
  have h2 := es_new (Value.int .u64) w3 [9, 8, 5] 23
  have hs := rsamen_any _ _ c3 3 [9, 8, 5] _ h1 (by simpa using h2) (by decide)
  clear hb hes h1 h2
  go_wp2_with fail
  refine hs.mono ?_
  rintro e w4 ⟨rfl, hb⟩
  replace HM := Lib.hid (HM.out.up hb)
  replace HB := Lib.hid (ext HB.out hb)
  clear hb hs
  go_wp2_with fail
  refine (la4 _ _ _ HM.out).mono ?_
  rintro e w5 ⟨rfl, hb⟩
  replace HM := Lib.hid (HM.out.up hb)
  replace HB := Lib.hid (ext HB.out hb)
  clear hb
  go_wp2_with fail
  refine (la5 _ _ _ HM.out).mono ?_
  rintro e w6 ⟨rfl, hb⟩
  replace HM := Lib.hid (HM.out.up hb)
  replace HB := Lib.hid (ext HB.out hb)
  clear hb
  go_wp2_with fail
  refine (la6 _ _ _ HM.out).mono ?_
  rintro e w7 ⟨rfl, hb⟩
  replace HM := Lib.hid (HM.out.up hb)
  replace HB := Lib.hid (ext HB.out hb)
  clear hb
  go_wp2_with fail
  refine (la7 _ _ _ HM.out).mono ?_
  rintro e w8 ⟨rfl, hb⟩
  replace HM := Lib.hid (HM.out.up hb)
  replace HB := Lib.hid (ext HB.out hb)
  clear hb
  go_wp2_with fail
  refine (la8 _ _ _ HM.out).mono ?_
  rintro e w9 ⟨rfl, hb⟩
  replace HM := Lib.hid (HM.out.up hb)
  replace HB := Lib.hid (ext HB.out hb)
  clear hb
  go_wp2_with fail
  refine (la9 _ _ _ HM.out).mono ?_
  rintro e w10 ⟨rfl, hb⟩
  replace HM := Lib.hid (HM.out.up hb)
  replace HB := Lib.hid (ext HB.out hb)
  clear hb
  replace HB := Lib.hid (ext_alloc HB.out (.cells (cellsM mnt2).toArray 32))
  have HM1 := Lib.hid (ms_new w10 mnt2 32)
  clear HM
  go_wp2_with fail
  refine (la3 _ _ _ HM1.out).mono ?_
  rintro e w11 ⟨B2, c11, rfl, hes, _, hb⟩
  replace HB := Lib.hid (ext_alloc (ext HB.out hb) (.cells ([1, 2].map (Value.int .u64)).toArray 23))
  have h1 := hes.up (below1 (o := .cells ([1, 2].map (Value.int .u64)).toArray 23))
  have h2 := es_new (Value.int .u64) w11 [1, 2] 23
  have hs := rsamen_any _ _ c11 2 [1, 2] _ h1 (by simpa using h2) (by decide)
  clear hb hes h1 h2 HM1
  go_wp2_with fail
  refine hs.mono ?_
  rintro e w12 ⟨rfl, hb⟩
  replace HB := Lib.hid (ext HB.out hb)
  clear hb hs
  go_wp2_with fail
  go_ret
  exact ⟨rfl, HB.out⟩
end Go.Proofs.Ytpipindifeklbaa
