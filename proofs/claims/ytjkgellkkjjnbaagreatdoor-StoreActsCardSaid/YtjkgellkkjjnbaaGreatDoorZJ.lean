/- Stores, layer 15, in plain words: the law's fixed example. No condition. -/
import Derived.Test.YtjkgellkkjjnbaaGreatDoorZX
namespace Go.Proofs.YtjkgellkkjjnbaaGreatDoor
open Go.RowKit

/-- Its eight bytes, and its superblock. -/
def d8 : ByteArray := ⟨#[97, 98, 99, 100, 101, 102, 103, 104]⟩
def q8 : Sup := ⟨3, 8, 0, 0, 0, false, false, false⟩
def x0 : Sto := newS 3
def x1 : Sto := (x0.mark 2).1
def x2 : Sto := (x1.put 2 d8).1
def x4 : Sto := (x2.wipe 2).1
def x5 : Sto := (x4.commit q8).1
def x6 : Sto := (x5.join 5).1

theorem x0_whole : Whole 3 x0 := whole_new (by decide) (by decide)
theorem x1_live : x1.x = false := by kernel_rfl
theorem x1_whole : Whole 3 x1 := (goes_mark x0_whole 2).live x1_live
theorem x2_live : x2.x = false := by kernel_rfl
theorem x2_whole : Whole 3 x2 := (goes_put x1_whole 2 d8).live x2_live
theorem x4_live : x4.x = false := by kernel_rfl
theorem x4_whole : Whole 3 x4 := (goes_wipe x2_whole 2).live x4_live
theorem q8_wide : q8.wide := by unfold Sup.wide q8; simp
theorem x5_live : x5.x = false := by kernel_rfl
theorem x5_whole : Whole 3 x5 := (goes_commit x4_whole q8_wide).live x5_live
theorem x6_live : x6.x = false := by kernel_rfl
theorem x6_whole : Whole 3 x6 := (goes_join x5_whole 5).live x6_live

theorem x1_e : (x0.mark 2).2 = 0 := by kernel_rfl
theorem x2_e : (x1.put 2 d8).2 = 0 := by kernel_rfl
theorem x4_e : (x2.wipe 2).2 = 0 := by kernel_rfl
theorem x5_e : (x4.commit q8).2 = 0 := by kernel_rfl
theorem x6_e : (x5.join 5).2 = 0 := by kernel_rfl
theorem x2_c : x2.c = [] := by kernel_rfl
theorem x2_f : x2.f = 0 := by kernel_rfl
theorem x2_m : x2.m = 4 := by kernel_rfl
theorem x2_read : x2.read 2 = (d8, 0) := by kernel_rfl
theorem x4_m : x4.m = 0 := by kernel_rfl
theorem x4_c : x4.c.length = 1 := by kernel_rfl
theorem x5_b : x5.b.c = 8 := by kernel_rfl
theorem x5_c : x5.c = [] := by kernel_rfl
theorem x6_m : x6.m = 5 := by kernel_rfl
theorem x0_out : x0.mark 3 = (x0, 4) := by
  unfold Sto.mark
  rw [if_pos (by kernel_rfl)]
theorem x0_c : x0.c = [] := rfl
theorem x0_f : x0.f = 0 := rfl
theorem x1_c : x1.c = [] := by kernel_rfl
theorem x1_f : x1.f = 0 := by kernel_rfl
theorem x4_f : x4.f = 0 := by kernel_rfl
theorem x5_f : x5.f = 0 := by kernel_rfl
theorem fit_of {t : Sto} (h : Whole 3 t) (hc : t.c.length ≤ 900) (hf : t.f = 0) : Fit t.s t.c t.f := h.fine.fit hc (by rw [hf]; decide)
theorem x0_fit : Fit x0.s x0.c x0.f := fit_of x0_whole (by rw [x0_c]; decide) x0_f
theorem x1_fit : Fit x1.s x1.c x1.f := fit_of x1_whole (by rw [x1_c]; decide) x1_f
theorem x2_fit : Fit x2.s x2.c x2.f := fit_of x2_whole (by rw [x2_c]; decide) x2_f
theorem x4_fit : Fit x4.s x4.c x4.f := fit_of x4_whole (by rw [x4_c]; decide) x4_f
theorem x5_fit : Fit x5.s x5.c x5.f := fit_of x5_whole (by rw [x5_c]; decide) x5_f
theorem x_other : (decide (x0.m = x1.m)) = false := by kernel_rfl
theorem bad_fit : Fit [e0, e0, e0] [] 0 := ⟨by decide, by decide, by decide, rfl, by decide, by decide⟩
theorem x_bad : attE [e0, e0, e0] [] false = 2 := by kernel_rfl
end Go.Proofs.YtjkgellkkjjnbaaGreatDoor
