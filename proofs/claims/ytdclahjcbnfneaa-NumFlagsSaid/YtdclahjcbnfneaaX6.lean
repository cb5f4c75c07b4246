/- The walk of the law on flags: it answers true, for every argument. No condition. -/
import Derived.Test.YtdclahjcbnfneaaX5
namespace Go.Proofs.Ytdclahjcbnfneaa
open Go.RowKit

def okn (b n : Int) : Bool := decide (0 ≤ n ∧ n ≤ 8 ∧ b.toNat < 2 ^ n.toNat)
def unl (b n : Int) : List Bool := if okn b n = true then unfl n.toNat b.toNat else []

/-- A slice of bools, and whether: handed back, in memory that is there. -/
def Gv (l : List Bool) (q : Bool) (w : World) (e : Ending) (w' : World) : Prop :=
  ∃ A c, e = .returned (.tuple #[.slice A l.length c, .bool q]) ∧ l.length ≤ c ∧ c ≤ maxLen ∧ Bs w' w'.heap.size A l ∧ Below w.heap.size w w'

theorem bs_nil (w : World) (B : Nat) (A : Option Addr) : Bs w B A [] := by intro k b h; simp at h

theorem gv_no {w w' : World} {e : Ending} {b n : Int} (h : okn b n = false) (he : e = .returned (.tuple #[.slice none 0 0, .bool false])) (hw : Below w.heap.size w w') : Gv (unl b n) (okn b n) w e w' := by
  unfold unl
  rw [h, if_neg (by decide)]
  exact ⟨none, 0, he, by simp, by unfold maxLen; omega, bs_nil _ _ _, hw⟩

theorem gv_yes {w w' : World} {e : Ending} {b n : Int} (h : okn b n = true) (hg : GivesBools (unfl n.toNat b.toNat) w e w') : Gv (unl b n) (okn b n) w e w' := by
  unfold unl
  rw [h, if_pos rfl]
  exact hg

theorem unflag_any (b n : Int) (w : World) (h0 : 0 ≤ b) (h1 : b < 256) : Calls Try.prog 15 #[.int .u8 b, .int .i64 n] w (Gv (unl b n) (okn b n) w) := by
  by_cases hn0 : n < 0
  · exact (unflag_low b n w hn0).mono fun e w' ⟨he, hw⟩ => gv_no (by unfold okn; simp; omega) he (by rw [hw]; exact Below.refl _ _)
  by_cases hn8 : 8 < n
  · exact (unflag_high b n w hn8).mono fun e w' ⟨he, hw⟩ => gv_no (by unfold okn; simp; omega) he (by rw [hw]; exact Below.refl _ _)
  obtain ⟨m, rfl⟩ := Int.eq_ofNat_of_zero_le (show 0 ≤ n by omega)
  by_cases hb : b.toNat < 2 ^ m
  · exact (unflag_yes b m w h0 h1 (by omega) hb).mono fun e w' hg => gv_yes (by unfold okn; simp [hb]; omega) (by rw [Int.toNat_natCast]; exact hg)
  · exact (unflag_more b m w h0 h1 (by omega) (by omega)).mono fun e w' ⟨he, hw⟩ => gv_no (by unfold okn; simp [hb]) he (by rw [hw]; exact Below.refl _ _)

theorem runflag_all (b n : Int) (w : World) (h0 : 0 ≤ b) (h1 : b < 256) : Calls Try.prog 16 #[.int .u8 b, .int .i64 n] w (Gv (unl b n) (okn b n) w) := by
  by_cases hn0 : n < 0
  · exact (runflag_low b n w hn0).mono fun e w' ⟨he, hw⟩ => gv_no (by unfold okn; simp; omega) he (by rw [hw]; exact Below.refl _ _)
  by_cases hn8 : 8 < n
  · exact (runflag_high b n w hn8).mono fun e w' ⟨he, hw⟩ => gv_no (by unfold okn; simp; omega) he (by rw [hw]; exact Below.refl _ _)
  obtain ⟨m, rfl⟩ := Int.eq_ofNat_of_zero_le (show 0 ≤ n by omega)
  refine (runflag_any b m w h0 h1 (by omega)).mono fun e w' hg => ?_
  rcases hg with ⟨hb, hg⟩ | ⟨hb, he, hw⟩
  · exact gv_yes (by unfold okn; simp [hb]; omega) (by rw [Int.toNat_natCast]; exact hg)
  · exact gv_no (by unfold okn; simp [hb]) he hw

set_option maxHeartbeats 1000000 in
theorem flags_long (A : Option Addr) (c : Nat) (l : List Bool) (b n : Int) (w : World) (hl : 100 < (l.length : Int)) :
    Calls Try.prog 4 #[.slice A l.length c, .int .u8 b, .int .i64 n] w (Yes w) := by
  go_enter Try.func4, Try.ntmps4
  go_wp2_with fail
  refine (alive_any _).mono ?_
  rintro e w1 ⟨rfl, hb1⟩
  go_wp2_with fail
  go_ret
  exact ⟨rfl, hb1⟩

set_option maxHeartbeats 1000000 in
theorem flags_short (A : Option Addr) (c : Nat) (l : List Bool) (b n : Int) (w : World) (hl : (l.length : Int) ≤ 100) (hc : l.length ≤ c) (hm : c ≤ maxLen) (hbs : Bs w w.heap.size A l) (h0 : 0 ≤ b) (h1 : b < 256) :
    Calls Try.prog 4 #[.slice A l.length c, .int .u8 b, .int .i64 n] w (Yes w) := by
  have HC := Lib.hid hc; clear hc
  have HM := Lib.hid hm; clear hm
  have HS := Lib.hid hbs; clear hbs
  go_enter Try.func4, Try.ntmps4
  go_wp2_with fail
  refine (alive_any _).mono ?_
  rintro e w1 ⟨rfl, hb1⟩
  go_wp2_with fail
  refine (unflag_any _ _ _ h0 h1).mono ?_
  generalize hq : unl b n = u
  have HU := Lib.hid hq; clear hq
  generalize hq : okn b n = q
  have HQ := Lib.hid hq; clear hq
  rintro e w2 ⟨A2, c2, rfl, hc2, hm2, hs2, hb2⟩
  have HS2 := Lib.hid hs2; clear hs2
  have HM2 := Lib.hid hm2; clear hm2
  go_wp2_with fail
  refine (runflag_all _ _ _ h0 h1).mono ?_
  rw [HU.out, HQ.out]
  rintro e w3 ⟨A3, c3, rfl, hc3, hm3, hs3, hb3⟩
  have HS3 := Lib.hid hs3; clear hs3
  have HM3 := Lib.hid hm3; clear hm3
  go_wp2_with fail
  refine (flags_any A c l _ w.heap.size (HS.out.below (hb1.trans ((hb2.mono hb1.size).trans (hb3.mono (Nat.le_trans hb1.size hb2.size)))) (Nat.le_refl _)) HC.out HM.out).mono ?_
  rintro e w4 ⟨rfl, rfl⟩
  go_wp2_with fail
  refine (rflags_any A c l _ w.heap.size (HS.out.below (hb1.trans ((hb2.mono hb1.size).trans (hb3.mono (Nat.le_trans hb1.size hb2.size)))) (Nat.le_refl _)) HC.out HM.out).mono ?_
  rintro e w5 ⟨rfl, rfl⟩
  go_wp2_with fail
  refine (same_yes _ _ _ _ u _ _ (HS2.out.below hb3 hb3.size) HS3.out (Nat.le_trans hc2 HM2.out)).mono ?_
  rintro e w6 ⟨rfl, n6, rfl⟩
  go_wp2_with fail
  go_ret
  exact ⟨rfl, ext_drewN (ext (ext hb1 hb2) hb3) n6⟩

theorem flags_law (A : Option Addr) (c : Nat) (l : List Bool) (b n : Int) (w : World) (hc : l.length ≤ c) (hm : c ≤ maxLen) (hbs : Bs w w.heap.size A l) (h0 : 0 ≤ b) (h1 : b < 256) :
    Calls Try.prog 4 #[.slice A l.length c, .int .u8 b, .int .i64 n] w (Yes w) := by
  by_cases h : 100 < (l.length : Int)
  · exact flags_long A c l b n w h
  · exact flags_short A c l b n w (by omega) hc hm hbs h0 h1
end Go.Proofs.Ytdclahjcbnfneaa
