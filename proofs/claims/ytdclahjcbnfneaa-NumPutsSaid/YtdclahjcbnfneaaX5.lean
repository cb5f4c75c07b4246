/- The walk of the law on numbers' bytes: it answers true, for every argument. No condition. -/
import Derived.Test.YtdclahjcbnfneaaX4
namespace Go.Proofs.Ytdclahjcbnfneaa
open Go.RowKit

/-- What the law answers: true, with all that was there as it was. -/
def Yes (w : World) (e : Ending) (w' : World) : Prop := e = .returned (.bool true) ∧ Below w.heap.size w w'

def num (k : Nat) (s : ByteArray) : Int := if s.size = k then (val s.data.toList : Int) else 0
def isn (k : Nat) (s : ByteArray) : Bool := decide (s.size = k)

theorem get32_any (s : ByteArray) (w : World) :
    Calls Try.prog 7 #[.string s] w fun e w' => e = .returned (.tuple #[.int .u32 (num 4 s), .bool (isn 4 s)]) ∧ ∃ n, w' = w.drewN n := by
  by_cases h : s.size = 4
  · exact (get32_yes s w h).mono fun e w' hh => by unfold num isn; rw [if_pos h, decide_eq_true h]; exact hh
  · exact (get32_no s w h).mono fun e w' hh => by unfold num isn; rw [if_neg h, decide_eq_false h]; exact hh
theorem get64_any (s : ByteArray) (w : World) :
    Calls Try.prog 9 #[.string s] w fun e w' => e = .returned (.tuple #[.int .u64 (num 8 s), .bool (isn 8 s)]) ∧ ∃ n, w' = w.drewN n := by
  by_cases h : s.size = 8
  · exact (get64_yes s w h).mono fun e w' hh => by unfold num isn; rw [if_pos h, decide_eq_true h]; exact hh
  · exact (get64_no s w h).mono fun e w' hh => by unfold num isn; rw [if_neg h, decide_eq_false h]; exact hh
theorem rget32_any (s : ByteArray) (w : World) :
    Calls Try.prog 8 #[.string s] w fun e w' => e = .returned (.tuple #[.int .u32 (num 4 s), .bool (isn 4 s)]) ∧ w' = w := by
  by_cases h : s.size = 4
  · exact (rget32_yes s w h).mono fun e w' hh => by unfold num isn; rw [if_pos h, decide_eq_true h]; exact hh
  · exact (rget32_no s w h).mono fun e w' hh => by unfold num isn; rw [if_neg h, decide_eq_false h]; exact hh
theorem rget64_any (s : ByteArray) (w : World) :
    Calls Try.prog 10 #[.string s] w fun e w' => e = .returned (.tuple #[.int .u64 (num 8 s), .bool (isn 8 s)]) ∧ w' = w := by
  by_cases h : s.size = 8
  · exact (rget64_yes s w h).mono fun e w' hh => by unfold num isn; rw [if_pos h, decide_eq_true h]; exact hh
  · exact (rget64_no s w h).mono fun e w' hh => by unfold num isn; rw [if_neg h, decide_eq_false h]; exact hh

theorem ext {a b c : World} (h : Below a.heap.size a b) (k : Below b.heap.size b c) : Below a.heap.size a c := h.trans (k.mono h.size)
theorem ext_drewN {a b : World} (h : Below a.heap.size a b) (n : Nat) : Below a.heap.size a (b.drewN n) := below_drewN h n

set_option maxHeartbeats 1000000 in
theorem puts_long (n : Int) (s : ByteArray) (w : World) (hs : 100 < (s.size : Int)) :
    Calls Try.prog 3 #[.int .u64 n, .string s] w (Yes w) := by
  go_enter Try.func3, Try.ntmps3
  go_wp2_with fail
  refine (alive_any _).mono ?_
  rintro e w1 ⟨rfl, hb1⟩
  go_wp2_with fail
  go_ret
  exact ⟨rfl, hb1⟩

set_option maxHeartbeats 1000000 in
theorem puts_short (n : Int) (s : ByteArray) (w : World) (h0 : 0 ≤ n) (h1 : n < 18446744073709551616) (hs : (s.size : Int) ≤ 100) :
    Calls Try.prog 3 #[.int .u64 n, .string s] w (Yes w) := by
  go_enter Try.func3, Try.ntmps3
  go_wp2_with fail
  refine (alive_any _).mono ?_
  rintro e w1 ⟨rfl, hb1⟩
  go_wp2_with fail
  refine (get32_any _ _).mono ?_
  rintro e w2 ⟨rfl, n2, rfl⟩
  generalize hv : num 4 s = v
  generalize hq : isn 4 s = q
  have HV := Lib.hid hv; clear hv
  have HQ := Lib.hid hq; clear hq
  go_wp2_with fail
  refine (rget32_any _ _).mono ?_
  rintro e w3 ⟨rfl, rfl⟩
  rw [HV.out, HQ.out]
  clear HV HQ
  go_wp2_with fail
  refine (get64_any _ _).mono ?_
  rintro e w2 ⟨rfl, n3, rfl⟩
  generalize hv : num 8 s = v2
  generalize hq : isn 8 s = q2
  have HV := Lib.hid hv; clear hv
  have HQ := Lib.hid hq; clear hq
  go_wp2_with fail
  refine (rget64_any _ _).mono ?_
  rintro e w3 ⟨rfl, rfl⟩
  rw [HV.out, HQ.out]
  clear HV HQ
  go_wp2_with fail
  refine (put32_any _ _ (by omega) (by omega)).mono ?_
  rintro e w4 ⟨rfl, hb4⟩
  go_wp2_with fail
  refine (rput32_any _ _ (by omega) (by omega)).mono ?_
  rintro e w5 ⟨rfl, hb5⟩
  generalize (⟨(be 4 (n % 4294967296).toNat).toArray⟩ : ByteArray) = s4
  go_wp2_with fail
  refine (put64_any _ _ (by omega) (by omega)).mono ?_
  rintro e w6 ⟨rfl, hb6⟩
  go_wp2_with fail
  refine (rput64_any _ _ (by omega) (by omega)).mono ?_
  rintro e w7 ⟨rfl, hb7⟩
  generalize (⟨(be 8 n.toNat).toArray⟩ : ByteArray) = s8
  go_wp2_with fail
  go_ret
  exact ⟨rfl, ext (ext (ext (ext (ext_drewN hb1 _) hb4) hb5) hb6) hb7⟩

theorem puts_any (n : Int) (s : ByteArray) (w : World) (h0 : 0 ≤ n) (h1 : n < 18446744073709551616) :
    Calls Try.prog 3 #[.int .u64 n, .string s] w (Yes w) := by
  by_cases h : 100 < (s.size : Int)
  · exact puts_long n s w h
  · exact puts_short n s w h0 h1 (by omega)
end Go.Proofs.Ytdclahjcbnfneaa
