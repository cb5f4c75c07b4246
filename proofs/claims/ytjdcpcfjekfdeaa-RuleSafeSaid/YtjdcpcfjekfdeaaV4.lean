/- Vectors: whether all of some generations have places, on both sides, for every vector and every list that lies in memory. No other condition. -/
import Derived.Test.YtjdcpcfjekfdeaaV3
import Derived.Deep.RegionHeld3
namespace Go.Proofs.Ytjdcpcfjekfdeaa
open Go.RowKit

/-- Has it no place? Have all of them? -/
def missB (c b o p g : Int) : Bool := decide (placeI c b o p g < 0)
def hasAll (c b o p : Int) (l : List Int) : Bool := !(l.any (missB c b o p))

set_option maxHeartbeats 400000 in
theorem miss_any (q : Nat) (c b o p g : Int) (w : World) (hx : Box w q [.int .u64 c, .int .u64 b, .int .u64 o, .int .u64 p]) :
    Calls Try.prog 40 #[.int .u64 g, .pointer (some ⟨q, 0, none⟩)] w fun e w' => e = .returned (.bool (missB c b o p g)) ∧ Below w.heap.size w w' := by
  unfold missB
  have hp := fun w => place_any c b o p g w
  generalize placeI c b o p g = r at *
  have k := hx.cell
  clear hx
  go_enter Try.func40, Try.ntmps40
  go_wp2_with fail
  refine (hp _).mono ?_
  rintro e w1 ⟨rfl, hb1⟩
  have HB := Lib.hid hb1; clear hb1
  go_wp2_with fail
  go_ret
  exact ⟨rfl, HB.out⟩

set_option maxHeartbeats 1000000 in
theorem idxMiss_any (A : Option Addr) (n : Nat) (l : List Int) (q : Nat) (c b o p : Int) (w : World) (h : Es (Value.int .u64) w w.heap.size A l) (hm : l.length ≤ maxLen) (hx : Box w q [.int .u64 c, .int .u64 b, .int .u64 o, .int .u64 p]) :
    Calls Try.prog 44 #[.slice A l.length n, .func (.func 40) #[] #[.pointer (some ⟨q, 0, none⟩)]] w fun e w' => (∃ i : Int, e = .returned (.int .i64 i) ∧ decide (0 ≤ i) = l.any (missB c b o p)) ∧ Below w.heap.size w w' := by
  unfold maxLen at hm
  have H1 := Lib.hid h; clear h
  have HC := Lib.hid hx; clear hx
  go_enter Try.func44, Try.ntmps44
  go_wp2
  go_loopw [5, 8] (fun _ i wr => ∃ k : Nat, k ≤ l.length ∧ i = .int .i64 k ∧ Hid ((l.take k).any (missB c b o p) = false) ∧ Hid (Below w.heap.size w wr)) (fun _ i _ => l.length - (intOf i).toNat)
  case atStart => exact ⟨0, by omega, rfl, by simp [Hid], Below.refl _ _⟩
  case round =>
    obtain ⟨k, hk, rfl, hp, HB⟩ := hrel
    by_cases hlt : k < l.length
    · obtain ⟨a1, rfl, hb1, hc1⟩ := (H1.out.below HB.out HB.out.size) k l[k] (List.getElem?_eq_getElem hlt)
      have hs := any_take (missB c b o p) l k hlt hp.out
      have hh := any_hit (missB c b o p) l k hlt
      have HS := Lib.hid hs; clear hs
      have HH := Lib.hid hh; clear hh
      have hq := miss_any q c b o p l[k] wr (HC.out.below HB.out)
      clear hp
      generalize l[k] = x at *
      cases hx : missB c b o p x with
      | true =>
        rw [hx] at hq
        go_wp2_with fail
        refine hq.mono ?_
        rintro e w2 ⟨rfl, hb2⟩
        have HB2 := Lib.hid hb2; clear hb2
        go_wp2_with fail
        go_ret
        exact ⟨⟨_, rfl, by rw [HH.out hx]; simp⟩, ext HB.out HB2.out⟩
      | false =>
        rw [hx] at hq
        go_wp2_with fail
        refine hq.mono ?_
        rintro e w2 ⟨rfl, hb2⟩
        have HB2 := Lib.hid hb2; clear hb2
        go_wp2_with fail
        go_roundw
        case rel => exact ⟨k + 1, by omega, by go_num, by unfold Hid; rw [HS.out, hx], ext HB.out HB2.out⟩
        case measure => simp [intOf]; omega
    · obtain rfl : k = l.length := by omega
      rw [List.take_length] at hp
      go_wp2
      go_ret
      exact ⟨⟨_, rfl, by rw [hp.out]; rfl⟩, HB.out⟩

set_option maxHeartbeats 400000 in
theorem conMiss_any (A : Option Addr) (n : Nat) (l : List Int) (q : Nat) (c b o p : Int) (w : World) (h : Es (Value.int .u64) w w.heap.size A l) (hm : l.length ≤ maxLen) (hx : Box w q [.int .u64 c, .int .u64 b, .int .u64 o, .int .u64 p]) :
    Calls Try.prog 42 #[.slice A l.length n, .func (.func 40) #[] #[.pointer (some ⟨q, 0, none⟩)]] w fun e w' => e = .returned (.bool (l.any (missB c b o p))) ∧ Below w.heap.size w w' := by
  have hi := idxMiss_any A n l q c b o p w h hm hx
  generalize l.any (missB c b o p) = v at *
  clear h hx
  go_enter Try.func42, Try.ntmps42
  go_wp2_with fail
  refine hi.mono ?_
  rintro e w1 ⟨⟨i, rfl, hq⟩, hbb⟩
  clear hi
  have HI := Lib.hid hq; clear hq
  have HB := Lib.hid hbb; clear hbb
  go_wp2_with fail
  go_ret
  exact ⟨ret_bool HI.out, HB.out⟩

set_option maxHeartbeats 400000 in
theorem vhas_any (A : Option Addr) (n : Nat) (l : List Int) (c b o p : Int) (w : World) (h : Es (Value.int .u64) w w.heap.size A l) (hm : l.length ≤ maxLen) :
    Calls Try.prog 34 #[vecV c b o p, .slice A l.length n] w fun e w' => e = .returned (.bool (hasAll c b o p l)) ∧ Below w.heap.size w w' := by
  unfold hasAll
  have hi := conMiss_any A n l w.heap.size c b o p _ (h.up below1) hm (Box.new w [.int .u64 c, .int .u64 b, .int .u64 o, .int .u64 p] 25)
  generalize l.any (missB c b o p) = v at *
  clear h
  go_enter Try.func34, Try.ntmps34
  go_wp2_with fail
  refine hi.mono ?_
  rintro e w1 ⟨rfl, hbb⟩
  clear hi
  have HB := Lib.hid hbb; clear hbb
  go_wp2_with fail
  go_ret
  exact ⟨rfl, ext below1 HB.out⟩
end Go.Proofs.Ytjdcpcfjekfdeaa
