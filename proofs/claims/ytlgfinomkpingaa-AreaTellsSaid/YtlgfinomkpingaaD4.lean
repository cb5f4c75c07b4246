/- Disks: whether one may be, as both sides tell it, for every disk. No other condition but that its lists lie in memory. -/
import Derived.Test.YtlgfinomkpingaaD3
namespace Go.Proofs.Ytlgfinomkpingaa
open Go.RowKit

/-- May it be? -/
def rightB (s : List ByteArray) (c : List (Int × ByteArray)) (f : Int) : Bool :=
  !(decide ((s.length : Int) < 1) || decide (64 < (s.length : Int)) || decide (f < 0) || s.any longS) && !(c.any (misfitW s.length))

theorem right_of {s : List ByteArray} {c : List (Int × ByteArray)} {f : Int} (h : rightB s c f = true) :
    1 ≤ s.length ∧ s.length ≤ 64 ∧ 0 ≤ f ∧ s.any longS = false ∧ c.any (misfitW s.length) = false := by
  unfold rightB at h
  simp only [Bool.and_eq_true, Bool.not_eq_true', Bool.or_eq_false_iff, decide_eq_false_iff_not] at h
  obtain ⟨⟨⟨⟨h1, h2⟩, h3⟩, h4⟩, h5⟩ := h
  exact ⟨by omega, by omega, by omega, h4, h5⟩

theorem Ws.up {w w' : World} {A : Option Addr} {l : List (Int × ByteArray)} (h : Ws w w.heap.size A l) (hb : Below w.heap.size w w') : Ws w' w'.heap.size A l := h.below hb hb.size

theorem misfit_lo {n : Nat} {x : Int × ByteArray} (h : x.1 < 0) : misfitW n x = true := by unfold misfitW; rw [decide_eq_true h]; rfl
theorem misfit_hi {n : Nat} {x : Int × ByteArray} (h : (n : Int) ≤ x.1) : misfitW n x = true := by unfold misfitW; rw [decide_eq_true h]; simp
theorem misfit_long {n : Nat} {x : Int × ByteArray} (h : 64 < (x.2.size : Int)) : misfitW n x = true := by unfold misfitW longS; rw [decide_eq_true h]; simp
theorem misfit_no {n : Nat} {x : Int × ByteArray} (h0 : ¬ x.1 < 0) (h1 : ¬ (n : Int) ≤ x.1) (h2 : ¬ 64 < (x.2.size : Int)) : misfitW n x = false := by
  unfold misfitW longS; rw [decide_eq_false h0, decide_eq_false h1, decide_eq_false h2]; rfl
theorem long_yes {s : ByteArray} (h : 64 < (s.size : Int)) : longS s = true := by unfold longS; rw [decide_eq_true h]
theorem long_no {s : ByteArray} (h : ¬ 64 < (s.size : Int)) : longS s = false := by unfold longS; rw [decide_eq_false h]

theorem right_b1 {s : List ByteArray} {c : List (Int × ByteArray)} {f : Int} (h : (s.length : Int) < 1) : rightB s c f = false := by unfold rightB; rw [decide_eq_true h]; simp
theorem right_b2 {s : List ByteArray} {c : List (Int × ByteArray)} {f : Int} (h : 64 < (s.length : Int)) : rightB s c f = false := by unfold rightB; rw [decide_eq_true h]; simp
theorem right_b3 {s : List ByteArray} {c : List (Int × ByteArray)} {f : Int} (h : f < 0) : rightB s c f = false := by unfold rightB; rw [decide_eq_true h]; simp
theorem right_b4 {s : List ByteArray} {c : List (Int × ByteArray)} {f : Int} (h : s.any longS = true) : rightB s c f = false := by unfold rightB; rw [h]; simp only [Bool.or_true, Bool.not_true, Bool.false_and]
theorem right_b5 {s : List ByteArray} {c : List (Int × ByteArray)} {f : Int} (h : c.any (misfitW s.length) = true) : rightB s c f = false := by unfold rightB; rw [h]; simp only [Bool.not_true, Bool.and_false]
theorem right_b6 {s : List ByteArray} {c : List (Int × ByteArray)} {f : Int} (h0 : ¬ (s.length : Int) < 1) (h1 : ¬ 64 < (s.length : Int)) (h2 : ¬ f < 0) (h3 : s.any longS = false) (h4 : c.any (misfitW s.length) = false) : rightB s c f = true := by
  unfold rightB; rw [decide_eq_false h0, decide_eq_false h1, decide_eq_false h2, h3, h4]; rfl

set_option maxHeartbeats 2000000 in
theorem rright_any (A B : Option Addr) (n2 m2 : Nat) (s : List ByteArray) (c : List (Int × ByteArray)) (f : Int) (x : Bool) (w : World) (hs : Es Value.string w w.heap.size A s) (hc : Ws w w.heap.size B c) (mc : c.length ≤ maxLen) :
    Calls Try.prog 8 #[.agg #[.slice A s.length n2, .slice B c.length m2, .int .i64 f, .bool x]] w fun e w' => e = .returned (.bool (rightB s c f)) ∧ Below w.heap.size w w' := by
  unfold maxLen at mc
  have HS := Lib.hid hs; clear hs
  have HC := Lib.hid hc; clear hc
  by_cases h0 : (s.length : Int) < 1
  · rw [right_b1 h0]
    go_enter Try.func8, Try.ntmps8
    go_wp2
    go_ret
    exact ⟨rfl, below1⟩
  by_cases h1 : 64 < (s.length : Int)
  · rw [right_b2 h1]
    go_enter Try.func8, Try.ntmps8
    go_wp2
    go_ret
    exact ⟨rfl, below1⟩
  by_cases h2 : f < 0
  · rw [right_b3 h2]
    go_enter Try.func8, Try.ntmps8
    go_wp2
    go_ret
    exact ⟨rfl, below1⟩
  have hb4 := @right_b4 s c f
  have hb5 := @right_b5 s c f
  have hb6 := @right_b6 s c f h0 h1 h2
  generalize rightB s c f = r at *
  have HB4 := Lib.hid hb4; clear hb4
  have HB5 := Lib.hid hb5; clear hb5
  have HB6 := Lib.hid hb6; clear hb6
  go_enter Try.func8, Try.ntmps8
  go_wp2
  go_loop [3] (fun i => ∃ k : Nat, k ≤ s.length ∧ i = .int .i64 k ∧ Hid ((s.take k).any longS = false)) (fun i => s.length - (intOf i).toNat)
  case atStart => exact ⟨0, by omega, rfl, by simp [Hid]⟩
  case round =>
    obtain ⟨k, hk, rfl, hp⟩ := hrel
    by_cases hlt : k < s.length
    · obtain ⟨a1, rfl, hb1, hc1⟩ := HS.out k s[k] (List.getElem?_eq_getElem hlt)
      have hc2 := cell_past hc1
      have hs := any_take longS s k hlt hp.out
      have hh := any_hit longS s k hlt
      have HS1 := Lib.hid hs; clear hs
      have HH := Lib.hid hh; clear hh
      clear hp hc1
      generalize s[k] = y at *
      by_cases hl : 64 < (y.size : Int)
      · have hr := HB4.out (HH.out (long_yes hl))
        have HR := Lib.hid hr; clear hr
        go_wp2
        go_ret
        exact ⟨ret_bool HR.out.symm, below1⟩
      · go_wp2
        go_round
        case rel => exact ⟨k + 1, by omega, by go_num, by unfold Hid; rw [HS1.out, long_no hl]⟩
        case measure => simp [intOf]; omega
    · obtain rfl : k = s.length := by omega
      rw [List.take_length] at hp
      go_wp2
      go_loopw [4] (fun i wr => ∃ k n : Nat, k ≤ c.length ∧ i = .int .i64 k ∧ Hid ((c.take k).any (misfitW s.length) = false) ∧ wr = (w.alloc (.cells #[.slice A s.length n2, .slice B c.length m2, .int .i64 f, .bool x] 25)).drewN n) (fun i _ => c.length - (intOf i).toNat)
      case atStart => exact ⟨0, 0, by omega, rfl, by simp [Hid], rfl⟩
      case round =>
        obtain ⟨k, n, hk, rfl, hp2, rfl⟩ := hrel
        by_cases hlt2 : k < c.length
        · obtain ⟨a1, rfl, hb1, hc1, hd1⟩ := HC.out k c[k] (List.getElem?_eq_getElem hlt2)
          have hc2 := cell_past hc1
          have hd2 := cell_past hd1
          have hs := any_take (misfitW s.length) c k hlt2 hp2.out
          have hh := any_hit (misfitW s.length) c k hlt2
          have HS1 := Lib.hid hs; clear hs
          have HH := Lib.hid hh; clear hh
          clear hp2 hc1 hd1
          generalize c[k] = y at *
          obtain ⟨q, t⟩ := y
          dsimp only at *
          by_cases hl0 : q < 0
          · have hr := HB5.out (HH.out (misfit_lo hl0))
            have HR := Lib.hid hr; clear hr
            go_wp2
            go_quiet (fail)
            go_wp2
            go_ret
            exact ⟨ret_bool HR.out.symm, ext_drewN (ext_drewN below1 _) _⟩
          have hm := @misfit_no s.length (q, t) hl0
          have hd0 : decide (q < 0) = false := decide_eq_false hl0
          have hp0 : 0 ≤ q := by omega
          clear hl0
          by_cases hl1 : (s.length : Int) ≤ q
          · have hr := HB5.out (HH.out (misfit_hi hl1))
            clear hm
            have hd1 : decide ((s.length : Int) ≤ q) = true := decide_eq_true hl1
            have HR := Lib.hid hr; clear hr
            go_wp2
            go_quiet (fail)
            go_wp2
            go_ret
            exact ⟨ret_bool HR.out.symm, ext_drewN (ext_drewN below1 _) _⟩
          have hm := hm hl1
          have hd1 : decide ((s.length : Int) ≤ q) = false := decide_eq_false hl1
          have hp1 : q < (s.length : Int) := by omega
          clear hl1
          by_cases hl2 : 64 < (t.size : Int)
          · have hr := HB5.out (HH.out (misfit_long hl2))
            clear hm
            have HR := Lib.hid hr; clear hr
            go_wp2
            go_quiet (fail)
            go_wp2
            go_ret
            exact ⟨ret_bool HR.out.symm, ext_drewN (ext_drewN below1 _) _⟩
          rw [hm hl2] at HS1
          have hd2 : decide (64 < (t.size : Int)) = false := decide_eq_false hl2
          clear hm HH
          go_wp2
          go_quiet (fail)
          go_wp2
          go_roundw
          case rel => exact ⟨k + 1, _, by omega, by go_num, by unfold Hid; rw [HS1.out], rfl⟩
          case measure => simp [intOf]; omega
        · obtain rfl : k = c.length := by omega
          rw [List.take_length] at hp2
          have hr := HB6.out hp.out hp2.out
          have HR := Lib.hid hr; clear hr
          go_wp2
          go_ret
          exact ⟨ret_bool HR.out.symm, ext_drewN below1 _⟩

/-- More than is looked at? -/
def longG (s : ByteArray) : Bool := decide (100 < (s.size : Int))
def greatB (s : List ByteArray) (c : List (Int × ByteArray)) : Bool := decide (70 < (s.length : Int)) || decide (100 < (c.length : Int)) || s.any longG || c.any fun x => longG x.2
theorem great_b1 {s : List ByteArray} {c : List (Int × ByteArray)} (h : 70 < (s.length : Int)) : greatB s c = true := by unfold greatB; rw [decide_eq_true h]; simp
theorem great_b2 {s : List ByteArray} {c : List (Int × ByteArray)} (h : 100 < (c.length : Int)) : greatB s c = true := by unfold greatB; rw [decide_eq_true h]; simp
theorem great_b3 {s : List ByteArray} {c : List (Int × ByteArray)} (h : s.any longG = true) : greatB s c = true := by unfold greatB; rw [h]; simp only [Bool.or_true, Bool.true_or]
theorem great_b4 {s : List ByteArray} {c : List (Int × ByteArray)} (h : (c.any fun x => longG x.2) = true) : greatB s c = true := by unfold greatB; rw [h]; simp only [Bool.or_true]
theorem great_b5 {s : List ByteArray} {c : List (Int × ByteArray)} (h0 : ¬ 70 < (s.length : Int)) (h1 : ¬ 100 < (c.length : Int)) (h2 : s.any longG = false) (h3 : (c.any fun x => longG x.2) = false) : greatB s c = false := by
  unfold greatB; rw [decide_eq_false h0, decide_eq_false h1, h2, h3]; rfl
theorem longG_yes {s : ByteArray} (h : 100 < (s.size : Int)) : longG s = true := by unfold longG; rw [decide_eq_true h]
theorem longG_no {s : ByteArray} (h : ¬ 100 < (s.size : Int)) : longG s = false := by unfold longG; rw [decide_eq_false h]
theorem great_small {s : List ByteArray} {c : List (Int × ByteArray)} (h : greatB s c = false) : (s.length : Int) ≤ 70 ∧ (c.length : Int) ≤ 100 := by
  unfold greatB at h
  simp only [Bool.or_eq_false_iff, decide_eq_false_iff_not] at h
  omega

set_option maxHeartbeats 2000000 in
theorem great_any (A B : Option Addr) (n2 m2 : Nat) (s : List ByteArray) (c : List (Int × ByteArray)) (f : Int) (x : Bool) (w : World) (hs : Es Value.string w w.heap.size A s) (hc : Ws w w.heap.size B c) :
    Calls Try.prog 7 #[.agg #[.slice A s.length n2, .slice B c.length m2, .int .i64 f, .bool x]] w fun e w' => e = .returned (.bool (greatB s c)) ∧ Below w.heap.size w w' := by
  have HS := Lib.hid hs; clear hs
  have HC := Lib.hid hc; clear hc
  by_cases h0 : 70 < (s.length : Int)
  · rw [great_b1 h0]
    go_enter Try.func7, Try.ntmps7
    go_wp2
    go_ret
    exact ⟨rfl, below1⟩
  by_cases h1 : 100 < (c.length : Int)
  · rw [great_b2 h1]
    go_enter Try.func7, Try.ntmps7
    go_wp2
    go_ret
    exact ⟨rfl, below1⟩
  have hb3 := @great_b3 s c
  have hb4 := @great_b4 s c
  have hb5 := @great_b5 s c h0 h1
  generalize greatB s c = r at *
  have HB3 := Lib.hid hb3; clear hb3
  have HB4 := Lib.hid hb4; clear hb4
  have HB5 := Lib.hid hb5; clear hb5
  go_enter Try.func7, Try.ntmps7
  go_wp2
  go_loop [3] (fun i => ∃ k : Nat, k ≤ s.length ∧ i = .int .i64 k ∧ Hid ((s.take k).any longG = false)) (fun i => s.length - (intOf i).toNat)
  case atStart => exact ⟨0, by omega, rfl, by simp [Hid]⟩
  case round =>
    obtain ⟨k, hk, rfl, hp⟩ := hrel
    by_cases hlt : k < s.length
    · obtain ⟨a1, rfl, hb1, hc1⟩ := HS.out k s[k] (List.getElem?_eq_getElem hlt)
      have hc2 := cell_past hc1
      have hs := any_take longG s k hlt hp.out
      have hh := any_hit longG s k hlt
      have HS1 := Lib.hid hs; clear hs
      have HH := Lib.hid hh; clear hh
      clear hp hc1
      generalize s[k] = y at *
      by_cases hl : 100 < (y.size : Int)
      · have hr := HB3.out (HH.out (longG_yes hl))
        have HR := Lib.hid hr; clear hr
        go_wp2
        go_ret
        exact ⟨ret_bool HR.out.symm, below1⟩
      · go_wp2
        go_round
        case rel => exact ⟨k + 1, by omega, by go_num, by unfold Hid; rw [HS1.out, longG_no hl]⟩
        case measure => simp [intOf]; omega
    · obtain rfl : k = s.length := by omega
      rw [List.take_length] at hp
      go_wp2
      go_loop [4] (fun i => ∃ k : Nat, k ≤ c.length ∧ i = .int .i64 k ∧ Hid (((c.take k).any fun x => longG x.2) = false)) (fun i => c.length - (intOf i).toNat)
      case atStart => exact ⟨0, by omega, rfl, by simp [Hid]⟩
      case round =>
        obtain ⟨k, hk, rfl, hp2⟩ := hrel
        by_cases hlt2 : k < c.length
        · obtain ⟨a1, rfl, hb1, hc1, hd1⟩ := HC.out k c[k] (List.getElem?_eq_getElem hlt2)
          have hd2 := cell_past hd1
          have hs := any_take (fun x => longG x.2) c k hlt2 hp2.out
          have hh := any_hit (fun x => longG x.2) c k hlt2
          have HS1 := Lib.hid hs; clear hs
          have HH := Lib.hid hh; clear hh
          clear hp2 hc1 hd1
          generalize c[k] = y at *
          obtain ⟨q, t⟩ := y
          dsimp only at *
          by_cases hl : 100 < (t.size : Int)
          · have hr := HB4.out (HH.out (longG_yes hl))
            have HR := Lib.hid hr; clear hr
            go_wp2
            go_ret
            exact ⟨ret_bool HR.out.symm, below1⟩
          · go_wp2
            go_round
            case rel => exact ⟨k + 1, by omega, by go_num, by unfold Hid; rw [HS1.out, longG_no hl]⟩
            case measure => simp [intOf]; omega
        · obtain rfl : k = c.length := by omega
          rw [List.take_length] at hp2
          have hr := HB5.out hp.out hp2.out
          have HR := Lib.hid hr; clear hr
          go_wp2
          go_ret
          exact ⟨ret_bool HR.out.symm, below1⟩
end Go.Proofs.Ytlgfinomkpingaa
