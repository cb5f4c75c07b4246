/- Disks: what the small functions answer, for every argument within its type; no other condition but that the lists lie in memory. -/
import Derived.Test.YtifcmpcgpcbljaaRows
import Derived.WalkKit
import Derived.WalkSpells
import Derived.WalkLawsBesides
import Derived.Handy
import Derived.Lib.Hide
import Derived.BigQuiet
import Derived.Deep.QuietTactic
import Derived.Laws.StructEq
import Derived.Shelf.Abstract
import Derived.DataElems
namespace Go.Proofs.Ytifcmpcgpcbljaa
open Go.RowKit

theorem below_drewN {B : Nat} {a w : World} (h : Below B a w) (n : Nat) : Below B a (w.drewN n) := ⟨h.os, h.tape, h.output, h.size, h.block⟩
theorem ext {a b c : World} (h : Below a.heap.size a b) (k : Below b.heap.size b c) : Below a.heap.size a c := h.trans (k.mono h.size)
theorem ext_drewN {a b : World} (h : Below a.heap.size a b) (n : Nat) : Below a.heap.size a (b.drewN n) := ⟨h.os, h.tape, h.output, h.size, h.block⟩
theorem add_block (a : Addr) (n : Nat) : (a.add n).block = a.block := by unfold Addr.add; split <;> rfl

/-- A slice of one-cell elements that reads as a list. -/
def Es {α : Type} (enc : α → Value) (w : World) (D : Nat) (A : Option Addr) (l : List α) : Prop := ∀ j x, l[j]? = some x → ∃ a, A = some a ∧ a.block < D ∧ w.cell? (a.add j) = some (enc x)
/-- A slice of writes (two cells each) that reads as a list. -/
def Ws (w : World) (D : Nat) (A : Option Addr) (l : List (Int × ByteArray)) : Prop :=
  ∀ j x, l[j]? = some x → ∃ a, A = some a ∧ a.block < D ∧ w.cell? (a.add (j * 2)) = some (.int .i64 x.1) ∧ w.cell? ⟨(a.add (j * 2)).block, (a.add (j * 2)).off + 1, none⟩ = some (.string x.2)

theorem es_nil {α : Type} (enc : α → Value) (w : World) (D : Nat) (A : Option Addr) : Es enc w D A [] := by intro j x h; simp at h
theorem ws_nil (w : World) (D : Nat) (A : Option Addr) : Ws w D A [] := by intro j x h; simp at h
theorem Es.below {α : Type} {enc : α → Value} {w w' : World} {D D' : Nat} {A : Option Addr} {l : List α} (h : Es enc w D A l) (hb : Below D w w') (hD : D ≤ D') : Es enc w' D' A l := by
  intro j x hj
  obtain ⟨a, ha, hlt, hc⟩ := h j x hj
  exact ⟨a, ha, by omega, (hb.cell (p := a.add j) (by rw [add_block]; exact hlt)).trans hc⟩
theorem Ws.below {w w' : World} {D D' : Nat} {A : Option Addr} {l : List (Int × ByteArray)} (h : Ws w D A l) (hb : Below D w w') (hD : D ≤ D') : Ws w' D' A l := by
  intro j x hj
  obtain ⟨a, ha, hlt, hc, hd⟩ := h j x hj
  exact ⟨a, ha, by omega, (hb.cell (p := a.add (j * 2)) (by rw [add_block]; exact hlt)).trans hc, (hb.cell (p := ⟨(a.add (j * 2)).block, (a.add (j * 2)).off + 1, none⟩) (by show (a.add (j * 2)).block < D; rw [add_block]; exact hlt)).trans hd⟩

theorem tooLong_any (s : ByteArray) (w : World) : Calls Try.prog 29 #[.string s] w fun e w' => e = .returned (.bool (decide (64 < (s.size : Int)))) ∧ w' = w := by
  go_enter Try.func29, Try.ntmps29
  go_wp2
  go_ret
  exact ⟨rfl, rfl⟩

/-- Too long for a sector? -/
def longS (s : ByteArray) : Bool := decide (64 < (s.size : Int))
/-- Of none of n sectors, or too long? -/
def misfitW (n : Nat) (x : Int × ByteArray) : Bool := decide (x.1 < 0) || decide ((n : Int) ≤ x.1) || longS x.2

theorem ret_bool {a b : Bool} (h : a = b) : Ending.returned (.bool a) = .returned (.bool b) := by rw [h]
theorem take_snoc {α : Type} (l : List α) (k : Nat) (h : k < l.length) : l.take (k + 1) = l.take k ++ [l[k]] := by rw [List.take_add_one, List.getElem?_eq_getElem h]; rfl
theorem any_take {α : Type} (p : α → Bool) (l : List α) (k : Nat) (h : k < l.length) (h0 : (l.take k).any p = false) : (l.take (k + 1)).any p = p l[k] := by
  rw [take_snoc l k h, List.any_append, h0]; simp
theorem any_hit {α : Type} (p : α → Bool) (l : List α) (k : Nat) (h : k < l.length) (h1 : p l[k] = true) : l.any p = true := List.any_eq_true.2 ⟨_, List.getElem_mem h, h1⟩

set_option maxHeartbeats 400000 in
theorem misfit_any (b : Nat) (n : Nat) (x : Int × ByteArray) (w : World) (hb : b < w.heap.size) (hc : w.cell? ⟨b, 0, none⟩ = some (.int .i64 n)) :
    Calls Try.prog 30 #[.agg #[.int .i64 x.1, .string x.2], .pointer (some ⟨b, 0, none⟩)] w fun e w' => e = .returned (.bool (misfitW n x)) ∧ Below w.heap.size w w' := by
  have hm : misfitW n x = (decide (x.1 < 0) || decide ((n : Int) ≤ x.1) || decide (64 < (x.2.size : Int))) := rfl
  rw [hm]
  clear hm
  go_enter Try.func30, Try.ntmps30
  go_wp2
  all_goals
    go_ret
    refine ⟨ret_bool ?_, (Below.refl _ _).alloc (Nat.le_refl _) _⟩
    simp_all

set_option maxHeartbeats 400000 in
theorem idxStr_any (A : Option Addr) (c : Nat) (l : List ByteArray) (w : World) (D : Nat) (h : Es Value.string w D A l) (hm : l.length ≤ maxLen) :
    Calls Try.prog 41 #[.slice A l.length c, .func (.func 29) #[] #[]] w fun e w' => (∃ i : Int, e = .returned (.int .i64 i) ∧ decide (0 ≤ i) = l.any longS) ∧ w' = w := by
  unfold maxLen at hm
  have H1 := Lib.hid h; clear h
  go_enter Try.func41, Try.ntmps41
  go_wp2
  go_loop [5, 8] (fun _ i => ∃ k : Nat, k ≤ l.length ∧ i = .int .i64 k ∧ Hid ((l.take k).any longS = false)) (fun _ i => l.length - (intOf i).toNat)
  case atStart => exact ⟨0, by omega, rfl, by simp [Hid]⟩
  case round =>
    obtain ⟨k, hk, rfl, hp⟩ := hrel
    by_cases hlt : k < l.length
    · obtain ⟨a1, rfl, hb1, hc1⟩ := H1.out k l[k] (List.getElem?_eq_getElem hlt)
      have hs := any_take longS l k hlt hp.out
      have hh := any_hit longS l k hlt
      have h64 : longS l[k] = decide (64 < (l[k].size : Int)) := rfl
      have HS := Lib.hid hs; clear hs
      have HH := Lib.hid hh; clear hh
      have H64 := Lib.hid h64; clear h64
      clear hp
      generalize l[k] = s at *
      by_cases hl : 64 < (s.size : Int)
      · go_wp2
        go_ret
        refine ⟨⟨_, rfl, ?_⟩, rfl⟩
        rw [HH.out (by rw [H64.out, decide_eq_true hl])]
        simp
      · go_wp2
        go_round
        case rel => exact ⟨k + 1, by omega, by go_num, by unfold Hid; rw [HS.out, H64.out, decide_eq_false hl]⟩
        case measure => simp [intOf]; omega
    · obtain rfl : k = l.length := by omega
      rw [List.take_length] at hp
      go_wp2
      go_ret
      exact ⟨⟨_, rfl, by rw [hp.out]; rfl⟩, rfl⟩

set_option maxHeartbeats 400000 in
theorem conStr_any (A : Option Addr) (c : Nat) (l : List ByteArray) (w : World) (D : Nat) (h : Es Value.string w D A l) (hm : l.length ≤ maxLen) :
    Calls Try.prog 28 #[.slice A l.length c, .func (.func 29) #[] #[]] w fun e w' => e = .returned (.bool (l.any longS)) ∧ w' = w := by
  have hi := idxStr_any A c l w D h hm
  generalize l.any longS = b at *
  go_enter Try.func28, Try.ntmps28
  go_wp2_with fail
  refine hi.mono ?_
  rintro e w1 ⟨⟨i, rfl, hq⟩, rfl⟩
  clear hi
  have HI := Lib.hid hq; clear hq
  go_wp2_with fail
  go_ret
  exact ⟨ret_bool HI.out, rfl⟩

set_option maxHeartbeats 400000 in
theorem idxWr_any (A : Option Addr) (c : Nat) (l : List (Int × ByteArray)) (b n : Nat) (w : World) (h : Ws w w.heap.size A l) (hm : l.length ≤ maxLen) (hb : b < w.heap.size) (hc : w.cell? ⟨b, 0, none⟩ = some (.int .i64 n)) :
    Calls Try.prog 42 #[.slice A l.length c, .func (.func 30) #[] #[.pointer (some ⟨b, 0, none⟩)]] w fun e w' => (∃ i : Int, e = .returned (.int .i64 i) ∧ decide (0 ≤ i) = l.any (misfitW n)) ∧ Below w.heap.size w w' := by
  unfold maxLen at hm
  have H1 := Lib.hid h; clear h
  have HC := Lib.hid hc; clear hc
  go_enter Try.func42, Try.ntmps42
  go_wp2
  go_loopw [5, 8] (fun _ i wr => ∃ k : Nat, k ≤ l.length ∧ i = .int .i64 k ∧ Hid ((l.take k).any (misfitW n) = false) ∧ Hid (Below w.heap.size w wr)) (fun _ i _ => l.length - (intOf i).toNat)
  case atStart => exact ⟨0, by omega, rfl, by simp [Hid], Below.refl _ _⟩
  case round =>
    obtain ⟨k, hk, rfl, hp, HB⟩ := hrel
    by_cases hlt : k < l.length
    · obtain ⟨a1, rfl, hb1, hc1, hd1⟩ := (H1.out.below HB.out HB.out.size) k l[k] (List.getElem?_eq_getElem hlt)
      have hs := any_take (misfitW n) l k hlt hp.out
      have hh := any_hit (misfitW n) l k hlt
      have HS := Lib.hid hs; clear hs
      have HH := Lib.hid hh; clear hh
      have hq := misfit_any b n l[k] wr (Nat.lt_of_lt_of_le hb HB.out.size) ((HB.out.cell (p := ⟨b, 0, none⟩) hb).trans HC.out)
      clear hp
      generalize l[k] = x at *
      cases hx : misfitW n x with
      | true =>
        rw [hx] at hq
        go_wp2_with fail
        refine hq.mono ?_
        rintro e w2 ⟨rfl, hb2⟩
        have HB2 := Lib.hid hb2; clear hb2
        go_wp2_with fail
        go_ret
        exact ⟨⟨_, rfl, by rw [HH.out hx]; simp⟩, ext HB.out HB2.out⟩
      | false =>
        rw [hx] at hq
        go_wp2_with fail
        refine hq.mono ?_
        rintro e w2 ⟨rfl, hb2⟩
        have HB2 := Lib.hid hb2; clear hb2
        go_wp2_with fail
        go_roundw
        case rel => exact ⟨k + 1, by omega, by go_num, by unfold Hid; rw [HS.out, hx], ext HB.out HB2.out⟩
        case measure => simp [intOf]; omega
    · obtain rfl : k = l.length := by omega
      rw [List.take_length] at hp
      go_wp2
      go_ret
      exact ⟨⟨_, rfl, by rw [hp.out]; rfl⟩, HB.out⟩

set_option maxHeartbeats 400000 in
theorem conWr_any (A : Option Addr) (c : Nat) (l : List (Int × ByteArray)) (b n : Nat) (w : World) (h : Ws w w.heap.size A l) (hm : l.length ≤ maxLen) (hb : b < w.heap.size) (hc : w.cell? ⟨b, 0, none⟩ = some (.int .i64 n)) :
    Calls Try.prog 31 #[.slice A l.length c, .func (.func 30) #[] #[.pointer (some ⟨b, 0, none⟩)]] w fun e w' => e = .returned (.bool (l.any (misfitW n))) ∧ Below w.heap.size w w' := by
  have hi := idxWr_any A c l b n w h hm hb hc
  generalize l.any (misfitW n) = v at *
  clear h hc
  go_enter Try.func31, Try.ntmps31
  go_wp2_with fail
  refine hi.mono ?_
  rintro e w1 ⟨⟨i, rfl, hq⟩, hbb⟩
  clear hi
  have HI := Lib.hid hq; clear hq
  have HB := Lib.hid hbb; clear hbb
  go_wp2_with fail
  go_ret
  exact ⟨ret_bool HI.out, HB.out⟩
end Go.Proofs.Ytifcmpcgpcbljaa
