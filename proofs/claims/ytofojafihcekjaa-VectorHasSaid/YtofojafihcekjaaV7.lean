/- Vectors: the walk of the law on lists of generations: it answers true, for every vector and every list that lies in memory. No other condition. -/
import Derived.Test.YtofojafihcekjaaV6
namespace Go.Proofs.Ytofojafihcekjaa
open Go.RowKit

theorem any_more {α : Type} (p : α → Bool) (l : List α) (k : Nat) (h : k < l.length) : (l.take (k + 1)).any p = ((l.take k).any p || p l[k]) := by
  rw [take_snoc l k h, List.any_append]; simp

set_option maxRecDepth 100000 in
set_option maxHeartbeats 4000000 in
theorem has_law (c b o p : Int) (A : Option Addr) (n : Nat) (l : List Int) (w : World) (h : Es (Value.int .u64) w w.heap.size A l) : Calls Try.prog 4 #[vecV c b o p, .slice A l.length n] w (Yes w) := by
  have B0 := Lib.hid ((Boxs.nil w).lay [.int .u64 c, .int .u64 b, .int .u64 o, .int .u64 p] 25)
  have H0 := Lib.hid (below1 (w := w) (o := .cells #[.int .u64 c, .int .u64 b, .int .u64 o, .int .u64 p] 25))
  have HE := Lib.hid h; clear h
  by_cases hl : 100 < (l.length : Int)
  · go_enter Try.func4, Try.ntmps4
    go_wp2_with fail
    refine (alive_any _).mono ?_
    rintro e w1 ⟨rfl, hb⟩
    have H1 := Lib.hid (ext H0.out hb)
    clear hb B0 H0
    go_wp2_with fail
    go_ret
    exact ⟨rfl, H1.out⟩
  · have hm : l.length ≤ maxLen := by unfold maxLen; omega
    have HM := Lib.hid hm; clear hm
    go_enter Try.func4, Try.ntmps4
    go_wp2_with fail
    refine (alive_any _).mono ?_
    rintro e w1 ⟨rfl, hb⟩
    have B1 := Lib.hid (B0.out.up hb)
    have H1 := Lib.hid (ext H0.out hb)
    clear hb B0 H0
    have HE1 := Lib.hid (HE.out.up H1.out); clear HE
    go_wp2_with fail
    go_loopw [5, 6] (fun al i wr => ∃ k : Nat, k ≤ l.length ∧ i = .int .i64 k ∧ al = .bool (!((l.take k).any (missB c b o p))) ∧ Hid (Below w1.heap.size w1 wr)) (fun _ i _ => l.length - (intOf i).toNat)
    case atStart => exact ⟨0, by omega, rfl, by simp, Below.refl _ _⟩
    case round =>
      obtain ⟨k, hk, rfl, rfl, HB⟩ := hrel
      by_cases hlt : k < l.length
      · obtain ⟨a1, rfl, hb1, hc1⟩ := (HE1.out.below HB.out HB.out.size) k l[k] (List.getElem?_eq_getElem hlt)
        have hs := any_more (missB c b o p) l k hlt
        have hpl := fun w => place_any c b o p l[k] w
        have hmb : missB c b o p l[k] = decide (placeI c b o p l[k] < 0) := rfl
        generalize l[k] = x at *
        have hkeep : ∀ w', Below wr.heap.size wr w' → (∀ j, w'.cell? ⟨w.heap.size, j, none⟩ = [Value.int .u64 c, .int .u64 b, .int .u64 o, .int .u64 p][j]?) ∧ w'.cell? (a1.add k) = some (.int .u64 x) := fun w' hb =>
          ⟨(((B1.out.up HB.out).up hb).hd).cell, (hb.cell (p := a1.add k) (by rw [add_block]; exact hb1)).trans hc1⟩
        have HK := Lib.hid hkeep; clear hkeep
        have HP := Lib.hid hpl; clear hpl
        have HS := Lib.hid hs; clear hs
        clear hb1 hc1
        generalize (l.take k).any (missB c b o p) = al at *
        cases al with
        | true =>
          rw [show (!true) = false from rfl]
          go_wp2_with fail
          go_quiet (fail)
          go_wp2_with fail
          go_roundw
          case rel => exact ⟨k + 1, by omega, by go_num, by rw [HS.out]; rfl, ext_drewN HB.out _⟩
          case measure => simp [intOf]; omega
        | false =>
          by_cases hr : placeI c b o p x < 0
          · rw [decide_eq_true hr] at hmb
            have hd : placeI c b o p x < 0 := hr
            have HM2 := Lib.hid hmb; clear hmb
            clear hr
            generalize placeI c b o p x = r at *
            rw [show (!false) = true from rfl]
            go_wp2_with fail
            go_region_held3 (fun w' => Below wr.heap.size wr w' ∧ (∀ j, w'.cell? ⟨w.heap.size, j, none⟩ = [Value.int .u64 c, .int .u64 b, .int .u64 o, .int .u64 p][j]?) ∧ w'.cell? (a1.add k) = some (.int .u64 x))
              (first | exact ⟨(Below.refl _ _).drew, HK.out _ (Below.refl _ _).drew⟩ | exact ⟨by assumption, HK.out _ (by assumption)⟩)
              (first
                | (go_at_call 16; obtain ⟨hcur, _⟩ := ‹Below wr.heap.size wr _ ∧ _›; refine (HP.out _).mono ?_; rintro e w6 ⟨rfl, hb6⟩; have hB := ext hcur hb6))
            all_goals
              obtain ⟨hcur, _⟩ := ‹Below wr.heap.size wr _ ∧ _›
              go_wp2_with fail
              go_roundw
              case rel => exact ⟨k + 1, by omega, by go_num, by rw [HS.out, HM2.out, decide_eq_false (show ¬ 0 ≤ r by omega)]; rfl, ext HB.out hcur⟩
              case measure => simp [intOf]; omega
          · rw [decide_eq_false hr] at hmb
            have hd : 0 ≤ placeI c b o p x := (Int.not_lt.1 hr)
            have HM2 := Lib.hid hmb; clear hmb
            clear hr
            generalize placeI c b o p x = r at *
            rw [show (!false) = true from rfl]
            go_wp2_with fail
            go_region_held3 (fun w' => Below wr.heap.size wr w' ∧ (∀ j, w'.cell? ⟨w.heap.size, j, none⟩ = [Value.int .u64 c, .int .u64 b, .int .u64 o, .int .u64 p][j]?) ∧ w'.cell? (a1.add k) = some (.int .u64 x))
              (first | exact ⟨(Below.refl _ _).drew, HK.out _ (Below.refl _ _).drew⟩ | exact ⟨by assumption, HK.out _ (by assumption)⟩)
              (first
                | (go_at_call 16; obtain ⟨hcur, _⟩ := ‹Below wr.heap.size wr _ ∧ _›; refine (HP.out _).mono ?_; rintro e w6 ⟨rfl, hb6⟩; have hB := ext hcur hb6))
            all_goals
              obtain ⟨hcur, _⟩ := ‹Below wr.heap.size wr _ ∧ _›
              go_wp2_with fail
              go_roundw
              case rel => exact ⟨k + 1, by omega, by go_num, by rw [HS.out, HM2.out]; rfl, ext HB.out hcur⟩
              case measure => simp [intOf]; omega
      · obtain rfl : k = l.length := by omega
        rw [List.take_length]
        have hha := fun (w : World) (h : Es (Value.int .u64) w w.heap.size A l) => has_any A n l c b o p w h HM.out
        have hrh := fun (w : World) (h : Es (Value.int .u64) w w.heap.size A l) => rhas_any A n l c b o p w h HM.out
        unfold hasAll at hha hrh
        have HHA := Lib.hid hha; clear hha
        have HRH := Lib.hid hrh; clear hrh
        generalize (!(l.any (missB c b o p))) = al at *
        have hkeep : ∀ w', Below wr.heap.size wr w' → (∀ j, w'.cell? ⟨w.heap.size, j, none⟩ = [Value.int .u64 c, .int .u64 b, .int .u64 o, .int .u64 p][j]?) := fun w' hb => (((B1.out.up HB.out).up hb).hd).cell
        have HK := Lib.hid hkeep; clear hkeep
        have HE2 := Lib.hid (HE1.out.up HB.out)
        go_wp2_with fail
        go_region_held3 (fun w' => Below wr.heap.size wr w' ∧ (∀ j, w'.cell? ⟨w.heap.size, j, none⟩ = [Value.int .u64 c, .int .u64 b, .int .u64 o, .int .u64 p][j]?))
          (first | exact ⟨(Below.refl _ _).drew, HK.out _ (Below.refl _ _).drew⟩ | exact ⟨by assumption, HK.out _ (by assumption)⟩)
          (first
            | (go_at_call 18; obtain ⟨hcur, _⟩ := ‹Below wr.heap.size wr _ ∧ _›; refine (HHA.out _ (HE2.out.up hcur)).mono ?_; rintro e w6 ⟨rfl, hb6⟩; have hB := ext hcur hb6)
            | (go_at_call 19; obtain ⟨hcur, _⟩ := ‹Below wr.heap.size wr _ ∧ _›; refine (HRH.out _ (HE2.out.up hcur)).mono ?_; rintro e w6 ⟨rfl, hb6⟩; have hB := ext hcur hb6))
        all_goals
          obtain ⟨hcur, _⟩ := ‹Below wr.heap.size wr _ ∧ _›
          go_wp2_with fail
          go_ret
          exact ⟨rfl, ext H1.out (ext HB.out hcur)⟩
end Go.Proofs.Ytofojafihcekjaa
