/- Disks: whether lists are the same ones, as both sides tell it, for every argument within its type; no other condition but that the lists lie in memory. -/
import Derived.Test.YtifcmpcgpcbljaaD1
namespace Go.Proofs.Ytifcmpcgpcbljaa
open Go.RowKit

theorem toList_inj {x y : ByteArray} (h : x.toList = y.toList) : x = y := by
  rw [ByteArray.toList_eq, ByteArray.toList_eq] at h
  obtain ⟨⟨a⟩⟩ := x
  obtain ⟨⟨b⟩⟩ := y
  simp only at h
  rw [h]
theorem text_eq (x y : ByteArray) : (x.toList == y.toList) = decide (x = y) := by
  by_cases h : x = y
  · subst h; simp
  · rw [decide_eq_false h]
    exact beq_eq_false_iff_ne.2 fun e => h (toList_inj e)

theorem wr_struct : Try.prog.underlying 45 = some (.struct (Try.prog.fieldsOf 45)) := by kernel_rfl
theorem wr_held : Try.prog.stoodInHeld 45 = false := by kernel_rfl
theorem wr_guard : Try.prog.eqGuardType Try.prog.depth 45 = false := by kernel_rfl

theorem wr_neq (x y : Int × ByteArray) (w : World) : (binOp .neq 45 (.agg #[.int .i64 x.1, .string x.2]) (.agg #[.int .i64 y.1, .string y.2])).run Try.prog w = .ok (.bool (!decide (x = y))) w := by
  have u3 := Try.underlying3
  have u9 := Try.underlying9
  have a3 := Try.isAgg3
  have z3 := Try.sizeOf3
  have a9 := Try.isAgg9
  have z9 := Try.sizeOf9
  rw [run_neq_struct, show (10000 : Nat) = 9999 + 1 from rfl, run_equalIn_agg w 9999 45 _ _ wr_struct wr_held]
  simp only [Program.fieldsOf, Try.underlying45]
  go_simp
  obtain ⟨a, s⟩ := x
  obtain ⟨b, t⟩ := y
  by_cases h1 : a = b
  · by_cases h2 : s = t
    · simp [h1, h2]
    · have h3 : ¬ s.toList = t.toList := fun e => h2 (toList_inj e)
      simp [h1, h2, h3]
  · simp [h1]

theorem eq_take_step {α : Type} {l1 l2 : List α} {k : Nat} (h1 : k < l1.length) (h2 : k < l2.length) (h : l1.take k = l2.take k) (he : l1[k] = l2[k]) : l1.take (k + 1) = l2.take (k + 1) := by
  rw [take_snoc l1 k h1, take_snoc l2 k h2, h, he]
theorem eq_take_no {α : Type} {l1 l2 : List α} {k : Nat} (h1 : k < l1.length) (h2 : k < l2.length) (he : l1[k] ≠ l2[k]) : l1 ≠ l2 := by
  intro h; subst h; exact he rfl
theorem eq_take_yes {α : Type} {l1 l2 : List α} (hl : l1.length = l2.length) (h : l1.take l1.length = l2.take l1.length) : l1 = l2 := by
  rw [List.take_length, hl, List.take_length] at h; exact h

set_option maxHeartbeats 400000 in
theorem eqStr_any (A1 A2 : Option Addr) (c1 c2 : Nat) (l1 l2 : List ByteArray) (w : World) (D : Nat) (h1 : Es Value.string w D A1 l1) (h2 : Es Value.string w D A2 l2) (m1 : l1.length ≤ maxLen) (_m2 : l2.length ≤ maxLen) :
    Calls Try.prog 32 #[.slice A1 l1.length c1, .slice A2 l2.length c2] w fun e w' => e = .returned (.bool (decide (l1 = l2))) ∧ ∃ n, w' = w.drewN n := by
  unfold maxLen at m1 _m2
  have H1 := Lib.hid h1; clear h1
  have H2 := Lib.hid h2; clear h2
  by_cases hl : l1.length = l2.length
  · have HL := Lib.hid hl
    have hli : ((l1.length : Int) == (l2.length : Int)) = true := by simp [hl]
    have hnb : ((l1.length : Int) != (l2.length : Int)) = false := by simp [hl]
    clear hl
    go_enter Try.func32, Try.ntmps32
    go_wp2
    go_loopw [5, 13] (fun _ i wr => ∃ k n : Nat, k ≤ l1.length ∧ i = .int .i64 k ∧ Hid (l1.take k = l2.take k) ∧ wr = w.drewN n) (fun _ i _ => l1.length - (intOf i).toNat)
    case atStart => exact ⟨0, 0, by omega, rfl, by simp [Hid], rfl⟩
    case round =>
      obtain ⟨k, n, hk, rfl, hp, rfl⟩ := hrel
      by_cases hlt : k < l1.length
      · have hlt2 : k < l2.length := by rw [← HL.out]; exact hlt
        obtain ⟨a1, rfl, hb1, hc1⟩ := H1.out k l1[k] (List.getElem?_eq_getElem hlt)
        obtain ⟨a2, rfl, hb2, hc2⟩ := H2.out k l2[k] (List.getElem?_eq_getElem hlt2)
        have hs := eq_take_step hlt hlt2 hp.out
        have hh := eq_take_no hlt hlt2
        have HS := Lib.hid hs; clear hs
        have HH := Lib.hid hh; clear hh
        clear hp
        generalize l1[k] = x at *
        generalize l2[k] = y at *
        by_cases hxy : x = y
        · have he : (x.toList == y.toList) = true := by rw [text_eq, decide_eq_true hxy]
          have HX := Lib.hid hxy; clear hxy
          go_wp2
          go_quiet (fail)
          go_wp2
          go_roundw
          case rel => exact ⟨k + 1, _, by omega, by go_num, HS.out HX.out, rfl⟩
          case measure => simp [intOf]; omega
        · have he : (x.toList == y.toList) = false := by rw [text_eq, decide_eq_false hxy]
          have hne := HH.out hxy
          have HN := Lib.hid hne; clear hne
          clear hxy HH HS
          go_wp2
          go_quiet (fail)
          go_wp2
          go_ret
          exact ⟨ret_bool (by rw [decide_eq_false HN.out]), _, World.drewN_drewN _ _ _⟩
      · obtain rfl : k = l1.length := by omega
        have hq := eq_take_yes HL.out hp.out
        have HQ := Lib.hid hq; clear hq
        clear hp
        go_wp2
        go_ret
        exact ⟨ret_bool (by rw [decide_eq_true HQ.out]), _, rfl⟩
  · have hne : l1 ≠ l2 := fun e => hl (by rw [e])
    have hli : ((l1.length : Int) == (l2.length : Int)) = false := by rw [beq_eq_false_iff_ne]; omega
    have hnb : ((l1.length : Int) != (l2.length : Int)) = true := by simp [bne, hli]
    have HN := Lib.hid hne; clear hne
    clear hl
    go_enter Try.func32, Try.ntmps32
    go_wp2
    go_ret
    exact ⟨ret_bool (by rw [decide_eq_false HN.out]), 0, rfl⟩

set_option maxHeartbeats 400000 in
theorem eqWr_any (A1 A2 : Option Addr) (c1 c2 : Nat) (l1 l2 : List (Int × ByteArray)) (w : World) (D : Nat) (h1 : Ws w D A1 l1) (h2 : Ws w D A2 l2) (m1 : l1.length ≤ maxLen) (_m2 : l2.length ≤ maxLen) :
    Calls Try.prog 33 #[.slice A1 l1.length c1, .slice A2 l2.length c2] w fun e w' => e = .returned (.bool (decide (l1 = l2))) ∧ ∃ n, w' = w.drewN n := by
  unfold maxLen at m1 _m2
  have hgd := wr_guard
  have H1 := Lib.hid h1; clear h1
  have H2 := Lib.hid h2; clear h2
  by_cases hl : l1.length = l2.length
  · have HL := Lib.hid hl
    have hli : ((l1.length : Int) == (l2.length : Int)) = true := by simp [hl]
    have hnb : ((l1.length : Int) != (l2.length : Int)) = false := by simp [hl]
    clear hl
    go_enter Try.func33, Try.ntmps33
    go_wp2
    go_loopw [5, 13] (fun _ i wr => ∃ k n : Nat, k ≤ l1.length ∧ i = .int .i64 k ∧ Hid (l1.take k = l2.take k) ∧ wr = w.drewN n) (fun _ i _ => l1.length - (intOf i).toNat)
    case atStart => exact ⟨0, 0, by omega, rfl, by simp [Hid], rfl⟩
    case round =>
      obtain ⟨k, n, hk, rfl, hp, rfl⟩ := hrel
      by_cases hlt : k < l1.length
      · have hlt2 : k < l2.length := by rw [← HL.out]; exact hlt
        obtain ⟨a1, rfl, hb1, hc1, hd1⟩ := H1.out k l1[k] (List.getElem?_eq_getElem hlt)
        obtain ⟨a2, rfl, hb2, hc2, hd2⟩ := H2.out k l2[k] (List.getElem?_eq_getElem hlt2)
        have hs := eq_take_step hlt hlt2 hp.out
        have hh := eq_take_no hlt hlt2
        have HS := Lib.hid hs; clear hs
        have HH := Lib.hid hh; clear hh
        clear hp
        generalize l1[k] = x at *
        generalize l2[k] = y at *
        have hq := wr_neq x y
        by_cases hxy : x = y
        · rw [decide_eq_true hxy] at hq
          have HX := Lib.hid hxy; clear hxy
          go_wp2
          go_quiet (fail)
          go_wp2
          go_roundw
          case rel => exact ⟨k + 1, _, by omega, by go_num, HS.out HX.out, rfl⟩
          case measure => simp [intOf]; omega
        · rw [decide_eq_false hxy] at hq
          have hne := HH.out hxy
          have HN := Lib.hid hne; clear hne
          clear hxy HH HS
          go_wp2
          go_quiet (fail)
          go_wp2
          go_ret
          exact ⟨ret_bool (by rw [decide_eq_false HN.out]), _, World.drewN_drewN _ _ _⟩
      · obtain rfl : k = l1.length := by omega
        have hq := eq_take_yes HL.out hp.out
        have HQ := Lib.hid hq; clear hq
        clear hp
        go_wp2
        go_ret
        exact ⟨ret_bool (by rw [decide_eq_true HQ.out]), _, rfl⟩
  · have hne : l1 ≠ l2 := fun e => hl (by rw [e])
    have hli : ((l1.length : Int) == (l2.length : Int)) = false := by rw [beq_eq_false_iff_ne]; omega
    have hnb : ((l1.length : Int) != (l2.length : Int)) = true := by simp [bne, hli]
    have HN := Lib.hid hne; clear hne
    clear hl
    go_enter Try.func33, Try.ntmps33
    go_wp2
    go_ret
    exact ⟨ret_bool (by rw [decide_eq_false HN.out]), 0, rfl⟩
end Go.Proofs.Ytifcmpcgpcbljaa
