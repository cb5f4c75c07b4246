/- Masks: the union of lists by the document's way, for every list that lies in memory. No other condition. -/
import Derived.Test.YtjdcpcfjekfdeaaM5
namespace Go.Proofs.Ytjdcpcfjekfdeaa
open Go.RowKit

set_option maxHeartbeats 1000000 in
theorem runion_any (A : Option Addr) (c : Nat) (l : List Nat) (w : World) (h : Cs .u32 w w.heap.size A (l.map fun (x : Nat) => (x : Int))) (hlt2 : ∀ x ∈ l, x < 4294967296) (hm : l.length ≤ maxLen) :
    Calls Try.prog 26 #[.slice A l.length c] w fun e w' => e = .returned (.int .u32 (uniB l : Nat)) ∧ Below w.heap.size w w' := by
  unfold maxLen at hm
  have H1 := Lib.hid h; clear h
  have H2 := Lib.hid hlt2; clear hlt2
  go_enter Try.func26, Try.ntmps26
  go_wp2
  go_loopw [3, 4] (fun m i wr => ∃ k : Nat, k ≤ l.length ∧ i = .int .i64 k ∧ m = .int .u32 (uniB (l.take k) : Nat) ∧ Below w.heap.size w wr) (fun _ i _ => l.length - (intOf i).toNat)
  case atStart => exact ⟨0, by omega, rfl, rfl, Below.refl _ _⟩
  case round =>
    obtain ⟨k, hk, rfl, rfl, hb⟩ := hrel
    by_cases hlt : k < l.length
    · obtain ⟨a1, rfl, hb1, hc1⟩ := (H1.out.below hb (Nat.le_refl _)) k (l[k] : Int) (by simp [hlt])
      have hs : uniB (l.take (k + 1)) = uniB (l.take k) ||| l[k] := by rw [take_snoc l k hlt, uniB_snoc]
      have hq := uniB_lt (l.take k) fun x hx => H2.out x (List.mem_of_mem_take hx)
      have hx := H2.out _ (List.getElem_mem hlt)
      generalize l[k] = x at *
      generalize uniB (l.take k) = q at *
      rw [← setB_bl q x hx] at hs
      have HS := Lib.hid hs; clear hs
      have HB := Lib.hid hb; clear hb
      have hle := bl_length_le 32 x
      go_wp2_with fail
      refine (rlist_any x _).mono ?_
      rintro e w1 ⟨A2, c2, rfl, hm2, hs2, hb2⟩
      have HM2 := Lib.hid hm2; clear hm2
      have HC2 := Lib.hid hs2; clear hs2
      generalize bl 32 x = y at *
      go_wp2_with fail
      refine (rset_any q A2 c2 y _ _ hq HC2.out HM2.out).mono ?_
      rintro e w2 ⟨rfl, rfl⟩
      go_wp2_with fail
      go_roundw
      case rel => exact ⟨k + 1, by omega, by go_num, by rw [HS.out], HB.out.trans (hb2.mono HB.out.size)⟩
      case measure => simp [intOf]; omega
    · obtain rfl : k = l.length := by omega
      rw [List.take_length]
      go_wp2
      go_ret
      exact ⟨rfl, hb⟩

end Go.Proofs.Ytjdcpcfjekfdeaa
