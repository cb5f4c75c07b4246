/- The walk of the law on sealed texts: it answers true, for every argument. No condition. -/
import Derived.Test.YtmnihienhknamaaC4
import Derived.Laws.IdiomStrings
import Derived.WideShapes
namespace Go.Proofs.Ytmnihienhknamaa
open Go.RowKit
open Go.WideShapes (add_plain)

/-- What stands in a row that a text has been turned into. -/
def Lies (w : World) (g : Nat) (l : List UInt8) : Prop :=
  ∀ j, j < l.length → w.cell? ⟨g, j, none⟩ = some (.int .u8 ((l.getD j 0).toNat : Int)) ∧ w.frozen? ⟨g, j, none⟩ = false

theorem turn_bytes (s : ByteArray) (w : World) : ∃ cap w1, (convert 9 31 (.string s)).run Try.prog w = .ok (.slice (some ⟨w.heap.size, 0, none⟩) s.size cap) w1 ∧
    Below w.heap.size w w1 ∧ Lies w1 w.heap.size s.data.toList := by
  refine ⟨_, _, run_bytes_of_string (P := Try.prog) w 9 31 5 s Try.underlying9 Try.underlying31 Try.underlying5, ?_, ?_⟩
  · exact (Below.refl _ _).drew.alloc (Nat.le_refl _) _
  · intro j hj
    have hj' : j < s.data.size := by simpa using hj
    have e := World.cell?_alloc_mark w.drew
    have f := World.frozen?_alloc_mark w.drew
    constructor
    · refine (e _ _ _ j).trans ?_
      rw [bytesRow_at s _ j hj', List.getD_eq_getElem?_getD, List.getElem?_eq_getElem hj]
      rfl
    · refine (f _ _ _ _ j).trans ?_
      have hz : s.data.size ≤ (bytesRow s (grownCap w s.size 0 5)).size := by
        unfold bytesRow
        simp
      simp
      omega

theorem turn_later (s : ByteArray) (w : World) (n : Nat) : ∃ cap w1, (convert 9 31 (.string s)).run Try.prog (w.drewN n) = .ok (.slice (some ⟨w.heap.size, 0, none⟩) s.size cap) w1 ∧
    Below w.heap.size w w1 ∧ Lies w1 w.heap.size s.data.toList := by
  obtain ⟨cap, w1, h1, h2, h3⟩ := turn_bytes s (w.drewN n)
  exact ⟨cap, w1, h1, (below_drewN (Below.refl _ _) n).trans h2, h3⟩

theorem back_bytes (w : World) (g i cap : Nat) (l : List UInt8) (c : UInt8) (h : Lies w g l) (hi : i < l.length) :
    (convert 31 9 (.slice (some ⟨g, 0, none⟩) l.length cap)).run Try.prog (w.setCell ⟨g, i, none⟩ (.int .u8 (c.toNat : Int))) = .ok (.string (txt (l.set i c))) (w.setCell ⟨g, i, none⟩ (.int .u8 (c.toNat : Int))) := by
  have hb := run_convert_bytes_back (P := Try.prog) (w.setCell ⟨g, i, none⟩ (.int .u8 (c.toNat : Int))) 31 9 5 ⟨g, 0, none⟩ cap (l.set i c) Try.underlying31 Try.underlying5 Try.underlying9 (fun j hj => by
    rw [List.length_set] at hj
    rw [add_plain, Nat.zero_add]
    by_cases e : i = j
    · subst e
      rw [List.getElem_set_self]
      exact World.cell?_setCell_same _ _ _ (h i hi).1
    · rw [List.getElem_set_ne e, World.cell?_setCell_other _ _ _ _ (by simp)]
      have := (h j hj).1
      rwa [List.getD_eq_getElem?_getD, List.getElem?_eq_getElem hj] at this)
  rw [List.length_set] at hb
  exact hb

theorem whole_sealed (l : List UInt8) : whole l.length (txt (sealed l)) := by
  unfold whole
  rw [txt_data]
  unfold sealed
  rw [List.drop_left, List.take_left, val_sum]

theorem txt_whole (s : ByteArray) : txt (List.take s.size (txt (sealed s.data.toList)).data.toList) = s := by
  rw [txt_data, size_len]
  unfold sealed
  rw [List.take_left, txt_of]

theorem not_whole (l : List UInt8) (i : Nat) (c : UInt8) (hi : i < (sealed l).length) (hc : (sealed l).getD i 0 ≠ c) : ¬ whole l.length (txt ((sealed l).set i c)) := by
  unfold whole
  rw [txt_data]
  rw [List.getD_eq_getElem?_getD, List.getElem?_eq_getElem hi] at hc
  exact seal_set l i c (by rw [seal_length] at hi; exact hi) hc

set_option maxHeartbeats 1000000 in
theorem back_long (s : ByteArray) (a b : Int) (w : World) (hs : 2000 < (s.size : Int)) :
    Calls Try.prog 4 #[.string s, .int .u16 a, .int .u8 b] w (Yes w) := by
  go_enter Try.func4, Try.ntmps4
  go_wp2_with fail
  refine (alive_any _).mono ?_
  rintro e w1 ⟨rfl, hb1⟩
  go_wp2_with fail
  go_ret
  exact ⟨rfl, hb1⟩

set_option maxHeartbeats 1000000 in
theorem back_same (s : ByteArray) (a : Int) (c : UInt8) (i : Nat) (w : World) (h0 : 0 ≤ a) (h1 : a < 65536) (hs : (s.size : Int) ≤ 2000) (hi : i < (sealed s.data.toList).length) (ha : a.tmod (s.size + 4) = (i : Int)) (hc : (sealed s.data.toList).getD i 0 = c) :
    Calls Try.prog 4 #[.string s, .int .u16 a, .int .u8 (c.toNat : Int)] w (Yes w) := by
  have hs3 : (s.size : Int) ≤ 3000 := by omega
  have HC := Lib.hid hc; clear hc
  have hi2 : (i : Int) < s.size + 4 := by rw [seal_length, ← size_len] at hi; omega
  have HI := Lib.hid hi; clear hi
  go_enter Try.func4, Try.ntmps4
  go_wp2_with fail
  refine (alive_any _).mono ?_
  rintro e w1 ⟨rfl, hb1⟩
  go_wp2_with fail
  refine (seal_any _ _ hs3).mono ?_
  rintro e w2 ⟨rfl, hb2⟩
  have hz : ((txt (sealed s.data.toList)).size : Int) = s.size + 4 := by rw [txt_size, seal_length, ← size_len]; omega
  have ho : ∀ w, Calls Try.prog 7 #[.string (txt (sealed s.data.toList))] w fun e w' => e = .returned (.tuple #[.string s, .int .i64 0]) ∧ ∃ n, w' = w.drewN n := fun w =>
    (open_good _ s.size w (by omega) (by omega) (whole_sealed s.data.toList)).mono fun e w' hh => by rw [txt_whole] at hh; exact hh
  have ht := fun w n => turn_later (txt (sealed s.data.toList)) w n
  generalize hx : txt (sealed s.data.toList) = x at *
  have HX := Lib.hid hx; clear hx
  have HO := Lib.hid ho; clear ho
  have HT := Lib.hid ht; clear ht
  have hnz : ((s.size : Int) + 4 == 0) = false := by rw [beq_eq_false_iff_ne]; omega
  go_wp2_with fail
  refine (HO.out _).mono ?_
  rintro e w3 ⟨rfl, n3, rfl⟩
  obtain ⟨cap, w4, hconv, hb4, hl4⟩ := HT.out w2 n3
  obtain ⟨hl, hf⟩ := hl4 i (by rw [← HX.out]; exact HI.out)
  rw [← HX.out, txt_data, HC.out] at hl
  go_wp2_with fail
  go_ret
  exact ⟨rfl, ext (ext hb1 hb2) hb4⟩

set_option maxHeartbeats 1000000 in
theorem back_other (s : ByteArray) (a : Int) (c d : UInt8) (i : Nat) (w : World) (h0 : 0 ≤ a) (h1 : a < 65536) (hs : (s.size : Int) ≤ 2000) (hi : i < (sealed s.data.toList).length) (ha : a.tmod (s.size + 4) = (i : Int)) (hd : (sealed s.data.toList).getD i 0 = d) (hc : d ≠ c) :
    Calls Try.prog 4 #[.string s, .int .u16 a, .int .u8 (c.toNat : Int)] w (Yes w) := by
  have hs3 : (s.size : Int) ≤ 3000 := by omega
  have hw := not_whole s.data.toList i c hi (by rw [hd]; exact hc)
  have hne : ((d.toNat : Int) == (c.toNat : Int)) = false := by
    rw [beq_eq_false_iff_ne]
    intro e
    exact hc (UInt8.toNat_inj.1 (by omega))
  have HD := Lib.hid hd; clear hd
  have HW := Lib.hid hw; clear hw
  have HN := Lib.hid hne; clear hne
  clear hc
  have hi2 : (i : Int) < s.size + 4 := by rw [seal_length, ← size_len] at hi; omega
  have HI := Lib.hid hi; clear hi
  go_enter Try.func4, Try.ntmps4
  go_wp2_with fail
  refine (alive_any _).mono ?_
  rintro e w1 ⟨rfl, hb1⟩
  go_wp2_with fail
  refine (seal_any _ _ hs3).mono ?_
  rintro e w2 ⟨rfl, hb2⟩
  have hz : ((txt (sealed s.data.toList)).size : Int) = s.size + 4 := by rw [txt_size, seal_length, ← size_len]; omega
  have ho : ∀ w, Calls Try.prog 7 #[.string (txt (sealed s.data.toList))] w fun e w' => e = .returned (.tuple #[.string s, .int .i64 0]) ∧ ∃ n, w' = w.drewN n := fun w =>
    (open_good _ s.size w (by omega) (by omega) (whole_sealed s.data.toList)).mono fun e w' hh => by rw [txt_whole] at hh; exact hh
  have hq : ∀ w, Calls Try.prog 7 #[.string (txt ((sealed s.data.toList).set i c))] w fun e w' => e = .returned (.tuple #[.string ⟨#[]⟩, .int .i64 3]) ∧ ∃ n, w' = w.drewN n := fun w =>
    open_bad _ s.data.toList.length w (by rw [txt_size, List.length_set, seal_length, ← size_len]; omega) (by rw [txt_size, List.length_set, seal_length]) HW.out
  have ht := fun w n => turn_later (txt (sealed s.data.toList)) w n
  have hk := fun w g cap h => back_bytes w g i cap (txt (sealed s.data.toList)).data.toList c h HI.out
  rw [← size_len, txt_data] at hk
  generalize hx : txt (sealed s.data.toList) = x at *
  generalize hy : txt ((sealed s.data.toList).set i c) = y at *
  have HX := Lib.hid hx; clear hx
  have HY := Lib.hid hy; clear hy
  have HO := Lib.hid ho; clear ho
  have HQ := Lib.hid hq; clear hq
  have HT := Lib.hid ht; clear ht
  have HK := Lib.hid hk; clear hk
  have hnz : ((s.size : Int) + 4 == 0) = false := by rw [beq_eq_false_iff_ne]; omega
  go_wp2_with fail
  refine (HO.out _).mono ?_
  rintro e w3 ⟨rfl, n3, rfl⟩
  obtain ⟨cap, w4, hconv, hb4, hl4⟩ := HT.out w2 n3
  obtain ⟨hl, hf⟩ := hl4 i (by rw [← HX.out]; exact HI.out)
  rw [← HX.out, txt_data, HD.out] at hl
  have hk := HK.out w4 w2.heap.size cap (by rw [← HX.out] at hl4; exact hl4)
  have hn := HN.out
  clear hl4
  go_wp2_with fail
  refine (HQ.out _).mono ?_
  rintro e w5 ⟨rfl, n5, rfl⟩
  go_wp2_with fail
  go_ret
  exact ⟨rfl, ext_drewN ((ext (ext hb1 hb2) hb4).setCell (by have := hb1.size; have := hb2.size; show w.heap.size ≤ w2.heap.size; omega) _) n5⟩

theorem checkBack_any (s : ByteArray) (a b : Int) (w : World) (h0 : 0 ≤ a) (h1 : a < 65536) (h2 : 0 ≤ b) (h3 : b < 256) : Calls Try.prog 4 #[.string s, .int .u16 a, .int .u8 b] w (Yes w) := by
  by_cases h : 2000 < (s.size : Int)
  · exact back_long s a b w h
  · obtain ⟨c, rfl⟩ := is_byte b h2 h3
    have hl : (sealed s.data.toList).length = s.size + 4 := by rw [seal_length, ← size_len]
    have hi : a.toNat % (s.size + 4) < (sealed s.data.toList).length := by rw [hl]; exact Nat.mod_lt _ (by omega)
    have ha : a.tmod (s.size + 4) = ((a.toNat % (s.size + 4) : Nat) : Int) := by
      rw [Int.tmod_eq_emod_of_nonneg h0, Int.natCast_emod, Int.toNat_of_nonneg h0]
      rfl
    by_cases hc : (sealed s.data.toList).getD (a.toNat % (s.size + 4)) 0 = c
    · exact back_same s a c _ w h0 h1 (by omega) hi ha hc
    · exact back_other s a c _ _ w h0 h1 (by omega) hi ha rfl hc
end Go.Proofs.Ytmnihienhknamaa
