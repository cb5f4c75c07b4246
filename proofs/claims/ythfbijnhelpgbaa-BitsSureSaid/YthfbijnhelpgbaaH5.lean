/- The mask on a disk, layer 8: the walk of BitsTells: it answers true, for every disk and every mask. No other condition. -/
import Derived.Test.YthfbijnhelpgbaaH4
import Derived.Test.YthfbijnhelpgbaaD5
namespace Go.Proofs.Ythfbijnhelpgbaa
open Go.RowKit

theorem note_len (s : List ByteArray) (c : List Wr) (f : Int) (x : Bool) (k : Nat) : (noteB s c f x k).s.length = s.length ∧ (noteB s c f x k).c.length ≤ c.length + 1 := by
  unfold noteB
  split
  · split
    · exact ⟨rfl, by simp⟩
    · split
      · exact ⟨rfl, by simp⟩
      · exact ⟨rfl, by simp⟩
  · exact ⟨rfl, by simp⟩
theorem save_len (s : List ByteArray) (c : List Wr) (f : Int) (x : Bool) (k : Nat) : (saveB s c f x k).s.length = s.length ∧ (saveB s c f x k).c.length ≤ c.length + 1 := by
  unfold saveB
  split
  · split
    · exact ⟨rfl, by simp⟩
    · split
      · exact ⟨rfl, by simp⟩
      · split
        · exact ⟨rfl, by simp⟩
        · exact ⟨lay_length _ _, by simp⟩
  · exact ⟨rfl, by simp⟩

/-- Two disks of the same lists are the same. -/
theorem same_of (s2 : List ByteArray) (c2 : List Wr) (f2 : Int) (x2 : Bool) (h1 : s2.length ≤ 1000) (h2 : c2.length ≤ 1000) (A1 B1 A2 B2 : Option Addr) (n1 m1 n2 m2 : Nat) (w : World) (q1 : Mem w A1 n1 B1 m1 s2 c2) (q2 : Mem w A2 n2 B2 m2 s2 c2) :
    Calls Try.prog 14 #[.agg #[.slice A1 s2.length n1, .slice B1 c2.length m1, .int .i64 f2, .bool x2], .agg #[.slice A2 s2.length n2, .slice B2 c2.length m2, .int .i64 f2, .bool x2]] w fun e w' => e = .returned (.bool true) ∧ Below w.heap.size w w' := by
  have := rsame_any A1 B1 A2 B2 n1 m1 n2 m2 s2 s2 c2 c2 f2 f2 x2 x2 w q1.es q1.ws q2.es q2.ws (by unfold maxLen; omega) (by unfold maxLen; omega)
  rw [same_is rfl rfl rfl rfl] at this
  exact this

set_option maxRecDepth 100000 in
set_option maxHeartbeats 8000000 in
theorem tells_great (A B : Option Addr) (n m : Nat) (s : List ByteArray) (c : List Wr) (f : Int) (x : Bool) (k : Nat) (w : World) (hm : Mem w A n B m s c) (hG : greatB s c = true) :
    Calls Try.prog 3 #[.agg #[.slice A s.length n, .slice B c.length m, .int .i64 f, .bool x], .int .u32 (k : Nat)] w (Yes w) := by
  have hgr := fun w (h : Mem w A n B m s c) => great_any A B n m s c f x w h.es h.ws
  rw [hG] at hgr
  have HGR := Lib.hid hgr; clear hgr hG
  have HM := Lib.hid hm; clear hm
  have H0 := Lib.hid ((Held.refl w).lay [.slice A s.length n, .slice B c.length m, .int .i64 f, .bool x] 25)
  go_enter Try.func3, Try.ntmps3
  go_wp2_with fail
  refine (alive_any _).mono ?_
  rintro e w1 ⟨rfl, hb⟩
  have H1 := Lib.hid (H0.out.up hb)
  clear hb H0
  have kd := H1.out.b0.cell
  go_wp2_with fail
  refine (HGR.out _ (HM.out.up H1.out.below)).mono ?_
  rintro e w2 ⟨rfl, hb⟩
  have H2 := Lib.hid (H1.out.up hb)
  clear hb H1 kd
  go_wp2_with fail
  go_ret
  exact ⟨rfl, H2.out.below⟩

set_option maxRecDepth 100000 in
set_option maxHeartbeats 8000000 in
theorem tells_wrong (A B : Option Addr) (n m : Nat) (s : List ByteArray) (c : List Wr) (f : Int) (x : Bool) (k : Nat) (w : World) (hm : Mem w A n B m s c) (hG : greatB s c = false) (hR : rightB s c f = false) :
    Calls Try.prog 3 #[.agg #[.slice A s.length n, .slice B c.length m, .int .i64 f, .bool x], .int .u32 (k : Nat)] w (Yes w) := by
  obtain ⟨g1, g2⟩ := great_small hG
  have hgr := fun w (h : Mem w A n B m s c) => great_any A B n m s c f x w h.es h.ws
  rw [hG] at hgr
  have HGR := Lib.hid hgr; clear hgr hG
  have hri := fun w (h : Mem w A n B m s c) => rright_any A B n m s c f x w h.es h.ws (by unfold maxLen; omega)
  rw [hR] at hri
  have HRI := Lib.hid hri; clear hri hR
  have HM := Lib.hid hm; clear hm
  have H0 := Lib.hid ((Held.refl w).lay [.slice A s.length n, .slice B c.length m, .int .i64 f, .bool x] 25)
  go_enter Try.func3, Try.ntmps3
  go_wp2_with fail
  refine (alive_any _).mono ?_
  rintro e w1 ⟨rfl, hb⟩
  have H1 := Lib.hid (H0.out.up hb)
  clear hb H0
  have kd := H1.out.b0.cell
  go_wp2_with fail
  refine (HGR.out _ (HM.out.up H1.out.below)).mono ?_
  rintro e w2 ⟨rfl, hb⟩
  have H2 := Lib.hid (H1.out.up hb)
  clear hb H1 kd
  have kd := H2.out.b0.cell
  go_wp2_with fail
  refine (HRI.out _ (HM.out.up H2.out.below)).mono ?_
  rintro e w3 ⟨rfl, hb⟩
  have H3 := Lib.hid (H2.out.up hb)
  clear hb H2 kd
  go_wp2_with fail
  go_ret
  exact ⟨rfl, H3.out.below⟩

set_option maxRecDepth 100000 in
set_option maxHeartbeats 8000000 in
theorem tells_right (A B : Option Addr) (n m : Nat) (s : List ByteArray) (c : List Wr) (f : Int) (x : Bool) (k : Nat) (w : World) (hm : Mem w A n B m s c) (hk : k < 4294967296) (hf : f < 9223372036854775808) (hG : greatB s c = false) (hR : rightB s c f = true) :
    Calls Try.prog 3 #[.agg #[.slice A s.length n, .slice B c.length m, .int .i64 f, .bool x], .int .u32 (k : Nat)] w (Yes w) := by
  obtain ⟨g1, g2⟩ := great_small hG
  obtain ⟨q1, q2, _, q4, q5⟩ := right_of hR
  have hz : ((holdsL c 1 (s.getD 1 e0)).size : Int) ≤ 3000 := by
    have hs : (s.getD 1 e0).size ≤ 64 := by
      rw [List.getD_eq_getElem?_getD]
      cases h : s[1]? with
      | none => decide
      | some t => exact long_small q4 t (List.mem_of_getElem? h)
    have := holds_small (i := 1) (misfit_small q5) hs
    omega
  have hl1 := fun w hm => bload_any A B n m s c f x w hm q2 (by omega) hz
  have hl2 := fun w hm => rbload_any A B n m s c f x w hm q2 (by omega) hz
  have hs1 := fun w hm => bsave_any A B n m s c f x k w hm hk q2 (by omega) hf q5
  have hs2 := fun w hm => rbsave_any A B n m s c f x k w hm hk q2 (by omega) hf q5
  have hn1 := fun w hm => bnote_any A B n m s c f x k w hm hk q2 (by omega) hf
  have hn2 := fun w hm => rbnote_any A B n m s c f x k w hm hk q2 (by omega) hf
  obtain ⟨e1, e2⟩ := save_len s c f x k
  obtain ⟨e3, e4⟩ := note_len s c f x k
  generalize saveB s c f x k = R at *
  obtain ⟨s2, c2, f2, x2, se⟩ := R
  generalize noteB s c f x k = R at *
  obtain ⟨s3, c3, f3, x3, ne⟩ := R
  generalize loadB s c x = R at *
  obtain ⟨lk, le⟩ := R
  dsimp only at *
  have hsm := same_of s2 c2 f2 x2 (by omega) (by omega)
  have htm := same_of s3 c3 f3 x3 (by omega) (by omega)
  have hgr := fun w (h : Mem w A n B m s c) => great_any A B n m s c f x w h.es h.ws
  rw [hG] at hgr
  have HGR := Lib.hid hgr; clear hgr hG
  have hri := fun w (h : Mem w A n B m s c) => rright_any A B n m s c f x w h.es h.ws (by unfold maxLen; omega)
  rw [hR] at hri
  have HRI := Lib.hid hri; clear hri hR
  clear hz q1 q2 q4 q5 e1 e2 e3 e4 g1 g2 hf hk
  have HL1 := Lib.hid hl1; clear hl1
  have HL2 := Lib.hid hl2; clear hl2
  have HS1 := Lib.hid hs1; clear hs1
  have HS2 := Lib.hid hs2; clear hs2
  have HN1 := Lib.hid hn1; clear hn1
  have HN2 := Lib.hid hn2; clear hn2
  have HSM := Lib.hid hsm; clear hsm
  have HTM := Lib.hid htm; clear htm
  have HM := Lib.hid hm; clear hm
  have H0 := Lib.hid ((Held.refl w).lay [.slice A s.length n, .slice B c.length m, .int .i64 f, .bool x] 25)
  go_enter Try.func3, Try.ntmps3
  go_wp2_with fail
  refine (alive_any _).mono ?_
  rintro e w1 ⟨rfl, hb⟩
  have H1 := Lib.hid (H0.out.up hb)
  clear hb H0
  have kd := H1.out.b0.cell
  go_wp2_with fail
  refine (HGR.out _ (HM.out.up H1.out.below)).mono ?_
  rintro e w2 ⟨rfl, hb⟩
  have H2 := Lib.hid (H1.out.up hb)
  clear hb H1 kd
  have kd := H2.out.b0.cell
  go_wp2_with fail
  refine (HRI.out _ (HM.out.up H2.out.below)).mono ?_
  rintro e w3 ⟨rfl, hb⟩
  have H3 := Lib.hid (H2.out.up hb)
  clear hb H2 kd
  have kd := H3.out.b0.cell
  go_wp2_with fail
  refine (HL1.out _ (HM.out.up H3.out.below)).mono ?_
  rintro e w4 ⟨rfl, hb⟩
  have H4 := Lib.hid (H3.out.up hb)
  clear hb H3 kd
  have kd := H4.out.b0.cell
  go_wp2_with fail
  refine (HL2.out _ (HM.out.up H4.out.below)).mono ?_
  rintro e w5 ⟨rfl, hb⟩
  have H5 := Lib.hid (H4.out.up hb)
  clear hb H4 kd
  have kd := H5.out.b0.cell
  go_wp2_with fail
  refine (HS1.out _ (HM.out.up H5.out.below)).mono ?_
  rintro e w6 ⟨A1, B1, n1, m1, rfl, hm1, hb⟩
  have H6 := Lib.hid ((H5.out.up hb).lay [.slice A1 s2.length n1, .slice B1 c2.length m1, .int .i64 f2, .bool x2] 25)
  have M1_6 := Lib.hid (hm1.up (below1 (o := .cells #[.slice A1 s2.length n1, .slice B1 c2.length m1, .int .i64 f2, .bool x2] 25)))
  clear hb H5 kd hm1
  have kd := H6.out.b1.cell
  go_wp2_with fail
  refine (HS2.out _ (HM.out.up H6.out.below)).mono ?_
  rintro e w7 ⟨A2, B2, n2, m2, rfl, hm2, hb⟩
  have H7 := Lib.hid ((H6.out.up hb).lay [.slice A2 s2.length n2, .slice B2 c2.length m2, .int .i64 f2, .bool x2] 25)
  have M1_7 := Lib.hid ((M1_6.out.up hb).up (below1 (o := .cells #[.slice A2 s2.length n2, .slice B2 c2.length m2, .int .i64 f2, .bool x2] 25)))
  have M2_7 := Lib.hid (hm2.up (below1 (o := .cells #[.slice A2 s2.length n2, .slice B2 c2.length m2, .int .i64 f2, .bool x2] 25)))
  clear hb H6 kd hm2 M1_6
  have kd := H7.out.b2.cell
  go_wp2_with fail
  refine (HN1.out _ (HM.out.up H7.out.below)).mono ?_
  rintro e w8 ⟨A3, B3, n3, m3, rfl, hm3, hb⟩
  have H8 := Lib.hid ((H7.out.up hb).lay [.slice A3 s3.length n3, .slice B3 c3.length m3, .int .i64 f3, .bool x3] 25)
  have M1_8 := Lib.hid ((M1_7.out.up hb).up (below1 (o := .cells #[.slice A3 s3.length n3, .slice B3 c3.length m3, .int .i64 f3, .bool x3] 25)))
  have M2_8 := Lib.hid ((M2_7.out.up hb).up (below1 (o := .cells #[.slice A3 s3.length n3, .slice B3 c3.length m3, .int .i64 f3, .bool x3] 25)))
  have M3_8 := Lib.hid (hm3.up (below1 (o := .cells #[.slice A3 s3.length n3, .slice B3 c3.length m3, .int .i64 f3, .bool x3] 25)))
  clear hb H7 kd hm3 M1_7 M2_7
  have kd := H8.out.b3.cell
  go_wp2_with fail
  refine (HN2.out _ (HM.out.up H8.out.below)).mono ?_
  rintro e w9 ⟨A4, B4, n4, m4, rfl, hm4, hb⟩
  have H9 := Lib.hid ((H8.out.up hb).lay [.slice A4 s3.length n4, .slice B4 c3.length m4, .int .i64 f3, .bool x3] 25)
  have M1_9 := Lib.hid ((M1_8.out.up hb).up (below1 (o := .cells #[.slice A4 s3.length n4, .slice B4 c3.length m4, .int .i64 f3, .bool x3] 25)))
  have M2_9 := Lib.hid ((M2_8.out.up hb).up (below1 (o := .cells #[.slice A4 s3.length n4, .slice B4 c3.length m4, .int .i64 f3, .bool x3] 25)))
  have M3_9 := Lib.hid ((M3_8.out.up hb).up (below1 (o := .cells #[.slice A4 s3.length n4, .slice B4 c3.length m4, .int .i64 f3, .bool x3] 25)))
  have M4_9 := Lib.hid (hm4.up (below1 (o := .cells #[.slice A4 s3.length n4, .slice B4 c3.length m4, .int .i64 f3, .bool x3] 25)))
  clear hb H8 kd hm4 M1_8 M2_8 M3_8
  have k1 := H9.out.b3.cell
  have k2 := H9.out.b2.cell
  go_wp2_with fail
  refine (HSM.out A1 B1 A2 B2 n1 m1 n2 m2 _ M1_9.out M2_9.out).mono ?_
  rintro e w10 ⟨rfl, hb⟩
  have H10 := Lib.hid (H9.out.up hb)
  have M3_10 := Lib.hid (M3_9.out.up hb)
  have M4_10 := Lib.hid (M4_9.out.up hb)
  clear hb H9 k1 k2 M1_9 M2_9 M3_9 M4_9
  have k1 := H10.out.b1.cell
  have k2 := H10.out.b0.cell
  go_wp2_with fail
  refine (HTM.out A3 B3 A4 B4 n3 m3 n4 m4 _ M3_10.out M4_10.out).mono ?_
  rintro e w11 ⟨rfl, hb⟩
  have H11 := Lib.hid (H10.out.up hb)
  clear hb H10 k1 k2 M3_10 M4_10
  go_wp2_with fail
  go_ret
  exact ⟨rfl, H11.out.below⟩

theorem tells_law (A B : Option Addr) (n m : Nat) (s : List ByteArray) (c : List Wr) (f : Int) (x : Bool) (k : Nat) (w : World) (hm : Mem w A n B m s c) (hk : k < 4294967296) (hf : f < 9223372036854775808) :
    Calls Try.prog 3 #[.agg #[.slice A s.length n, .slice B c.length m, .int .i64 f, .bool x], .int .u32 (k : Nat)] w (Yes w) := by
  cases hG : greatB s c with
  | true => exact tells_great A B n m s c f x k w hm hG
  | false =>
    cases hR : rightB s c f with
    | false => exact tells_wrong A B n m s c f x k w hm hG hR
    | true => exact tells_right A B n m s c f x k w hm hk hf hG hR
end Go.Proofs.Ythfbijnhelpgbaa
