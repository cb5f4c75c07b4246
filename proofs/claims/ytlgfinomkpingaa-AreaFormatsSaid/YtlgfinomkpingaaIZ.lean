/- Two disks of the same lists are the same, by the document's way. No other condition. -/
import Derived.Test.YtlgfinomkpingaaGA
import Derived.Test.YtlgfinomkpingaaD5
import Derived.Test.YtlgfinomkpingaaIY
namespace Go.Proofs.Ytlgfinomkpingaa
open Go.RowKit

/-- Two disks of the same lists are the same. -/
theorem same_of (s2 : List ByteArray) (c2 : List Wr) (f2 : Int) (x2 : Bool) (h1 : s2.length ≤ 1000) (h2 : c2.length ≤ 1000) (A1 B1 A2 B2 : Option Addr) (n1 m1 n2 m2 : Nat) (w : World) (q1 : Mem w A1 n1 B1 m1 s2 c2) (q2 : Mem w A2 n2 B2 m2 s2 c2) :
    Calls Try.prog 15 #[.agg #[.slice A1 s2.length n1, .slice B1 c2.length m1, .int .i64 f2, .bool x2], .agg #[.slice A2 s2.length n2, .slice B2 c2.length m2, .int .i64 f2, .bool x2]] w fun e w' => e = .returned (.bool true) ∧ Below w.heap.size w w' := by
  have := rsame_any A1 B1 A2 B2 n1 m1 n2 m2 s2 s2 c2 c2 f2 f2 x2 x2 w q1.es q1.ws q2.es q2.ws (by unfold maxLen; omega) (by unfold maxLen; omega)
  rw [same_is rfl rfl rfl rfl] at this
  exact this

end Go.Proofs.Ytlgfinomkpingaa

/- Blocks on a disk, layer 9: what all blocks are where each is whole; the walks of AreaTells and AreaFormats: they answer true, for every disk, every block and all bytes; for every number of blocks and every generation. No other condition. -/

namespace Go.Proofs.Ytlgfinomkpingaa
open Go.RowKit

theorem goL_len (rd : Nat → ByteArray × Int) (N : Nat) : (goL rd N).1.length ≤ N := by
  unfold goL
  split
  · simp
  · simp

theorem put_len (s : List ByteArray) (c : List Wr) (f : Int) (x : Bool) (i : Int) (d : ByteArray) : (putA s c f x i d).s.length = s.length ∧ (putA s c f x i d).c.length ≤ c.length + 1 := by
  unfold putA
  split
  · split
    · split
      · exact ⟨rfl, by simp⟩
      · split
        · exact ⟨rfl, by simp⟩
        · split
          · exact ⟨rfl, by simp⟩
          · exact ⟨lay_length _ _, by simp⟩
    · exact ⟨rfl, by simp⟩
  · exact ⟨rfl, by simp⟩

theorem read_ok {s : List ByteArray} (h : ∀ t ∈ s.drop 2, t.size = 8) {k : Nat} (hk : k < s.length - 2) : readA s [] false (k : Nat) = (s.getD (k + 2) e0, 0) := by
  have ht : thereB s.length (k : Nat) = true := by
    unfold thereB
    simp
    omega
  have hb : blockA s [] (k : Nat) = s.getD (k + 2) e0 := by
    unfold blockA
    rw [Int.toNat_natCast]
    rfl
  have hl : k + 2 < s.length := by omega
  have h8 : (s.getD (k + 2) e0).size = 8 := by
    refine h _ ?_
    rw [List.getD_eq_getElem?_getD, List.getElem?_eq_getElem hl]
    have e : k + 2 = 2 + k := by omega
    rw [show s[k + 2] = (s.drop 2)[k]'(by simp; omega) by simp [e]]
    exact List.getElem_mem _
  unfold readA
  rw [if_pos ht, if_neg (by simp), hb, if_pos h8]

/-- Where each block is whole, and nothing stands in the cache, all blocks are what is sure. -/
theorem all_ok {s : List ByteArray} (h : ∀ t ∈ s.drop 2, t.size = 8) : allA s [] false = (s.drop 2, 0) := by
  unfold allA
  rw [goL_all (fun j hj => by rw [read_ok h hj])]
  congr 1
  refine List.ext_getElem (by simp) fun k h1 h2 => ?_
  have hk : k < s.length - 2 := by simpa using h2
  rw [List.getElem_map, List.getElem_range, read_ok h hk]
  have e : k + 2 = 2 + k := by omega
  rw [List.getElem_drop, List.getD_eq_getElem?_getD, List.getElem?_eq_getElem (by omega)]
  simp [e]

theorem all_fmt (b y : ByteArray) (N : Nat) : allA (fmtL b y N) [] false = (List.replicate N z8, 0) := by
  have e : (fmtL b y N).drop 2 = List.replicate N z8 := rfl
  rw [all_ok (by rw [e]; intro t ht; rw [List.eq_of_mem_replicate ht]; rfl), e]

theorem right_fmt (b y : ByteArray) (N : Nat) (hb : b.size ≤ 64) (hy : y.size ≤ 64) (hN : N ≤ 60) : rightB (fmtL b y N) [] 0 = true := by
  refine right_b6 (by rw [fmt_length]; omega) (by rw [fmt_length]; omega) (by decide) ?_ rfl
  unfold fmtL
  rw [List.any_cons, List.any_cons, List.any_replicate, long_no (by omega), long_no (by omega), long_no (by decide)]
  simp

set_option maxRecDepth 100000 in
set_option maxHeartbeats 8000000 in
theorem tells_great (A B : Option Addr) (n m : Nat) (s : List ByteArray) (c : List Wr) (f : Int) (x : Bool) (i : Int) (d : ByteArray) (w : World) (hm : Mem w A n B m s c) (hG : greatB s c = true) : Calls Try.prog 3 #[.agg #[.slice A s.length n, .slice B c.length m, .int .i64 f, .bool x], .int .i64 i, .string d] w (Yes w) := by
  have hgr := fun w (h : Mem w A n B m s c) => great_any A B n m s c f x w h.es h.ws
  rw [hG] at hgr
  have HGR := Lib.hid hgr; clear hgr hG
  have HM := Lib.hid hm; clear hm
  have H0 := Lib.hid ((Held.refl w).lay [.slice A s.length n, .slice B c.length m, .int .i64 f, .bool x] 25)
  go_enter Try.func3, Try.ntmps3
  go_wp2_with fail
  refine (alive_any _).mono ?_
  rintro e w1 ⟨rfl, hb⟩
  have H1 := Lib.hid (H0.out.up hb)
  clear hb H0
  have kd := H1.out.b0.cell
  go_wp2_with fail
  refine (HGR.out _ (HM.out.up H1.out.below)).mono ?_
  rintro e w2 ⟨rfl, hb⟩
  have H2 := Lib.hid (H1.out.up hb)
  clear hb H1 kd
  go_wp2_with fail
  go_ret
  exact ⟨rfl, H2.out.below⟩

set_option maxRecDepth 100000 in
set_option maxHeartbeats 8000000 in
theorem tells_wrong (A B : Option Addr) (n m : Nat) (s : List ByteArray) (c : List Wr) (f : Int) (x : Bool) (i : Int) (d : ByteArray) (w : World) (hm : Mem w A n B m s c) (hG : greatB s c = false) (hR : rightB s c f = false) : Calls Try.prog 3 #[.agg #[.slice A s.length n, .slice B c.length m, .int .i64 f, .bool x], .int .i64 i, .string d] w (Yes w) := by
  obtain ⟨g1, g2⟩ := great_small hG
  have hgr := fun w (h : Mem w A n B m s c) => great_any A B n m s c f x w h.es h.ws
  rw [hG] at hgr
  have HGR := Lib.hid hgr; clear hgr hG
  have hri := fun w (h : Mem w A n B m s c) => rright_any A B n m s c f x w h.es h.ws (by unfold maxLen; omega)
  rw [hR] at hri
  have HRI := Lib.hid hri; clear hri hR
  have HM := Lib.hid hm; clear hm
  have H0 := Lib.hid ((Held.refl w).lay [.slice A s.length n, .slice B c.length m, .int .i64 f, .bool x] 25)
  go_enter Try.func3, Try.ntmps3
  go_wp2_with fail
  refine (alive_any _).mono ?_
  rintro e w1 ⟨rfl, hb⟩
  have H1 := Lib.hid (H0.out.up hb)
  clear hb H0
  have kd := H1.out.b0.cell
  go_wp2_with fail
  refine (HGR.out _ (HM.out.up H1.out.below)).mono ?_
  rintro e w2 ⟨rfl, hb⟩
  have H2 := Lib.hid (H1.out.up hb)
  clear hb H1 kd
  have kd := H2.out.b0.cell
  go_wp2_with fail
  refine (HRI.out _ (HM.out.up H2.out.below)).mono ?_
  rintro e w3 ⟨rfl, hb⟩
  have H3 := Lib.hid (H2.out.up hb)
  clear hb H2 kd
  go_wp2_with fail
  go_ret
  exact ⟨rfl, H3.out.below⟩

set_option maxRecDepth 100000 in
set_option maxHeartbeats 8000000 in
theorem tells_long (A B : Option Addr) (n m : Nat) (s : List ByteArray) (c : List Wr) (f : Int) (x : Bool) (i : Int) (d : ByteArray) (w : World) (hm : Mem w A n B m s c) (hG : greatB s c = false) (hR : rightB s c f = true) (hd : 100 < (d.size : Int)) : Calls Try.prog 3 #[.agg #[.slice A s.length n, .slice B c.length m, .int .i64 f, .bool x], .int .i64 i, .string d] w (Yes w) := by
  obtain ⟨g1, g2⟩ := great_small hG
  have hgr := fun w (h : Mem w A n B m s c) => great_any A B n m s c f x w h.es h.ws
  rw [hG] at hgr
  have HGR := Lib.hid hgr; clear hgr hG
  have hri := fun w (h : Mem w A n B m s c) => rright_any A B n m s c f x w h.es h.ws (by unfold maxLen; omega)
  rw [hR] at hri
  have HRI := Lib.hid hri; clear hri hR
  have HM := Lib.hid hm; clear hm
  have H0 := Lib.hid ((Held.refl w).lay [.slice A s.length n, .slice B c.length m, .int .i64 f, .bool x] 25)
  go_enter Try.func3, Try.ntmps3
  go_wp2_with fail
  refine (alive_any _).mono ?_
  rintro e w1 ⟨rfl, hb⟩
  have H1 := Lib.hid (H0.out.up hb)
  clear hb H0
  have kd := H1.out.b0.cell
  go_wp2_with fail
  refine (HGR.out _ (HM.out.up H1.out.below)).mono ?_
  rintro e w2 ⟨rfl, hb⟩
  have H2 := Lib.hid (H1.out.up hb)
  clear hb H1 kd
  have kd := H2.out.b0.cell
  go_wp2_with fail
  refine (HRI.out _ (HM.out.up H2.out.below)).mono ?_
  rintro e w3 ⟨rfl, hb⟩
  have H3 := Lib.hid (H2.out.up hb)
  clear hb H2 kd
  go_wp2_with fail
  go_ret
  exact ⟨rfl, H3.out.below⟩

set_option maxRecDepth 100000 in
set_option maxHeartbeats 8000000 in
theorem tells_right (A B : Option Addr) (n m : Nat) (s : List ByteArray) (c : List Wr) (f : Int) (x : Bool) (i : Int) (d : ByteArray) (w : World) (hm : Mem w A n B m s c) (hf : f < 9223372036854775808) (hG : greatB s c = false) (hR : rightB s c f = true) (hd : ¬ 100 < (d.size : Int)) : Calls Try.prog 3 #[.agg #[.slice A s.length n, .slice B c.length m, .int .i64 f, .bool x], .int .i64 i, .string d] w (Yes w) := by
  obtain ⟨g1, g2⟩ := great_small hG
  obtain ⟨q1, q2, _, q4, q5⟩ := right_of hR
  have hr1 := fun w hm => aread_any A B n m s c f x i w hm q2 (by omega)
  have hr2 := fun w hm => raread_any A B n m s c f x i w hm q2 (by omega)
  have hp1 := fun w hm => aput_any A B n m s c f x i d w hm q2 (by omega) hf q5
  have hp2 := fun w hm => raput_any A B n m s c f x i d w hm q2 (by omega) hf q5
  have ha1 := fun w hm => aall_any A B n m s c f x w hm q2 (by omega)
  have ha2 := fun w hm => raall_any A B n m s c f x w hm q2 (by omega)
  obtain ⟨e1, e2⟩ := put_len s c f x i d
  have e3 : (allA s c x).1.length ≤ s.length - 2 := goL_len _ _
  generalize putA s c f x i d = R at *
  obtain ⟨s2, c2, f2, x2, pe⟩ := R
  generalize readA s c x i = R at *
  obtain ⟨t, re⟩ := R
  generalize allA s c x = R at *
  obtain ⟨l, ae⟩ := R
  dsimp only at *
  have hsm := same_of s2 c2 f2 x2 (by omega) (by omega)
  have htx := fun A1 A2 c1 c2 w h1 h2 => texts_any A1 A2 c1 c2 l l w h1 h2 (by omega)
  rw [decide_eq_true rfl] at htx
  have htt : (t.toList == t.toList) = true := by simp
  have hgr := fun w (h : Mem w A n B m s c) => great_any A B n m s c f x w h.es h.ws
  rw [hG] at hgr
  have HGR := Lib.hid hgr; clear hgr hG
  have hri := fun w (h : Mem w A n B m s c) => rright_any A B n m s c f x w h.es h.ws (by unfold maxLen; omega)
  rw [hR] at hri
  have HRI := Lib.hid hri; clear hri hR
  clear q1 q2 q4 q5 e1 e2 e3 g1 g2 hf
  have HR1 := Lib.hid hr1; clear hr1
  have HR2 := Lib.hid hr2; clear hr2
  have HP1 := Lib.hid hp1; clear hp1
  have HP2 := Lib.hid hp2; clear hp2
  have HA1 := Lib.hid ha1; clear ha1
  have HA2 := Lib.hid ha2; clear ha2
  have HSM := Lib.hid hsm; clear hsm
  have HTX := Lib.hid htx; clear htx
  have HM := Lib.hid hm; clear hm
  have H0 := Lib.hid ((Held.refl w).lay [.slice A s.length n, .slice B c.length m, .int .i64 f, .bool x] 25)
  go_enter Try.func3, Try.ntmps3
  go_wp2_with fail
  refine (alive_any _).mono ?_
  rintro e w1 ⟨rfl, hb⟩
  have H1 := Lib.hid (H0.out.up hb)
  clear hb H0
  have kd := H1.out.b0.cell
  go_wp2_with fail
  refine (HGR.out _ (HM.out.up H1.out.below)).mono ?_
  rintro e w2 ⟨rfl, hb⟩
  have H2 := Lib.hid (H1.out.up hb)
  clear hb H1 kd
  have kd := H2.out.b0.cell
  go_wp2_with fail
  refine (HRI.out _ (HM.out.up H2.out.below)).mono ?_
  rintro e w3 ⟨rfl, hb⟩
  have H3 := Lib.hid (H2.out.up hb)
  clear hb H2 kd
  have kd := H3.out.b0.cell
  go_wp2_with fail
  refine (HR1.out _ (HM.out.up H3.out.below)).mono ?_
  rintro e w4 ⟨rfl, hb⟩
  have H4 := Lib.hid (H3.out.up hb)
  clear hb H3 kd
  have kd := H4.out.b0.cell
  go_wp2_with fail
  refine (HR2.out _ (HM.out.up H4.out.below)).mono ?_
  rintro e w5 ⟨rfl, hb⟩
  have H5 := Lib.hid (H4.out.up hb)
  clear hb H4 kd
  have kd := H5.out.b0.cell
  go_wp2_with fail
  refine (HP1.out _ (HM.out.up H5.out.below)).mono ?_
  rintro e w6 ⟨A1, B1, n1, m1, rfl, hm1, hb⟩
  have H6 := Lib.hid ((H5.out.up hb).lay [.slice A1 s2.length n1, .slice B1 c2.length m1, .int .i64 f2, .bool x2] 25)
  have M6 := Lib.hid (hm1.up (below1 (o := .cells #[.slice A1 s2.length n1, .slice B1 c2.length m1, .int .i64 f2, .bool x2] 25)))
  clear hb H5 kd hm1
  have kd := H6.out.b1.cell
  go_wp2_with fail
  refine (HP2.out _ (HM.out.up H6.out.below)).mono ?_
  rintro e w7 ⟨A2, B2, n2, m2, rfl, hm2, hb⟩
  have H7 := Lib.hid ((H6.out.up hb).lay [.slice A2 s2.length n2, .slice B2 c2.length m2, .int .i64 f2, .bool x2] 25)
  have M7 := Lib.hid ((M6.out.up hb).up (below1 (o := .cells #[.slice A2 s2.length n2, .slice B2 c2.length m2, .int .i64 f2, .bool x2] 25)))
  have N7 := Lib.hid (hm2.up (below1 (o := .cells #[.slice A2 s2.length n2, .slice B2 c2.length m2, .int .i64 f2, .bool x2] 25)))
  clear hb H6 kd hm2 M6
  have kd := H7.out.b2.cell
  go_wp2_with fail
  refine (HA1.out _ (HM.out.up H7.out.below)).mono ?_
  rintro e w8 ⟨A3, n3, rfl, hs3, hb⟩
  have H8 := Lib.hid (H7.out.up hb)
  have M8 := Lib.hid (M7.out.up hb)
  have N8 := Lib.hid (N7.out.up hb)
  have S8 := Lib.hid hs3
  clear hb H7 kd hs3 M7 N7
  have kd := H8.out.b2.cell
  go_wp2_with fail
  refine (HA2.out _ (HM.out.up H8.out.below)).mono ?_
  rintro e w9 ⟨A4, n4, rfl, hs4, hb⟩
  have H9 := Lib.hid (H8.out.up hb)
  have M9 := Lib.hid (M8.out.up hb)
  have N9 := Lib.hid (N8.out.up hb)
  have S9 := Lib.hid (S8.out.below hb hb.size)
  have T9 := Lib.hid hs4
  clear hb H8 kd hs4 M8 N8 S8
  have k1 := H9.out.b1.cell
  have k2 := H9.out.b0.cell
  go_wp2_with fail
  refine (HSM.out A1 B1 A2 B2 n1 m1 n2 m2 _ M9.out N9.out).mono ?_
  rintro e w10 ⟨rfl, hb⟩
  have H10 := Lib.hid (H9.out.up hb)
  have S10 := Lib.hid (S9.out.below hb hb.size)
  have T10 := Lib.hid (T9.out.below hb hb.size)
  clear hb H9 k1 k2 M9 N9 S9 T9
  go_wp2_with fail
  refine (HTX.out A3 A4 n3 n4 _ S10.out T10.out).mono ?_
  rintro e w11 ⟨rfl, hb⟩
  have H11 := Lib.hid (H10.out.up hb)
  clear hb H10 S10 T10
  go_wp2_with fail
  go_ret
  exact ⟨rfl, H11.out.below⟩

theorem tells_law (A B : Option Addr) (n m : Nat) (s : List ByteArray) (c : List Wr) (f : Int) (x : Bool) (i : Int) (d : ByteArray) (w : World) (hm : Mem w A n B m s c) (hf : f < 9223372036854775808) : Calls Try.prog 3 #[.agg #[.slice A s.length n, .slice B c.length m, .int .i64 f, .bool x], .int .i64 i, .string d] w (Yes w) := by
  cases hG : greatB s c with
  | true => exact tells_great A B n m s c f x i d w hm hG
  | false =>
    cases hR : rightB s c f with
    | false => exact tells_wrong A B n m s c f x i d w hm hG hR
    | true =>
      by_cases hd : 100 < (d.size : Int)
      · exact tells_long A B n m s c f x i d w hm hG hR hd
      · exact tells_right A B n m s c f x i d w hm hf hG hR hd

set_option maxRecDepth 100000 in
set_option maxHeartbeats 8000000 in
theorem formats_no (k g : Int) (w : World) (h0 : 0 ≤ g) (h1 : g < 18446744073709551616) (hr : (fmS k g).right = false) : Calls Try.prog 4 #[.int .i64 k, .int .u64 g] w (Yes w) := by
  have hf1 := fun w => afmt_any k g w h0 h1
  have hf2 := fun w => rfmt_any k g w h0 h1
  have e : fmtA k g = ⟨[], [], 0, false, 1⟩ := by unfold fmtA; rw [hr, if_neg (by simp)]
  rw [e] at hf1 hf2
  clear e hr h0 h1
  have hsm := same_of [] [] 0 false (by decide) (by decide)
  have HSM := Lib.hid hsm; clear hsm
  have HF1 := Lib.hid hf1; clear hf1
  have HF2 := Lib.hid hf2; clear hf2
  have H0 := Lib.hid (Held.refl w)
  go_enter Try.func4, Try.ntmps4
  go_wp2_with fail
  refine (alive_any _).mono ?_
  rintro e w1 ⟨rfl, hb⟩
  have H1 := Lib.hid (H0.out.up hb)
  clear hb H0
  go_wp2_with fail
  refine (HF1.out _).mono ?_
  rintro e w2 ⟨A1, B1, n1, m1, rfl, hm1, hb⟩
  have H2 := Lib.hid ((H1.out.up hb).lay [.slice A1 0 n1, .slice B1 0 m1, .int .i64 0, .bool false] 25)
  have M2 := Lib.hid (hm1.up (below1 (o := .cells #[.slice A1 0 n1, .slice B1 0 m1, .int .i64 0, .bool false] 25)))
  clear hb H1 hm1
  go_wp2_with fail
  refine (HF2.out _).mono ?_
  rintro e w3 ⟨A2, B2, n2, m2, rfl, hm2, hb⟩
  have H3 := Lib.hid ((H2.out.up hb).lay [.slice A2 0 n2, .slice B2 0 m2, .int .i64 0, .bool false] 25)
  have M3 := Lib.hid ((M2.out.up hb).up (below1 (o := .cells #[.slice A2 0 n2, .slice B2 0 m2, .int .i64 0, .bool false] 25)))
  have N3 := Lib.hid (hm2.up (below1 (o := .cells #[.slice A2 0 n2, .slice B2 0 m2, .int .i64 0, .bool false] 25)))
  clear hb H2 hm2 M2
  have k1 := H3.out.b1.cell
  have k2 := H3.out.b0.cell
  go_wp2_with fail
  refine (HSM.out A1 B1 A2 B2 n1 m1 n2 m2 _ M3.out N3.out).mono ?_
  rintro e w4 ⟨rfl, hb⟩
  have H4 := Lib.hid (H3.out.up hb)
  have M4 := Lib.hid (M3.out.up hb)
  clear hb H3 M3 N3 k1 k2
  go_wp2_with fail
  go_ret
  exact ⟨rfl, H4.out.below⟩

set_option maxRecDepth 100000 in
set_option maxHeartbeats 8000000 in
theorem formats_yes (N : Nat) (g : Int) (w : World) (h0 : 0 ≤ g) (h1 : g < 18446744073709551616) (hN : N ≤ 32) (hr : (fmS (N : Nat) g).right = true) : Calls Try.prog 4 #[.int .i64 (N : Nat), .int .u64 g] w (Yes w) := by
  have hf1 := fun w => afmt_any (N : Nat) g w h0 h1
  have hf2 := fun w => rfmt_any (N : Nat) g w h0 h1
  have e : fmtA (N : Nat) g = ⟨fmtL (fmS (N : Nat) g).bytes (bytesM 0) N, [], 0, false, 0⟩ := by unfold fmtA; rw [hr, if_pos rfl, Int.toNat_natCast]
  rw [e] at hf1 hf2
  clear e hr h0 h1
  have hz := bytes_size (fmS (N : Nat) g)
  have hy := bytesM_size 0
  generalize (fmS (N : Nat) g).bytes = b at *
  generalize bytesM 0 = y at *
  have hri := right_fmt b y N (by omega) (by omega) (by omega)
  have hal := all_fmt b y N
  have hle := fmt_length b y N
  clear hz hy
  generalize fmtL b y N = s at *
  have hsm := same_of s [] 0 false (by omega) (by decide)
  have hall := fun A B n m w hm => aall_any A B n m s [] 0 false w hm (by omega) (by decide)
  rw [hal] at hall
  have hrr := fun A B n2 m2 w hs hc => rright_any A B n2 m2 s [] 0 false w hs hc (by decide)
  rw [hri] at hrr
  dsimp only at *
  rw [List.length_nil, hle] at hsm hall hrr
  unfold GivesT at hall
  rw [List.length_replicate] at hall
  have LN := Lib.hid hle; clear hle hal hri
  have HAL := Lib.hid hall; clear hall
  have HRR := Lib.hid hrr; clear hrr
  have HSM := Lib.hid hsm; clear hsm
  have HF1 := Lib.hid hf1; clear hf1
  have HF2 := Lib.hid hf2; clear hf2
  have H0 := Lib.hid (Held.refl w)
  go_enter Try.func4, Try.ntmps4
  go_wp2_with fail
  refine (alive_any _).mono ?_
  rintro e w1 ⟨rfl, hb⟩
  have H1 := Lib.hid (H0.out.up hb)
  clear hb H0
  go_wp2_with fail
  refine (HF1.out _).mono ?_
  rintro e w2 ⟨A1, B1, n1, m1, rfl, hm1, hb⟩
  rw [LN.out]
  have H2 := Lib.hid ((H1.out.up hb).lay [.slice A1 (N + 2) n1, .slice B1 0 m1, .int .i64 0, .bool false] 25)
  have M2 := Lib.hid (hm1.up (below1 (o := .cells #[.slice A1 (N + 2) n1, .slice B1 0 m1, .int .i64 0, .bool false] 25)))
  clear hb H1 hm1
  go_wp2_with fail
  refine (HF2.out _).mono ?_
  rintro e w3 ⟨A2, B2, n2, m2, rfl, hm2, hb⟩
  rw [LN.out]
  have H3 := Lib.hid ((H2.out.up hb).lay [.slice A2 (N + 2) n2, .slice B2 0 m2, .int .i64 0, .bool false] 25)
  have M3 := Lib.hid ((M2.out.up hb).up (below1 (o := .cells #[.slice A2 (N + 2) n2, .slice B2 0 m2, .int .i64 0, .bool false] 25)))
  have N3 := Lib.hid (hm2.up (below1 (o := .cells #[.slice A2 (N + 2) n2, .slice B2 0 m2, .int .i64 0, .bool false] 25)))
  clear hb H2 hm2 M2
  have k1 := H3.out.b1.cell
  have k2 := H3.out.b0.cell
  go_wp2_with fail
  refine (HSM.out A1 B1 A2 B2 n1 m1 n2 m2 _ M3.out N3.out).mono ?_
  rintro e w4 ⟨rfl, hb⟩
  have H4 := Lib.hid (H3.out.up hb)
  have M4 := Lib.hid (M3.out.up hb)
  clear hb H3 M3 N3 k1 k2
  have k1 := H4.out.b1.cell
  go_wp2_with fail
  refine (HAL.out A1 B1 n1 m1 _ M4.out).mono ?_
  rintro e w5 ⟨A3, n3, rfl, hs3, hb⟩
  have H5 := Lib.hid (H4.out.up hb)
  have M5 := Lib.hid (M4.out.up hb)
  clear hb H4 M4 k1 hs3
  have k1 := H5.out.b1.cell
  go_wp2_with fail
  refine (HRR.out A1 B1 n1 m1 _ M5.out.es M5.out.ws).mono ?_
  rintro e w6 ⟨rfl, hb⟩
  have H6 := Lib.hid (H5.out.up hb)
  clear hb H5 M5 k1
  go_wp2_with fail
  go_ret
  exact ⟨rfl, H6.out.below⟩

theorem formats_law (k g : Int) (w : World) (h0 : 0 ≤ g) (h1 : g < 18446744073709551616) : Calls Try.prog 4 #[.int .i64 k, .int .u64 g] w (Yes w) := by
  cases hr : (fmS k g).right with
  | false => exact formats_no k g w h0 h1 hr
  | true =>
    obtain ⟨hk1, hk2⟩ := fmS_right hr
    obtain ⟨N, rfl⟩ : ∃ N : Nat, k = (N : Int) := ⟨k.toNat, by omega⟩
    exact formats_yes N g w h0 h1 (by omega) hr

end Go.Proofs.Ytlgfinomkpingaa
