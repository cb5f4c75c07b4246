/- The mask on a disk, layer 8: the walk of BitsSure: it answers true, for every number of sectors, every two masks and every list of what a crash keeps. No other condition. -/
import Derived.Test.YthfbijnhelpgbaaH6
namespace Go.Proofs.Ythfbijnhelpgbaa
open Go.RowKit

set_option maxRecDepth 100000 in
set_option maxHeartbeats 8000000 in
theorem sure_long (j k0 k1 : Nat) (K : Option Addr) (l : List Bool) (r : Nat) (w : World) (_hk : Es Value.bool w w.heap.size K l) (_hj : j < 256) (hl : 50 < (l.length : Int)) :
    Calls Try.prog 4 #[.int .u8 (j : Nat), .agg #[.int .u32 (k0 : Nat), .int .u32 (k1 : Nat)], .slice K l.length r] w (Yes w) := by
  have H0 := Lib.hid ((Held.refl w).lay [.int .u32 (k0 : Nat), .int .u32 (k1 : Nat)] 36)
  go_enter Try.func4, Try.ntmps4
  go_wp2_with fail
  refine (alive_any _).mono ?_
  rintro e w1 ⟨rfl, hb⟩
  have H1 := Lib.hid (H0.out.up hb)
  clear hb H0
  go_wp2_with fail
  go_ret
  exact ⟨rfl, H1.out.below⟩

set_option maxRecDepth 100000 in
set_option maxHeartbeats 8000000 in
theorem sure_bad (j k0 k1 : Nat) (K : Option Addr) (l : List Bool) (r : Nat) (w : World) (hk : Es Value.bool w w.heap.size K l) (_hj : j < 256) (hl : ¬ 50 < (l.length : Int)) (s0 : List ByteArray) (hnew : ∀ w, Calls Try.prog 15 #[.int .i64 (3 + (j : Int) % 32)] w (GivesD s0 [] 0 false 0 w)) (hsv : ∀ (A1 B1 : Option Addr) (n1 m1 : Nat) (w : World), Mem w A1 n1 B1 m1 s0 [] → Calls Try.prog 10 #[.agg #[.slice A1 s0.length n1, .slice B1 0 m1, .int .i64 0, .bool false], .int .u32 (k0 : Nat)] w (GivesD s0 [] 0 false 1 w)) (hsm : ∀ (A1 B1 A2 B2 : Option Addr) (n1 m1 n2 m2 : Nat) (w : World), Mem w A1 n1 B1 m1 s0 [] → Mem w A2 n2 B2 m2 s0 [] → Calls Try.prog 14 #[.agg #[.slice A1 s0.length n1, .slice B1 0 m1, .int .i64 0, .bool false], .agg #[.slice A2 s0.length n2, .slice B2 0 m2, .int .i64 0, .bool false]] w fun e w' => e = .returned (.bool true) ∧ Below w.heap.size w w') :
    Calls Try.prog 4 #[.int .u8 (j : Nat), .agg #[.int .u32 (k0 : Nat), .int .u32 (k1 : Nat)], .slice K l.length r] w (Yes w) := by
  have HK := Lib.hid hk; clear hk
  have HNEW := Lib.hid hnew; clear hnew
  have HSV := Lib.hid hsv; clear hsv
  have HSM := Lib.hid hsm; clear hsm
  have H0 := Lib.hid ((Held.refl w).lay [.int .u32 (k0 : Nat), .int .u32 (k1 : Nat)] 36)
  go_enter Try.func4, Try.ntmps4
  go_wp2_with fail
  refine (alive_any _).mono ?_
  rintro e w1 ⟨rfl, hb⟩
  have H1 := Lib.hid (H0.out.up hb)
  clear hb H0
  go_wp2_with fail
  refine (HNEW.out _).mono ?_
  rintro e w2 ⟨A1, B1, n1, m1, rfl, hm1, hb⟩
  have H2 := Lib.hid ((H1.out.up hb).lay [.slice A1 s0.length n1, .slice B1 0 m1, .int .i64 0, .bool false] 25)
  have M1_2 := Lib.hid (hm1.up (below1 (o := .cells #[.slice A1 s0.length n1, .slice B1 0 m1, .int .i64 0, .bool false] 25)))
  clear hb H1 hm1
  have kt := H2.out.b1.cell
  go_wp2_with fail
  clear kt
  refine (HSV.out A1 B1 n1 m1 _ M1_2.out).mono ?_
  rintro e w3 ⟨A2, B2, n2, m2, rfl, hm2, hb⟩
  have H3 := Lib.hid ((H2.out.up hb).lay [.slice A2 s0.length n2, .slice B2 0 m2, .int .i64 0, .bool false] 25)
  have M1_3 := Lib.hid ((M1_2.out.up hb).up (below1 (o := .cells #[.slice A2 s0.length n2, .slice B2 0 m2, .int .i64 0, .bool false] 25)))
  have M2_3 := Lib.hid (hm2.up (below1 (o := .cells #[.slice A2 s0.length n2, .slice B2 0 m2, .int .i64 0, .bool false] 25)))
  clear hb H2 hm2 M1_2
  have k1_ := H3.out.b1.cell
  go_wp2_with fail
  refine (HSM.out A2 B2 A1 B1 n2 m2 n1 m1 _ M2_3.out M1_3.out).mono ?_
  rintro e w4 ⟨rfl, hb⟩
  have H4 := Lib.hid (H3.out.up hb)
  clear hb H3
  go_wp2_with fail
  go_ret
  exact ⟨rfl, H4.out.below⟩

set_option maxRecDepth 100000 in
set_option maxHeartbeats 8000000 in
theorem sure_noted_bad (j k0 k1 : Nat) (K : Option Addr) (l : List Bool) (r : Nat) (w : World) (hk : Es Value.bool w w.heap.size K l) (_hj : j < 256) (hl : ¬ 50 < (l.length : Int)) (s0 S : List ByteArray) (hnew : ∀ w, Calls Try.prog 15 #[.int .i64 (3 + (j : Int) % 32)] w (GivesD s0 [] 0 false 0 w)) (hsv : ∀ (A1 B1 : Option Addr) (n1 m1 : Nat) (w : World), Mem w A1 n1 B1 m1 s0 [] → Calls Try.prog 10 #[.agg #[.slice A1 s0.length n1, .slice B1 0 m1, .int .i64 0, .bool false], .int .u32 (k0 : Nat)] w (GivesD S [] 0 false 0 w)) (hnt : ∀ (A2 B2 : Option Addr) (n2 m2 : Nat) (w : World), Mem w A2 n2 B2 m2 S [] → Calls Try.prog 12 #[.agg #[.slice A2 S.length n2, .slice B2 0 m2, .int .i64 0, .bool false], .int .u32 (k1 : Nat)] w (GivesD S [] 0 false 1 w)) (hsm : ∀ (A1 B1 A2 B2 : Option Addr) (n1 m1 n2 m2 : Nat) (w : World), Mem w A1 n1 B1 m1 S [] → Mem w A2 n2 B2 m2 S [] → Calls Try.prog 14 #[.agg #[.slice A1 S.length n1, .slice B1 0 m1, .int .i64 0, .bool false], .agg #[.slice A2 S.length n2, .slice B2 0 m2, .int .i64 0, .bool false]] w fun e w' => e = .returned (.bool true) ∧ Below w.heap.size w w') :
    Calls Try.prog 4 #[.int .u8 (j : Nat), .agg #[.int .u32 (k0 : Nat), .int .u32 (k1 : Nat)], .slice K l.length r] w (Yes w) := by
  have HK := Lib.hid hk; clear hk
  have HNEW := Lib.hid hnew; clear hnew
  have HSV := Lib.hid hsv; clear hsv
  have HNT := Lib.hid hnt; clear hnt
  have HSM := Lib.hid hsm; clear hsm
  have H0 := Lib.hid ((Held.refl w).lay [.int .u32 (k0 : Nat), .int .u32 (k1 : Nat)] 36)
  go_enter Try.func4, Try.ntmps4
  go_wp2_with fail
  refine (alive_any _).mono ?_
  rintro e w1 ⟨rfl, hb⟩
  have H1 := Lib.hid (H0.out.up hb)
  clear hb H0
  go_wp2_with fail
  refine (HNEW.out _).mono ?_
  rintro e w2 ⟨A1, B1, n1, m1, rfl, hm1, hb⟩
  have H2 := Lib.hid ((H1.out.up hb).lay [.slice A1 s0.length n1, .slice B1 0 m1, .int .i64 0, .bool false] 25)
  have M1_2 := Lib.hid (hm1.up (below1 (o := .cells #[.slice A1 s0.length n1, .slice B1 0 m1, .int .i64 0, .bool false] 25)))
  clear hb H1 hm1
  have kt := H2.out.b1.cell
  go_wp2_with fail
  clear kt
  refine (HSV.out A1 B1 n1 m1 _ M1_2.out).mono ?_
  rintro e w3 ⟨A2, B2, n2, m2, rfl, hm2, hb⟩
  have H3 := Lib.hid ((H2.out.up hb).lay [.slice A2 S.length n2, .slice B2 0 m2, .int .i64 0, .bool false] 25)
  have M1_3 := Lib.hid ((M1_2.out.up hb).up (below1 (o := .cells #[.slice A2 S.length n2, .slice B2 0 m2, .int .i64 0, .bool false] 25)))
  have M2_3 := Lib.hid (hm2.up (below1 (o := .cells #[.slice A2 S.length n2, .slice B2 0 m2, .int .i64 0, .bool false] 25)))
  clear hb H2 hm2 M1_2
  have k1_ := H3.out.b0.cell
  have kt := H3.out.b2.cell
  go_wp2_with fail
  clear k1_ kt
  refine (HNT.out A2 B2 n2 m2 _ M2_3.out).mono ?_
  rintro e w4 ⟨A3, B3, n3, m3, rfl, hm3, hb⟩
  have H4 := Lib.hid ((H3.out.up hb).lay [.slice A3 S.length n3, .slice B3 0 m3, .int .i64 0, .bool false] 25)
  have M2_4 := Lib.hid ((M2_3.out.up hb).up (below1 (o := .cells #[.slice A3 S.length n3, .slice B3 0 m3, .int .i64 0, .bool false] 25)))
  have M3_4 := Lib.hid (hm3.up (below1 (o := .cells #[.slice A3 S.length n3, .slice B3 0 m3, .int .i64 0, .bool false] 25)))
  clear hb H3 hm3 M2_3
  have k1_ := H4.out.b1.cell
  go_wp2_with fail
  refine (HSM.out A2 B2 A3 B3 n2 m2 n3 m3 _ M2_4.out M3_4.out).mono ?_
  rintro e w5 ⟨rfl, hb⟩
  have H5 := Lib.hid (H4.out.up hb)
  clear hb H4
  go_wp2_with fail
  go_ret
  exact ⟨rfl, H5.out.below⟩

set_option maxRecDepth 100000 in
set_option maxHeartbeats 8000000 in
theorem sure_first (j k0 k1 : Nat) (K : Option Addr) (l : List Bool) (r : Nat) (w : World) (hk : Es Value.bool w w.heap.size K l) (_hj : j < 256) (hl : ¬ 50 < (l.length : Int)) (s0 S S2 : List ByteArray) (y : ByteArray) (b : Nat) (hnew : ∀ w, Calls Try.prog 15 #[.int .i64 (3 + (j : Int) % 32)] w (GivesD s0 [] 0 false 0 w)) (hsv : ∀ (A1 B1 : Option Addr) (n1 m1 : Nat) (w : World), Mem w A1 n1 B1 m1 s0 [] → Calls Try.prog 10 #[.agg #[.slice A1 s0.length n1, .slice B1 0 m1, .int .i64 0, .bool false], .int .u32 (k0 : Nat)] w (GivesD S [] 0 false 0 w)) (hnt : ∀ (A2 B2 : Option Addr) (n2 m2 : Nat) (w : World), Mem w A2 n2 B2 m2 S [] → Calls Try.prog 12 #[.agg #[.slice A2 S.length n2, .slice B2 0 m2, .int .i64 0, .bool false], .int .u32 (k1 : Nat)] w (GivesD S [((1 : Int), y)] 0 false 0 w)) (hld : ∀ (A3 B3 : Option Addr) (n3 m3 : Nat) (w : World), Mem w A3 n3 B3 m3 S [((1 : Int), y)] → Calls Try.prog 8 #[.agg #[.slice A3 S.length n3, .slice B3 1 m3, .int .i64 0, .bool false]] w fun e w' => e = .returned (.tuple #[.int .u32 (k1 : Nat), .int .i64 0]) ∧ Below w.heap.size w w') (hrv : ∀ (A3 B3 : Option Addr) (n3 m3 : Nat) (w : World), Mem w A3 n3 B3 m3 S [((1 : Int), y)] → Es Value.bool w w.heap.size K l → Calls Try.prog 16 #[.agg #[.slice A3 S.length n3, .slice B3 1 m3, .int .i64 0, .bool true], .slice K l.length r] w (GivesO S2 [] 0 false w)) (hle : ∀ (A5 B5 : Option Addr) (n5 m5 : Nat) (w : World), Mem w A5 n5 B5 m5 S2 [] → Calls Try.prog 8 #[.agg #[.slice A5 S2.length n5, .slice B5 0 m5, .int .i64 0, .bool false]] w fun e w' => e = .returned (.tuple #[.int .u32 (b : Nat), .int .i64 0]) ∧ Below w.heap.size w w') (hb : ((b : Int) == (k0 : Int)) = true) :
    Calls Try.prog 4 #[.int .u8 (j : Nat), .agg #[.int .u32 (k0 : Nat), .int .u32 (k1 : Nat)], .slice K l.length r] w (Yes w) := by
  have HK := Lib.hid hk; clear hk
  have HNEW := Lib.hid hnew; clear hnew
  have HSV := Lib.hid hsv; clear hsv
  have HNT := Lib.hid hnt; clear hnt
  have HLD := Lib.hid hld; clear hld
  have HRV := Lib.hid hrv; clear hrv
  have HLE := Lib.hid hle; clear hle
  have H0 := Lib.hid ((Held.refl w).lay [.int .u32 (k0 : Nat), .int .u32 (k1 : Nat)] 36)
  go_enter Try.func4, Try.ntmps4
  go_wp2_with fail
  refine (alive_any _).mono ?_
  rintro e w1 ⟨rfl, hb⟩
  have H1 := Lib.hid (H0.out.up hb)
  clear hb H0
  go_wp2_with fail
  refine (HNEW.out _).mono ?_
  rintro e w2 ⟨A1, B1, n1, m1, rfl, hm1, hb⟩
  have H2 := Lib.hid ((H1.out.up hb).lay [.slice A1 s0.length n1, .slice B1 0 m1, .int .i64 0, .bool false] 25)
  have M1_2 := Lib.hid (hm1.up (below1 (o := .cells #[.slice A1 s0.length n1, .slice B1 0 m1, .int .i64 0, .bool false] 25)))
  clear hb H1 hm1
  have kt := H2.out.b1.cell
  go_wp2_with fail
  clear kt
  refine (HSV.out A1 B1 n1 m1 _ M1_2.out).mono ?_
  rintro e w3 ⟨A2, B2, n2, m2, rfl, hm2, hb⟩
  have H3 := Lib.hid ((H2.out.up hb).lay [.slice A2 S.length n2, .slice B2 0 m2, .int .i64 0, .bool false] 25)
  have M1_3 := Lib.hid ((M1_2.out.up hb).up (below1 (o := .cells #[.slice A2 S.length n2, .slice B2 0 m2, .int .i64 0, .bool false] 25)))
  have M2_3 := Lib.hid (hm2.up (below1 (o := .cells #[.slice A2 S.length n2, .slice B2 0 m2, .int .i64 0, .bool false] 25)))
  clear hb H2 hm2 M1_2
  have k1_ := H3.out.b0.cell
  have kt := H3.out.b2.cell
  go_wp2_with fail
  clear k1_ kt
  refine (HNT.out A2 B2 n2 m2 _ M2_3.out).mono ?_
  rintro e w4 ⟨A3, B3, n3, m3, rfl, hm3, hb⟩
  have H4 := Lib.hid ((H3.out.up hb).lay [.slice A3 S.length n3, .slice B3 1 m3, .int .i64 0, .bool false] 25)
  have M2_4 := Lib.hid ((M2_3.out.up hb).up (below1 (o := .cells #[.slice A3 S.length n3, .slice B3 1 m3, .int .i64 0, .bool false] 25)))
  have M3_4 := Lib.hid (hm3.up (below1 (o := .cells #[.slice A3 S.length n3, .slice B3 1 m3, .int .i64 0, .bool false] 25)))
  clear hb H3 hm3 M2_3
  have k1_ := H4.out.b0.cell
  go_wp2_with fail
  clear k1_
  refine (HLD.out A3 B3 n3 m3 _ M3_4.out).mono ?_
  rintro e w5 ⟨rfl, hb⟩
  have H5 := Lib.hid (H4.out.up hb)
  have M3_5 := Lib.hid (M3_4.out.up hb)
  clear hb H4 M3_4
  have k1_ := H5.out.b0.cell
  go_wp2_with fail
  clear k1_
  refine (rcrash_any A3 B3 S.length n3 1 m3 0 false _).mono ?_
  rintro e w6 ⟨rfl, hb⟩
  have H6 := Lib.hid (H5.out.up hb)
  have M3_6 := Lib.hid (M3_5.out.up hb)
  clear hb H5 M3_5
  go_wp2_with fail
  refine (HRV.out A3 B3 n3 m3 _ M3_6.out (HK.out.below H6.out.below H6.out.below.size)).mono ?_
  rintro e w7 ⟨A5, B5, n5, m5, rfl, hm5, hb⟩
  have H7 := Lib.hid (H6.out.up hb)
  clear hb H6 M3_6
  go_wp2_with fail
  refine (HLE.out A5 B5 n5 m5 _ hm5).mono ?_
  rintro e w8 ⟨rfl, hb⟩
  have H8 := Lib.hid (H7.out.up hb)
  clear hb H7 hm5
  have kt := H8.out.b3.cell
  go_wp2_with fail
  go_ret
  exact ⟨rfl, H8.out.below⟩

set_option maxRecDepth 100000 in
set_option maxHeartbeats 8000000 in
theorem sure_second (j k0 k1 : Nat) (K : Option Addr) (l : List Bool) (r : Nat) (w : World) (hk : Es Value.bool w w.heap.size K l) (_hj : j < 256) (hl : ¬ 50 < (l.length : Int)) (s0 S S2 : List ByteArray) (y : ByteArray) (b : Nat) (hnew : ∀ w, Calls Try.prog 15 #[.int .i64 (3 + (j : Int) % 32)] w (GivesD s0 [] 0 false 0 w)) (hsv : ∀ (A1 B1 : Option Addr) (n1 m1 : Nat) (w : World), Mem w A1 n1 B1 m1 s0 [] → Calls Try.prog 10 #[.agg #[.slice A1 s0.length n1, .slice B1 0 m1, .int .i64 0, .bool false], .int .u32 (k0 : Nat)] w (GivesD S [] 0 false 0 w)) (hnt : ∀ (A2 B2 : Option Addr) (n2 m2 : Nat) (w : World), Mem w A2 n2 B2 m2 S [] → Calls Try.prog 12 #[.agg #[.slice A2 S.length n2, .slice B2 0 m2, .int .i64 0, .bool false], .int .u32 (k1 : Nat)] w (GivesD S [((1 : Int), y)] 0 false 0 w)) (hld : ∀ (A3 B3 : Option Addr) (n3 m3 : Nat) (w : World), Mem w A3 n3 B3 m3 S [((1 : Int), y)] → Calls Try.prog 8 #[.agg #[.slice A3 S.length n3, .slice B3 1 m3, .int .i64 0, .bool false]] w fun e w' => e = .returned (.tuple #[.int .u32 (k1 : Nat), .int .i64 0]) ∧ Below w.heap.size w w') (hrv : ∀ (A3 B3 : Option Addr) (n3 m3 : Nat) (w : World), Mem w A3 n3 B3 m3 S [((1 : Int), y)] → Es Value.bool w w.heap.size K l → Calls Try.prog 16 #[.agg #[.slice A3 S.length n3, .slice B3 1 m3, .int .i64 0, .bool true], .slice K l.length r] w (GivesO S2 [] 0 false w)) (hle : ∀ (A5 B5 : Option Addr) (n5 m5 : Nat) (w : World), Mem w A5 n5 B5 m5 S2 [] → Calls Try.prog 8 #[.agg #[.slice A5 S2.length n5, .slice B5 0 m5, .int .i64 0, .bool false]] w fun e w' => e = .returned (.tuple #[.int .u32 (b : Nat), .int .i64 0]) ∧ Below w.heap.size w w') (hb : ((b : Int) == (k0 : Int)) = false) (hc : ((b : Int) == (k1 : Int)) = true) :
    Calls Try.prog 4 #[.int .u8 (j : Nat), .agg #[.int .u32 (k0 : Nat), .int .u32 (k1 : Nat)], .slice K l.length r] w (Yes w) := by
  have HK := Lib.hid hk; clear hk
  have HNEW := Lib.hid hnew; clear hnew
  have HSV := Lib.hid hsv; clear hsv
  have HNT := Lib.hid hnt; clear hnt
  have HLD := Lib.hid hld; clear hld
  have HRV := Lib.hid hrv; clear hrv
  have HLE := Lib.hid hle; clear hle
  have H0 := Lib.hid ((Held.refl w).lay [.int .u32 (k0 : Nat), .int .u32 (k1 : Nat)] 36)
  go_enter Try.func4, Try.ntmps4
  go_wp2_with fail
  refine (alive_any _).mono ?_
  rintro e w1 ⟨rfl, hb⟩
  have H1 := Lib.hid (H0.out.up hb)
  clear hb H0
  go_wp2_with fail
  refine (HNEW.out _).mono ?_
  rintro e w2 ⟨A1, B1, n1, m1, rfl, hm1, hb⟩
  have H2 := Lib.hid ((H1.out.up hb).lay [.slice A1 s0.length n1, .slice B1 0 m1, .int .i64 0, .bool false] 25)
  have M1_2 := Lib.hid (hm1.up (below1 (o := .cells #[.slice A1 s0.length n1, .slice B1 0 m1, .int .i64 0, .bool false] 25)))
  clear hb H1 hm1
  have kt := H2.out.b1.cell
  go_wp2_with fail
  clear kt
  refine (HSV.out A1 B1 n1 m1 _ M1_2.out).mono ?_
  rintro e w3 ⟨A2, B2, n2, m2, rfl, hm2, hb⟩
  have H3 := Lib.hid ((H2.out.up hb).lay [.slice A2 S.length n2, .slice B2 0 m2, .int .i64 0, .bool false] 25)
  have M1_3 := Lib.hid ((M1_2.out.up hb).up (below1 (o := .cells #[.slice A2 S.length n2, .slice B2 0 m2, .int .i64 0, .bool false] 25)))
  have M2_3 := Lib.hid (hm2.up (below1 (o := .cells #[.slice A2 S.length n2, .slice B2 0 m2, .int .i64 0, .bool false] 25)))
  clear hb H2 hm2 M1_2
  have k1_ := H3.out.b0.cell
  have kt := H3.out.b2.cell
  go_wp2_with fail
  clear k1_ kt
  refine (HNT.out A2 B2 n2 m2 _ M2_3.out).mono ?_
  rintro e w4 ⟨A3, B3, n3, m3, rfl, hm3, hb⟩
  have H4 := Lib.hid ((H3.out.up hb).lay [.slice A3 S.length n3, .slice B3 1 m3, .int .i64 0, .bool false] 25)
  have M2_4 := Lib.hid ((M2_3.out.up hb).up (below1 (o := .cells #[.slice A3 S.length n3, .slice B3 1 m3, .int .i64 0, .bool false] 25)))
  have M3_4 := Lib.hid (hm3.up (below1 (o := .cells #[.slice A3 S.length n3, .slice B3 1 m3, .int .i64 0, .bool false] 25)))
  clear hb H3 hm3 M2_3
  have k1_ := H4.out.b0.cell
  go_wp2_with fail
  clear k1_
  refine (HLD.out A3 B3 n3 m3 _ M3_4.out).mono ?_
  rintro e w5 ⟨rfl, hb⟩
  have H5 := Lib.hid (H4.out.up hb)
  have M3_5 := Lib.hid (M3_4.out.up hb)
  clear hb H4 M3_4
  have k1_ := H5.out.b0.cell
  go_wp2_with fail
  clear k1_
  refine (rcrash_any A3 B3 S.length n3 1 m3 0 false _).mono ?_
  rintro e w6 ⟨rfl, hb⟩
  have H6 := Lib.hid (H5.out.up hb)
  have M3_6 := Lib.hid (M3_5.out.up hb)
  clear hb H5 M3_5
  go_wp2_with fail
  refine (HRV.out A3 B3 n3 m3 _ M3_6.out (HK.out.below H6.out.below H6.out.below.size)).mono ?_
  rintro e w7 ⟨A5, B5, n5, m5, rfl, hm5, hb⟩
  have H7 := Lib.hid (H6.out.up hb)
  clear hb H6 M3_6
  go_wp2_with fail
  refine (HLE.out A5 B5 n5 m5 _ hm5).mono ?_
  rintro e w8 ⟨rfl, hb⟩
  have H8 := Lib.hid (H7.out.up hb)
  clear hb H7 hm5
  have kt := H8.out.b3.cell
  go_wp2_with fail
  go_ret
  exact ⟨rfl, H8.out.below⟩

theorem sure_law (j k0 k1 : Nat) (K : Option Addr) (l : List Bool) (r : Nat) (w : World) (hk : Es Value.bool w w.heap.size K l) (hj : j < 256) (h0 : k0 < 4294967296) (h1 : k1 < 4294967296) :
    Calls Try.prog 4 #[.int .u8 (j : Nat), .agg #[.int .u32 (k0 : Nat), .int .u32 (k1 : Nat)], .slice K l.length r] w (Yes w) := by
  by_cases hl : 50 < (l.length : Int)
  · exact sure_long j k0 k1 K l r w hk hj hl
  · obtain ⟨N, hN⟩ : ∃ N : Nat, N = 3 + j % 32 := ⟨_, rfl⟩
    have hnew : ∀ w, Calls Try.prog 15 #[.int .i64 (3 + (j : Int) % 32)] w (GivesD (List.replicate N e0) [] 0 false 0 w) := by
      intro w
      have := rnew_any (3 + (j : Int) % 32) w
      rw [if_neg (by omega), if_neg (by omega), if_neg (by omega), if_neg (by omega), show (3 + (j : Int) % 32).toNat = N by omega] at this
      exact this
    have hlen : (List.replicate N e0).length = N := List.length_replicate
    have hsv := fun (A1 B1 : Option Addr) (n1 m1 : Nat) (w : World) (h : Mem w A1 n1 B1 m1 (List.replicate N e0) []) => bsave_any A1 B1 n1 m1 (List.replicate N e0) [] 0 false k0 w h h0 (by rw [hlen]; omega) (by simp) (by decide) rfl
    cases r0 : mrightB k0 ((N : Int) - 2) with
    | false =>
      rw [save_not r0] at hsv
      exact sure_bad j k0 k1 K l r w hk hj hl (List.replicate N e0) hnew hsv (same_of (List.replicate N e0) [] 0 false (by rw [hlen]; omega) (by simp))
    | true =>
      rw [save_new r0] at hsv
      have hS : (layL (List.replicate N e0) [(1, bytesM k0)])[1]? = some (bytesM k0) := lay_second _ _ (by rw [hlen]; omega)
      have hSl : (layL (List.replicate N e0) [(1, bytesM k0)]).length = N := by rw [lay_length, hlen]
      generalize layL (List.replicate N e0) [(1, bytesM k0)] = S at *
      have hnt := fun (A2 B2 : Option Addr) (n2 m2 : Nat) (w : World) (h : Mem w A2 n2 B2 m2 S []) => bnote_any A2 B2 n2 m2 S [] 0 false k1 w h h1 (by rw [hSl]; omega) (by simp) (by decide)
      cases r1 : mrightB k1 ((N : Int) - 2) with
      | false =>
        rw [note_not (by rw [hSl]; exact r1)] at hnt
        exact sure_noted_bad j k0 k1 K l r w hk hj hl (List.replicate N e0) S hnew hsv hnt (same_of S [] 0 false (by rw [hSl]; omega) (by simp))
      | true =>
        rw [note_sure (by rw [hSl]; exact r1)] at hnt
        have hld := fun (A3 B3 : Option Addr) (n3 m3 : Nat) (w : World) (h : Mem w A3 n3 B3 m3 S [(1, bytesM k1)]) => bload_any A3 B3 n3 m3 S [(1, bytesM k1)] 0 false w h (by rw [hSl]; omega) (by simp) (by show ((bytesM k1).size : Int) ≤ 3000; rw [bytesM_size]; decide)
        rw [load_noted S h1 (by rw [hSl]; exact r1)] at hld
        have hrv := fun (A3 B3 : Option Addr) (n3 m3 : Nat) (w : World) (h : Mem w A3 n3 B3 m3 S [(1, bytesM k1)]) (hk : Es Value.bool w w.heap.size K l) => rrevive_any A3 B3 K n3 m3 r S [(1, bytesM k1)] l 0 true w h hk (by rw [hSl]; omega) (by simp) (by unfold maxLen; omega) (fit_add (c := []) (i := 1) (by decide) (by rw [hSl]; omega) rfl (by rw [bytesM_size]; decide))
        obtain ⟨S2, b, g1, g2, g3, g4, g5⟩ := sure_fact l hS h0 h1 (by rw [hSl]; exact r0) (by rw [hSl]; exact r1)
        rw [g1] at hrv
        have hle := fun (A5 B5 : Option Addr) (n5 m5 : Nat) (w : World) (h : Mem w A5 n5 B5 m5 S2 []) => bload_any A5 B5 n5 m5 S2 [] 0 false w h (by omega) (by simp) (by rw [holds_nil]; omega)
        rw [g3] at hle
        cases q : ((b : Int) == (k0 : Int)) with
        | true => exact sure_first j k0 k1 K l r w hk hj hl (List.replicate N e0) S S2 (bytesM k1) b hnew hsv hnt hld hrv hle q
        | false =>
          rcases g5 with rfl | rfl
          · simp at q
          · exact sure_second j k0 b K l r w hk hj hl (List.replicate N e0) S S2 (bytesM b) b hnew hsv hnt hld hrv hle q (by simp)
end Go.Proofs.Ythfbijnhelpgbaa
