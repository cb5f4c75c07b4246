/- Disks: the walk of the law on new disks: it answers true, for every number and every two disks. No other condition but that their lists lie in memory. -/
import Derived.Test.YtifcmpcgpcbljaaE6
import Derived.Deep.RegionHeld3
namespace Go.Proofs.Ytifcmpcgpcbljaa
open Go.RowKit

/-- It answers true, and leaves all that was there as it was. -/
def Yes (w : World) (e : Ending) (w' : World) : Prop := e = .returned (.bool true) ∧ Below w.heap.size w w'

set_option maxHeartbeats 1000000 in
theorem news_great1 (A1 B1 A2 B2 : Option Addr) (n1 m1 n2 m2 : Nat) (s1 s2 : List ByteArray) (c1 c2 : List Wr) (f1 f2 : Int) (x1 x2 : Bool) (n : Int) (w : World) (hm1 : Mem w A1 n1 B1 m1 s1 c1) (h : greatB s1 c1 = true) :
    Calls Try.prog 3 #[.int .i64 n, .agg #[.slice A1 s1.length n1, .slice B1 c1.length m1, .int .i64 f1, .bool x1], .agg #[.slice A2 s2.length n2, .slice B2 c2.length m2, .int .i64 f2, .bool x2]] w (Yes w) := by
  have B1' := Lib.hid ((Box.new w [.slice A1 s1.length n1, .slice B1 c1.length m1, .int .i64 f1, .bool x1] 25).alloc (.cells #[.slice A2 s2.length n2, .slice B2 c2.length m2, .int .i64 f2, .bool x2] 25))
  have HM := Lib.hid hm1; clear hm1
  have HG := Lib.hid h; clear h
  go_enter Try.func3, Try.ntmps3
  go_wp2_with fail
  refine (alive_any _).mono ?_
  rintro e w1 ⟨rfl, hb1⟩
  have k1 := (B1'.out.below hb1).cell
  have HB := Lib.hid (ext below2 hb1)
  clear hb1 B1'
  go_wp2_with fail
  refine (great_any A1 B1 n1 m1 s1 c1 f1 x1 _ (HM.out.up HB.out).es (HM.out.up HB.out).ws).mono ?_
  rintro e w2 ⟨rfl, hb2⟩
  rw [HG.out]
  have HB2 := Lib.hid (ext HB.out hb2)
  clear hb2
  go_wp2_with fail
  go_ret
  exact ⟨rfl, HB2.out⟩

set_option maxHeartbeats 1000000 in
theorem news_great2 (A1 B1 A2 B2 : Option Addr) (n1 m1 n2 m2 : Nat) (s1 s2 : List ByteArray) (c1 c2 : List Wr) (f1 f2 : Int) (x1 x2 : Bool) (n : Int) (w : World) (hm1 : Mem w A1 n1 B1 m1 s1 c1) (hm2 : Mem w A2 n2 B2 m2 s2 c2) (h : greatB s1 c1 = false) (h2 : greatB s2 c2 = true) :
    Calls Try.prog 3 #[.int .i64 n, .agg #[.slice A1 s1.length n1, .slice B1 c1.length m1, .int .i64 f1, .bool x1], .agg #[.slice A2 s2.length n2, .slice B2 c2.length m2, .int .i64 f2, .bool x2]] w (Yes w) := by
  have B1' := Lib.hid ((Box.new w [.slice A1 s1.length n1, .slice B1 c1.length m1, .int .i64 f1, .bool x1] 25).alloc (.cells #[.slice A2 s2.length n2, .slice B2 c2.length m2, .int .i64 f2, .bool x2] 25))
  have B2' := Lib.hid (Box.new2 w (.cells #[.slice A1 s1.length n1, .slice B1 c1.length m1, .int .i64 f1, .bool x1] 25) [.slice A2 s2.length n2, .slice B2 c2.length m2, .int .i64 f2, .bool x2] 25)
  have HM := Lib.hid hm1; clear hm1
  have HM2 := Lib.hid hm2; clear hm2
  have HG := Lib.hid h; clear h
  have HG2 := Lib.hid h2; clear h2
  go_enter Try.func3, Try.ntmps3
  go_wp2_with fail
  refine (alive_any _).mono ?_
  rintro e w1 ⟨rfl, hb1⟩
  have k1 := (B1'.out.below hb1).cell
  have b2 := Lib.hid (B2'.out.below hb1)
  have HB := Lib.hid (ext below2 hb1)
  clear hb1 B1' B2'
  go_wp2_with fail
  refine (great_any A1 B1 n1 m1 s1 c1 f1 x1 _ (HM.out.up HB.out).es (HM.out.up HB.out).ws).mono ?_
  rintro e w2 ⟨rfl, hb2⟩
  rw [HG.out]
  have HB2 := Lib.hid (ext HB.out hb2)
  have k2 := (b2.out.below hb2).cell
  clear hb2 b2 k1
  go_wp2_with fail
  refine (great_any A2 B2 n2 m2 s2 c2 f2 x2 _ (HM2.out.up HB2.out).es (HM2.out.up HB2.out).ws).mono ?_
  rintro e w3 ⟨rfl, hb3⟩
  rw [HG2.out]
  have HB3 := Lib.hid (ext HB2.out hb3)
  clear hb3
  go_wp2_with fail
  go_ret
  exact ⟨rfl, HB3.out⟩

set_option maxHeartbeats 4000000 in
theorem news_any (A1 B1 A2 B2 : Option Addr) (n1 m1 n2 m2 : Nat) (s1 s2 : List ByteArray) (c1 c2 : List Wr) (f1 f2 : Int) (x1 x2 : Bool) (n : Int) (w : World) (hm1 : Mem w A1 n1 B1 m1 s1 c1) (hm2 : Mem w A2 n2 B2 m2 s2 c2) (h : greatB s1 c1 = false) (h2 : greatB s2 c2 = false) :
    Calls Try.prog 3 #[.int .i64 n, .agg #[.slice A1 s1.length n1, .slice B1 c1.length m1, .int .i64 f1, .bool x1], .agg #[.slice A2 s2.length n2, .slice B2 c2.length m2, .int .i64 f2, .bool x2]] w (Yes w) := by
  have hg1 := great_small h
  have hg2 := great_small h2
  have ml1 : s1.length ≤ maxLen ∧ c1.length ≤ maxLen := by unfold maxLen; omega
  have ml2 : s2.length ≤ maxLen ∧ c2.length ≤ maxLen := by unfold maxLen; omega
  have ML1 := Lib.hid ml1; clear ml1 hg1
  have ML2 := Lib.hid ml2; clear ml2 hg2
  have B1' := Lib.hid ((Box.new w [.slice A1 s1.length n1, .slice B1 c1.length m1, .int .i64 f1, .bool x1] 25).alloc (.cells #[.slice A2 s2.length n2, .slice B2 c2.length m2, .int .i64 f2, .bool x2] 25))
  have B2' := Lib.hid (Box.new2 w (.cells #[.slice A1 s1.length n1, .slice B1 c1.length m1, .int .i64 f1, .bool x1] 25) [.slice A2 s2.length n2, .slice B2 c2.length m2, .int .i64 f2, .bool x2] 25)
  have hnew := fun w => new_any n w
  have hrnew := fun w => rnew_any n w
  have hml : (if n < 1 then [] else if 64 < n then [] else List.replicate n.toNat (⟨#[]⟩ : ByteArray)).length ≤ maxLen := by
    unfold maxLen
    split
    · simp
    · split
      · simp
      · simp; omega
  generalize (if n < 1 then [] else if 64 < n then [] else List.replicate n.toNat (⟨#[]⟩ : ByteArray)) = sn at *
  generalize (if n < 1 then (1 : Int) else if 64 < n then 1 else 0) = rn at *
  have HML := Lib.hid hml; clear hml
  have HNEW := Lib.hid hnew; clear hnew
  have HRNEW := Lib.hid hrnew; clear hrnew
  have HM := Lib.hid hm1; clear hm1
  have HM2 := Lib.hid hm2; clear hm2
  have HG := Lib.hid h; clear h
  have HG2 := Lib.hid h2; clear h2
  go_enter Try.func3, Try.ntmps3
  go_wp2_with fail
  refine (alive_any _).mono ?_
  rintro e w1 ⟨rfl, hb1⟩
  have k1 := (B1'.out.below hb1).cell
  have b1 := Lib.hid (B1'.out.below hb1)
  have b2 := Lib.hid (B2'.out.below hb1)
  have HB := Lib.hid (ext below2 hb1)
  clear hb1 B1' B2'
  go_wp2_with fail
  refine (great_any A1 B1 n1 m1 s1 c1 f1 x1 _ (HM.out.up HB.out).es (HM.out.up HB.out).ws).mono ?_
  rintro e w2 ⟨rfl, hb2⟩
  rw [HG.out]
  have HB2 := Lib.hid (ext HB.out hb2)
  have d1 := Lib.hid (b1.out.below hb2)
  have d2 := Lib.hid (b2.out.below hb2)
  have k2 := d2.out.cell
  clear hb2 b2 b1 k1
  go_wp2_with fail
  refine (great_any A2 B2 n2 m2 s2 c2 f2 x2 _ (HM2.out.up HB2.out).es (HM2.out.up HB2.out).ws).mono ?_
  rintro e w3 ⟨rfl, hb3⟩
  rw [HG2.out]
  have HB3 := Lib.hid (ext HB2.out hb3)
  have g1 := Lib.hid (d1.out.below hb3)
  have g2 := Lib.hid (d2.out.below hb3)
  clear hb3 d1 d2 k2 HB HB2
  go_wp2_with fail
  refine (HNEW.out _).mono ?_
  rintro e w4 ⟨A4, B4, n4, m4, rfl, hm4, hb4⟩
  have K4 := Lib.hid (Kept.new (f := 0) (x := false) hm4)
  have HB4 := Lib.hid (ext_alloc (ext HB3.out hb4) (.cells #[.slice A4 sn.length n4, .slice B4 0 m4, .int .i64 0, .bool false] 25))
  have i1 := Lib.hid ((g1.out.below hb4).alloc (.cells #[.slice A4 sn.length n4, .slice B4 0 m4, .int .i64 0, .bool false] 25))
  have i2 := Lib.hid ((g2.out.below hb4).alloc (.cells #[.slice A4 sn.length n4, .slice B4 0 m4, .int .i64 0, .bool false] 25))
  clear hm4 hb4 g1 g2 HB3 HNEW
  go_wp2_with fail
  refine (HRNEW.out _).mono ?_
  rintro e w5 ⟨A5, B5, n5, m5, rfl, hm5, hb5⟩
  have k5 := Kept.new (f := 0) (x := false) hm5
  have k4 := (K4.out.up hb5).up (below1 (o := .cells #[.slice A5 sn.length n5, .slice B5 0 m5, .int .i64 0, .bool false] 25))
  have HB5 := Lib.hid (ext_alloc (ext HB4.out hb5) (.cells #[.slice A5 sn.length n5, .slice B5 0 m5, .int .i64 0, .bool false] 25))
  have j1 := (i1.out.below hb5).alloc (.cells #[.slice A5 sn.length n5, .slice B5 0 m5, .int .i64 0, .bool false] 25)
  have j2 := (i2.out.below hb5).alloc (.cells #[.slice A5 sn.length n5, .slice B5 0 m5, .int .i64 0, .bool false] 25)
  clear hm5 hb5 i1 i2 HB4 HRNEW K4
  go_wp2_with fail
  obtain ⟨W0, hW0⟩ : ∃ W0, w5.alloc (.cells #[.slice A5 sn.length n5, .slice B5 0 m5, .int .i64 0, .bool false] 25) = W0 := ⟨_, rfl⟩
  rw [show ([] : List Wr).length = 0 from rfl] at k5
  rw [hW0] at k5 k4 HB5 j1 j2
  simp only [hW0]
  have hkeep : ∀ w', Below W0.heap.size W0 w' → (∀ j, w'.cell? ⟨w4.heap.size, j, none⟩ = [Value.slice A4 sn.length n4, .slice B4 0 m4, .int .i64 0, .bool false][j]?) ∧ (∀ j, w'.cell? ⟨w5.heap.size, j, none⟩ = [Value.slice A5 sn.length n5, .slice B5 0 m5, .int .i64 0, .bool false][j]?) ∧
      (∀ j, w'.cell? ⟨w.heap.size, j, none⟩ = [Value.slice A1 s1.length n1, .slice B1 c1.length m1, .int .i64 f1, .bool x1][j]?) ∧ (∀ j, w'.cell? ⟨w.heap.size + 1, j, none⟩ = [Value.slice A2 s2.length n2, .slice B2 c2.length m2, .int .i64 f2, .bool x2][j]?) :=
    fun w' hb => ⟨(k4.box.below hb).cell, (k5.box.below hb).cell, (j1.below hb).cell, (j2.below hb).cell⟩
  have HK := Lib.hid hkeep; clear hkeep
  clear j1 j2 hW0
  have hr0 := fun w (hk4 : Mem w A4 n4 B4 m4 sn []) (hk5 : Mem w A5 n5 B5 m5 sn []) => rsame_any A4 B4 A5 B5 n4 m4 n5 m5 sn sn [] [] 0 0 false false w hk4.es hk4.ws hk5.es hk5.ws HML.out (by decide)
  rw [same_is rfl rfl rfl rfl] at hr0
  have hr1 := fun w (hm : Mem w A1 n1 B1 m1 s1 c1) => right_any A1 B1 n1 m1 s1 c1 f1 x1 w hm.es hm.ws ML1.out.1 ML1.out.2
  have hr2 := fun w (hm : Mem w A1 n1 B1 m1 s1 c1) => rright_any A1 B1 n1 m1 s1 c1 f1 x1 w hm.es hm.ws ML1.out.2
  have hs1 := fun w (hm : Mem w A1 n1 B1 m1 s1 c1) (hm2 : Mem w A2 n2 B2 m2 s2 c2) => same_any A1 B1 A2 B2 n1 m1 n2 m2 s1 s2 c1 c2 f1 f2 x1 x2 w hm.es hm.ws hm2.es hm2.ws ML1.out.1 ML1.out.2 ML2.out.1 ML2.out.2
  have hs2 := fun w (hm : Mem w A1 n1 B1 m1 s1 c1) (hm2 : Mem w A2 n2 B2 m2 s2 c2) => rsame_any A1 B1 A2 B2 n1 m1 n2 m2 s1 s2 c1 c2 f1 f2 x1 x2 w hm.es hm.ws hm2.es hm2.ws ML1.out.1 ML1.out.2
  generalize rightB s1 c1 f1 = r at *
  generalize sameB s1 s2 c1 c2 f1 f2 x1 x2 = q at *
  have HM0 := Lib.hid (HM.out.up HB5.out)
  have HM02 := Lib.hid (HM2.out.up HB5.out)
  have K4 := Lib.hid k4; clear k4
  have K5 := Lib.hid k5; clear k5
  have HR0 := Lib.hid hr0; clear hr0
  have HR1 := Lib.hid hr1; clear hr1
  have HR2 := Lib.hid hr2; clear hr2
  have HS1 := Lib.hid hs1; clear hs1
  have HS2 := Lib.hid hs2; clear hs2
  go_region_held3 (fun w' => Below W0.heap.size W0 w' ∧ (∀ j, w'.cell? ⟨w4.heap.size, j, none⟩ = [Value.slice A4 sn.length n4, .slice B4 0 m4, .int .i64 0, .bool false][j]?) ∧ (∀ j, w'.cell? ⟨w5.heap.size, j, none⟩ = [Value.slice A5 sn.length n5, .slice B5 0 m5, .int .i64 0, .bool false][j]?) ∧ (∀ j, w'.cell? ⟨w.heap.size, j, none⟩ = [Value.slice A1 s1.length n1, .slice B1 c1.length m1, .int .i64 f1, .bool x1][j]?) ∧ (∀ j, w'.cell? ⟨w.heap.size + 1, j, none⟩ = [Value.slice A2 s2.length n2, .slice B2 c2.length m2, .int .i64 f2, .bool x2][j]?))
    (first | exact ⟨(Below.refl _ _).drew, HK.out _ (Below.refl _ _).drew⟩ | exact ⟨by assumption, HK.out _ (by assumption)⟩)
    (first
      | (go_at_call 12; obtain ⟨hcur, _⟩ := ‹Below W0.heap.size W0 _ ∧ _›; refine (HR0.out _ (K4.out.mem.up hcur) (K5.out.mem.up hcur)).mono ?_; rintro e w6 ⟨rfl, hb6⟩; have hB := ext hcur hb6; clear HR0)
      | (go_at_call 13; obtain ⟨hcur, _⟩ := ‹Below W0.heap.size W0 _ ∧ _›; refine (HR1.out _ (HM0.out.up hcur)).mono ?_; rintro e w6 ⟨rfl, hb6⟩; have hB := ext hcur hb6)
      | (go_at_call 14; obtain ⟨hcur, _⟩ := ‹Below W0.heap.size W0 _ ∧ _›; refine (HR2.out _ (HM0.out.up hcur)).mono ?_; rintro e w6 ⟨rfl, hb6⟩; have hB := ext hcur hb6)
      | (go_at_call 15; obtain ⟨hcur, _⟩ := ‹Below W0.heap.size W0 _ ∧ _›; refine (HS1.out _ (HM0.out.up hcur) (HM02.out.up hcur)).mono ?_; rintro e w6 ⟨rfl, hb6⟩; have hB := ext hcur hb6)
      | (go_at_call 12; obtain ⟨hcur, _⟩ := ‹Below W0.heap.size W0 _ ∧ _›; refine (HS2.out _ (HM0.out.up hcur) (HM02.out.up hcur)).mono ?_; rintro e w6 ⟨rfl, hb6⟩; have hB := ext hcur hb6))
  all_goals
    obtain ⟨hcur, _⟩ := ‹Below W0.heap.size W0 _ ∧ _›
    go_wp2_with fail
    go_ret
    exact ⟨ret_bool (by simp), ext HB5.out hcur⟩

theorem news_law (A1 B1 A2 B2 : Option Addr) (n1 m1 n2 m2 : Nat) (s1 s2 : List ByteArray) (c1 c2 : List Wr) (f1 f2 : Int) (x1 x2 : Bool) (n : Int) (w : World) (hm1 : Mem w A1 n1 B1 m1 s1 c1) (hm2 : Mem w A2 n2 B2 m2 s2 c2) :
    Calls Try.prog 3 #[.int .i64 n, .agg #[.slice A1 s1.length n1, .slice B1 c1.length m1, .int .i64 f1, .bool x1], .agg #[.slice A2 s2.length n2, .slice B2 c2.length m2, .int .i64 f2, .bool x2]] w (Yes w) := by
  cases h : greatB s1 c1 with
  | true => exact news_great1 A1 B1 A2 B2 n1 m1 n2 m2 s1 s2 c1 c2 f1 f2 x1 x2 n w hm1 h
  | false =>
    cases h2 : greatB s2 c2 with
    | true => exact news_great2 A1 B1 A2 B2 n1 m1 n2 m2 s1 s2 c1 c2 f1 f2 x1 x2 n w hm1 hm2 h h2
    | false => exact news_any A1 B1 A2 B2 n1 m1 n2 m2 s1 s2 c1 c2 f1 f2 x1 x2 n w hm1 hm2 h h2
end Go.Proofs.Ytifcmpcgpcbljaa
