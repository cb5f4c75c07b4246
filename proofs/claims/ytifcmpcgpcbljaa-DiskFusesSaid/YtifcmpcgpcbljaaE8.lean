/- Disks: the walk of the law on revivals: it answers true, for every disk, number and list. No other condition but that its lists lie in memory. -/
import Derived.Test.YtifcmpcgpcbljaaE7
namespace Go.Proofs.Ytifcmpcgpcbljaa
open Go.RowKit

set_option maxHeartbeats 1000000 in
theorem rev_great (A B K : Option Addr) (n m r : Nat) (s : List ByteArray) (c : List Wr) (l : List Bool) (f i : Int) (x : Bool) (w : World) (hm : Mem w A n B m s c) (h : greatB s c = true) :
    Calls Try.prog 5 #[.agg #[.slice A s.length n, .slice B c.length m, .int .i64 f, .bool x], .int .i64 i, .slice K l.length r] w (Yes w) := by
  have BX := Lib.hid (Box.new w [.slice A s.length n, .slice B c.length m, .int .i64 f, .bool x] 25)
  have HM := Lib.hid hm; clear hm
  have HG := Lib.hid h; clear h
  go_enter Try.func5, Try.ntmps5
  go_wp2_with fail
  refine (alive_any _).mono ?_
  rintro e w1 ⟨rfl, hb1⟩
  have k1 := (BX.out.below hb1).cell
  have HB := Lib.hid (ext below1 hb1)
  clear hb1 BX
  go_wp2_with fail
  refine (great_any A B n m s c f x _ (HM.out.up HB.out).es (HM.out.up HB.out).ws).mono ?_
  rintro e w2 ⟨rfl, hb2⟩
  rw [HG.out]
  have HB2 := Lib.hid (ext HB.out hb2)
  clear hb2
  go_wp2_with fail
  go_ret
  exact ⟨rfl, HB2.out⟩

set_option maxHeartbeats 1000000 in
theorem rev_long (A B K : Option Addr) (n m r : Nat) (s : List ByteArray) (c : List Wr) (l : List Bool) (f i : Int) (x : Bool) (w : World) (hm : Mem w A n B m s c) (h : greatB s c = false) (hl : 200 < (l.length : Int)) :
    Calls Try.prog 5 #[.agg #[.slice A s.length n, .slice B c.length m, .int .i64 f, .bool x], .int .i64 i, .slice K l.length r] w (Yes w) := by
  have BX := Lib.hid (Box.new w [.slice A s.length n, .slice B c.length m, .int .i64 f, .bool x] 25)
  have HM := Lib.hid hm; clear hm
  have HG := Lib.hid h; clear h
  go_enter Try.func5, Try.ntmps5
  go_wp2_with fail
  refine (alive_any _).mono ?_
  rintro e w1 ⟨rfl, hb1⟩
  have k1 := (BX.out.below hb1).cell
  have HB := Lib.hid (ext below1 hb1)
  clear hb1 BX
  go_wp2_with fail
  refine (great_any A B n m s c f x _ (HM.out.up HB.out).es (HM.out.up HB.out).ws).mono ?_
  rintro e w2 ⟨rfl, hb2⟩
  rw [HG.out]
  have HB2 := Lib.hid (ext HB.out hb2)
  clear hb2
  go_wp2_with fail
  go_ret
  exact ⟨rfl, HB2.out⟩

theorem right_len {s : List ByteArray} {c : List Wr} (h : greatB s c = false) : s.length ≤ maxLen ∧ c.length ≤ maxLen := by
  have := great_small h
  unfold maxLen
  omega

set_option maxHeartbeats 1000000 in
theorem rev_wrong (A B K : Option Addr) (n m r : Nat) (s : List ByteArray) (c : List Wr) (l : List Bool) (f i : Int) (x : Bool) (w : World) (hm : Mem w A n B m s c) (h : greatB s c = false) (hl : (l.length : Int) ≤ 200) (hr : rightB s c f = false) :
    Calls Try.prog 5 #[.agg #[.slice A s.length n, .slice B c.length m, .int .i64 f, .bool x], .int .i64 i, .slice K l.length r] w (Yes w) := by
  have BX := Lib.hid (Box.new w [.slice A s.length n, .slice B c.length m, .int .i64 f, .bool x] 25)
  have ML := Lib.hid (right_len h)
  have HM := Lib.hid hm; clear hm
  have HG := Lib.hid h; clear h
  have HR := Lib.hid hr; clear hr
  go_enter Try.func5, Try.ntmps5
  go_wp2_with fail
  refine (alive_any _).mono ?_
  rintro e w1 ⟨rfl, hb1⟩
  have k1 := (BX.out.below hb1).cell
  have b1 := Lib.hid (BX.out.below hb1)
  have HB := Lib.hid (ext below1 hb1)
  clear hb1 BX
  go_wp2_with fail
  refine (great_any A B n m s c f x _ (HM.out.up HB.out).es (HM.out.up HB.out).ws).mono ?_
  rintro e w2 ⟨rfl, hb2⟩
  rw [HG.out]
  have HB2 := Lib.hid (ext HB.out hb2)
  have k2 := (b1.out.below hb2).cell
  clear hb2 k1 b1
  go_wp2_with fail
  refine (rright_any A B n m s c f x _ (HM.out.up HB2.out).es (HM.out.up HB2.out).ws ML.out.2).mono ?_
  rintro e w3 ⟨rfl, hb3⟩
  rw [HR.out]
  have HB3 := Lib.hid (ext HB2.out hb3)
  clear hb3
  go_wp2_with fail
  go_ret
  exact ⟨rfl, HB3.out⟩

set_option maxHeartbeats 4000000 in
theorem rev_any (A B K : Option Addr) (n m r : Nat) (s : List ByteArray) (c : List Wr) (l : List Bool) (f i : Int) (x : Bool) (w : World) (hm : Mem w A n B m s c) (hk : Es Value.bool w w.heap.size K l) (h : greatB s c = false) (hl : (l.length : Int) ≤ 200) (hr : rightB s c f = true) :
    Calls Try.prog 5 #[.agg #[.slice A s.length n, .slice B c.length m, .int .i64 f, .bool x], .int .i64 i, .slice K l.length r] w (Yes w) := by
  have BX := Lib.hid (Box.new w [.slice A s.length n, .slice B c.length m, .int .i64 f, .bool x] 25)
  have ml := right_len h
  have hg := great_small h
  obtain ⟨_, hs64, _, _, hx⟩ := right_of hr
  have hll : l.length ≤ maxLen := by unfold maxLen; omega
  have hrev := fun w (hm : Mem w A n B m s c) (hk : Es Value.bool w w.heap.size K l) => revive_any A B K n m r s c l f x w hm hk hs64 (by omega) hll hx
  have hrrev := fun w (hm : Mem w A n B m s c) (hk : Es Value.bool w w.heap.size K l) => rrevive_any A B K n m r s c l f x w hm hk hs64 (by omega) hll hx
  have hul : (layL s (keptL c l c.length)).length ≤ maxLen := by rw [lay_length]; exact ml.1
  generalize layL s (keptL c l c.length) = u at *
  have harm := fun w => arm_any A B s.length n c.length m f i x w
  have hrarm := fun w => rarm_any A B s.length n c.length m f i x w
  generalize (if i < 0 then (0 : Int) else i) = fi at *
  have hcr := fun w => crash_any A B s.length n c.length m f x w
  have hrcr := fun w => rcrash_any A B s.length n c.length m f x w
  have hs1 := fun w (hm : Mem w A n B m s c) => rsame_any A B A B n m n m s s c c fi fi x x w hm.es hm.ws hm.es hm.ws ml.1 ml.2
  rw [same_is rfl rfl rfl rfl] at hs1
  have hs2 := fun w (hm : Mem w A n B m s c) => rsame_any A B A B n m n m s s c c 0 0 true true w hm.es hm.ws hm.es hm.ws ml.1 ml.2
  rw [same_is rfl rfl rfl rfl] at hs2
  have hs3 := fun A6 B6 A7 B7 n6 m6 n7 m7 w (hm : Mem w A6 n6 B6 m6 u []) (hm2 : Mem w A7 n7 B7 m7 u []) => rsame_any A6 B6 A7 B7 n6 m6 n7 m7 u u [] [] 0 0 false false w hm.es hm.ws hm2.es hm2.ws hul (by decide)
  rw [same_is rfl rfl rfl rfl] at hs3
  have ML := Lib.hid ml; clear ml
  have HM := Lib.hid hm; clear hm
  have HKS := Lib.hid hk; clear hk
  have HG := Lib.hid h; clear h
  have HR := Lib.hid hr; clear hr
  have HREV := Lib.hid hrev; clear hrev
  have HRREV := Lib.hid hrrev; clear hrrev
  have HARM := Lib.hid harm; clear harm
  have HRARM := Lib.hid hrarm; clear hrarm
  have HCR := Lib.hid hcr; clear hcr
  have HRCR := Lib.hid hrcr; clear hrcr
  have HS1 := Lib.hid hs1; clear hs1
  have HS2 := Lib.hid hs2; clear hs2
  have HS3 := Lib.hid hs3; clear hs3
  clear hx hll hul hg hs64
  go_enter Try.func5, Try.ntmps5
  go_wp2_with fail
  refine (alive_any _).mono ?_
  rintro e w1 ⟨rfl, hb1⟩
  have k1 := (BX.out.below hb1).cell
  have b1 := Lib.hid (BX.out.below hb1)
  have HB := Lib.hid (ext below1 hb1)
  clear hb1 BX
  go_wp2_with fail
  refine (great_any A B n m s c f x _ (HM.out.up HB.out).es (HM.out.up HB.out).ws).mono ?_
  rintro e w2 ⟨rfl, hb2⟩
  rw [HG.out]
  have HB2 := Lib.hid (ext HB.out hb2)
  have b2 := Lib.hid (b1.out.below hb2)
  have k2 := b2.out.cell
  clear hb2 k1 b1
  go_wp2_with fail
  refine (rright_any A B n m s c f x _ (HM.out.up HB2.out).es (HM.out.up HB2.out).ws ML.out.2).mono ?_
  rintro e W0 ⟨rfl, hb3⟩
  rw [HR.out]
  have HB3 := Lib.hid (ext HB2.out hb3)
  have b3 := b2.out.below hb3
  have hkeep : ∀ w', Below W0.heap.size W0 w' → (∀ j, w'.cell? ⟨w.heap.size, j, none⟩ = [Value.slice A s.length n, .slice B c.length m, .int .i64 f, .bool x][j]?) := fun w' hb => (b3.below hb).cell
  have HK := Lib.hid hkeep; clear hkeep
  have HM0 := Lib.hid (HM.out.up HB3.out)
  have HK0 := Lib.hid (HKS.out.up HB3.out)
  clear hb3 k2 b2 b3
  go_wp2_with fail
  go_region_held3 (fun w' => Below W0.heap.size W0 w' ∧ (∀ j, w'.cell? ⟨w.heap.size, j, none⟩ = [Value.slice A s.length n, .slice B c.length m, .int .i64 f, .bool x][j]?))
    (first | exact ⟨(Below.refl _ _).drew, HK.out _ (Below.refl _ _).drew⟩ | exact ⟨by assumption, HK.out _ (by assumption)⟩)
    (first
      | (go_at_call 22; obtain ⟨hcur, _⟩ := ‹Below W0.heap.size W0 _ ∧ _›; refine (HARM.out _).mono ?_; rintro e w6 ⟨rfl, hb6⟩; have hB := ext hcur hb6)
      | (go_at_call 23; obtain ⟨hcur, _⟩ := ‹Below W0.heap.size W0 _ ∧ _›; refine (HRARM.out _).mono ?_; rintro e w6 ⟨rfl, hb6⟩; have hB := ext hcur hb6)
      | (go_at_call 12; obtain ⟨hcur, _⟩ := ‹Below W0.heap.size W0 _ ∧ _›; refine (HS1.out _ (HM0.out.up hcur)).mono ?_; rintro e w6 ⟨rfl, hb6⟩; have hB := ext hcur hb6; clear HS1)
      | (go_at_call 24; obtain ⟨hcur, _⟩ := ‹Below W0.heap.size W0 _ ∧ _›; refine (HCR.out _).mono ?_; rintro e w6 ⟨rfl, hb6⟩; have hB := ext hcur hb6)
      | (go_at_call 25; obtain ⟨hcur, _⟩ := ‹Below W0.heap.size W0 _ ∧ _›; refine (HRCR.out _).mono ?_; rintro e w6 ⟨rfl, hb6⟩; have hB := ext hcur hb6)
      | (go_at_call 12; obtain ⟨hcur, _⟩ := ‹Below W0.heap.size W0 _ ∧ _›; refine (HS2.out _ (HM0.out.up hcur)).mono ?_; rintro e w6 ⟨rfl, hb6⟩; have hB := ext hcur hb6; clear HS2)
      | (go_at_call 26; obtain ⟨hcur, _⟩ := ‹Below W0.heap.size W0 _ ∧ _›; refine (HREV.out _ (HM0.out.up hcur) (HK0.out.up hcur)).mono ?_; rintro e w7 ⟨A7, B7, n7, m7, rfl, hm7, hb7⟩; have hB := ext hcur hb7; have HM7 := Lib.hid hm7; clear hm7)
      | (go_at_call 27; obtain ⟨hcur, _⟩ := ‹Below W0.heap.size W0 _ ∧ _›; refine (HRREV.out _ (HM0.out.up hcur) (HK0.out.up hcur)).mono ?_; rintro e w8 ⟨A8, B8, n8, m8, rfl, hm8, hb8⟩; have hB := ext hcur hb8; have HM8 := Lib.hid hm8; have HM78 := Lib.hid (HM7.out.up hb8); clear hm8)
      | (go_at_call 12; obtain ⟨hcur, _⟩ := ‹Below W0.heap.size W0 _ ∧ _›; refine (HS3.out _ _ _ _ _ _ _ _ _ HM78.out HM8.out).mono ?_; rintro e w9 ⟨rfl, hb9⟩; have hB := ext hcur hb9))
  all_goals
    obtain ⟨hcur, _⟩ := ‹Below W0.heap.size W0 _ ∧ _›
    go_wp2_with fail
    go_ret
    exact ⟨ret_bool (by simp), ext HB3.out hcur⟩

theorem rev_law (A B K : Option Addr) (n m r : Nat) (s : List ByteArray) (c : List Wr) (l : List Bool) (f i : Int) (x : Bool) (w : World) (hm : Mem w A n B m s c) (hk : Es Value.bool w w.heap.size K l) :
    Calls Try.prog 5 #[.agg #[.slice A s.length n, .slice B c.length m, .int .i64 f, .bool x], .int .i64 i, .slice K l.length r] w (Yes w) := by
  cases h : greatB s c with
  | true => exact rev_great A B K n m r s c l f i x w hm h
  | false =>
    by_cases hl : 200 < (l.length : Int)
    · exact rev_long A B K n m r s c l f i x w hm h hl
    · cases hr : rightB s c f with
      | false => exact rev_wrong A B K n m r s c l f i x w hm h (by omega) hr
      | true => exact rev_any A B K n m r s c l f i x w hm hk h (by omega) hr
end Go.Proofs.Ytifcmpcgpcbljaa
