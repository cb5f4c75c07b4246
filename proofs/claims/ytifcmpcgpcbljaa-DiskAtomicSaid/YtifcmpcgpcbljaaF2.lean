/- Disks: the walk of the law on fuses where all is looked at: it answers true. No other condition but that its lists lie in memory. -/
import Derived.Test.YtifcmpcgpcbljaaF1
namespace Go.Proofs.Ytifcmpcgpcbljaa
open Go.RowKit

set_option maxHeartbeats 8000000 in
theorem fuses_any (A B W : Option Addr) (n m r : Nat) (s : List ByteArray) (c l : List Wr) (f : Int) (N : Nat) (w : World) (hm : Mem w A n B m s c) (hw : Ws w w.heap.size W l) (h : greatB s c = false) (hr : rightB s c f = true) (hl : (l.length : Int) ≤ 50) (hN0 : 0 < N) (hN : N < 256) :
    Calls Try.prog 7 #[.agg #[.slice A s.length n, .slice B c.length m, .int .i64 f, .bool false], .int .u8 N, .slice W l.length r] w (Yes w) := by
  have BX := Lib.hid (Box.new w [.slice A s.length n, .slice B c.length m, .int .i64 f, .bool false] 25)
  have ML := Lib.hid (right_len h)
  have hg := great_small h
  have hcl : c.length ≤ 100 := by omega
  have HCL := Lib.hid hcl; clear hcl
  have HM := Lib.hid hm; clear hm
  have HW := Lib.hid hw; clear hw
  have HG := Lib.hid h; clear h
  have HR := Lib.hid hr; clear hr
  have harm := fun w => arm_any A B s.length n c.length m f N false w
  rw [if_neg (show ¬ (N : Int) < 0 by omega)] at harm
  have HARM := Lib.hid harm; clear harm
  clear hg
  have hN2 : ((N : Int) == 0) = false := beq_eq_false_iff_ne.2 (by omega)
  go_enter Try.func7, Try.ntmps7
  go_wp2_with fail
  refine (alive_any _).mono ?_
  rintro e w1 ⟨rfl, hb1⟩
  have k1 := (BX.out.below hb1).cell
  have b1 := Lib.hid (BX.out.below hb1)
  have HB := Lib.hid (ext below1 hb1)
  clear hb1 BX
  go_wp2_with fail
  refine (great_any A B n m s c f false _ (HM.out.up HB.out).es (HM.out.up HB.out).ws).mono ?_
  rintro e w2 ⟨rfl, hb2⟩
  rw [HG.out]
  have HB2 := Lib.hid (ext HB.out hb2)
  have b2 := Lib.hid (b1.out.below hb2)
  have k2 := b2.out.cell
  clear hb2 k1 b1 HB
  go_wp2_with fail
  refine (rright_any A B n m s c f false _ (HM.out.up HB2.out).es (HM.out.up HB2.out).ws ML.out.2).mono ?_
  rintro e w3 ⟨rfl, hb3⟩
  rw [HR.out]
  have HB3 := Lib.hid (ext HB2.out hb3)
  have b3 := Lib.hid (b2.out.below hb3)
  have k3 := b3.out.cell
  clear hb3 k2 b2 HB2
  go_wp2_with fail
  refine (HARM.out _).mono ?_
  rintro e w4 ⟨rfl, hb4⟩
  have hne := (b3.out.below hb4).lt
  have b4 := (b3.out.below hb4).alloc (.cells #[.slice A s.length n, .slice B c.length m, .int .i64 N, .bool false] 25)
  have x4 := Box.new w4 [.slice A s.length n, .slice B c.length m, .int .i64 N, .bool false] 25
  have HB4 := Lib.hid (ext_alloc (ext HB3.out hb4) (.cells #[.slice A s.length n, .slice B c.length m, .int .i64 N, .bool false] 25))
  clear hb4 k3 b3 HB3
  go_wp2
  obtain ⟨W0, hW0⟩ : ∃ W0, w4.alloc (.cells #[.slice A s.length n, .slice B c.length m, .int .i64 N, .bool false] 25) = W0 := ⟨_, rfl⟩
  rw [hW0] at b4 x4 HB4
  simp only [hW0]
  have HN := Lib.hid hne; clear hne
  have HX4 := Lib.hid x4; clear x4
  have HB4' := Lib.hid b4; clear b4
  have hm0 := HM.out.up HB4.out
  have HM0 := Lib.hid hm0; clear hm0
  clear hW0
  go_loopw [8, 9, 10, 11] (fun dn i _ _ wr => ∃ (k kd : Nat) (A' B' : Option Addr) (n' m' : Nat) (cc : List Wr) (f' : Int) (x' : Bool), k ≤ l.length ∧ i = .int .i64 k ∧ dn = .int .i64 kd ∧ kd ≤ k ∧ kd < N ∧ Hid (x' = false → f' = (N : Int) - kd) ∧ Hid (cc.length = c.length + kd) ∧
      Hid (Box wr w.heap.size [.slice A s.length n, .slice B c.length m, .int .i64 f, .bool false]) ∧ Hid (Box wr w4.heap.size [.slice A' s.length n', .slice B' cc.length m', .int .i64 f', .bool x']) ∧ Hid (Mem wr A' n' B' m' s cc) ∧ Hid (Below w.heap.size w wr)) (fun _ i _ _ _ => l.length - (intOf i).toNat)
  case atStart => exact ⟨0, 0, A, B, n, m, c, N, false, by omega, rfl, rfl, by omega, hN0, (fun _ => by omega), rfl, HB4'.out, HX4.out, HM0.out, HB4.out⟩
  case round =>
    obtain ⟨k, kd, A', B', n', m', cc, f', x', hk, rfl, rfl, hkd, hkN, HF, HCC, HBO, HBX, HMr, HBr⟩ := hrel
    have kx := HBX.out.cell
    by_cases hlt : k < l.length
    · obtain ⟨a1, rfl, hb1, hc1, hd1⟩ := (HW.out.up HBr.out) k l[k] (List.getElem?_eq_getElem hlt)
      generalize l[k] = y at *
      obtain ⟨q, d⟩ := y
      dsimp only at *
      obtain ⟨c2, f2, x2, r2, k2, hcall, hk2, hf2, hcase⟩ := fuse_step A' B' n' m' s cc f' x' q d kd N hN (by have := HCC.out; have := HCL.out; omega) hkN HF.out
      have HCALL := Lib.hid hcall; clear hcall
      have HF2 := Lib.hid hf2; clear hf2
      have HCASE := Lib.hid hcase; clear hcase
      have hkeep : ∀ w', Below wr.heap.size wr w' → (∀ j, w'.cell? ⟨w4.heap.size, j, none⟩ = [Value.slice A' s.length n', .slice B' cc.length m', .int .i64 f', .bool x'][j]?) ∧ w'.cell? (a1.add (k * 2)) = some (.int .i64 q) ∧ w'.cell? ⟨(a1.add (k * 2)).block, (a1.add (k * 2)).off + 1, none⟩ = some (.string d) :=
        fun w' hb => ⟨(HBX.out.below hb).cell, (hb.cell (p := a1.add (k * 2)) (by rw [add_block]; exact hb1)).trans hc1, (hb.cell (p := ⟨(a1.add (k * 2)).block, (a1.add (k * 2)).off + 1, none⟩) (by show (a1.add (k * 2)).block < wr.heap.size; rw [add_block]; exact hb1)).trans hd1⟩
      have HK := Lib.hid hkeep; clear hkeep hc1 hd1 kx
      have hki : (k : Int) < (l.length : Int) := by omega
      go_wp2
      go_region_held3 (fun w' => Below wr.heap.size wr w' ∧ (∀ j, w'.cell? ⟨w4.heap.size, j, none⟩ = [Value.slice A' s.length n', .slice B' cc.length m', .int .i64 f', .bool x'][j]?) ∧ w'.cell? (a1.add (k * 2)) = some (.int .i64 q) ∧ w'.cell? ⟨(a1.add (k * 2)).block, (a1.add (k * 2)).off + 1, none⟩ = some (.string d))
        (first | exact ⟨(Below.refl _ _).drew, HK.out _ (Below.refl _ _).drew⟩ | exact ⟨by assumption, HK.out _ (by assumption)⟩ | exact ⟨ext_alloc hB _, HK.out _ (ext_alloc hB _)⟩ | exact ⟨below4 hB (Nat.le_refl _) _ _ _ _, HK.out _ (below4 hB (Nat.le_refl _) _ _ _ _)⟩ | exact ⟨(ext_alloc (Below.refl _ _) _).drew, HK.out _ (ext_alloc (Below.refl _ _) _).drew⟩)
        (first
          | (go_at_call 16; obtain ⟨hcur, _⟩ := ‹Below wr.heap.size wr _ ∧ _›; refine (HCALL.out _ (HMr.out.up hcur)).mono ?_; rintro e w6 ⟨A6, B6, n6, m6, rfl, hm6, hb6⟩; have by6 := (show Box ((wr.alloc (.cells #[.slice none 0 0, .slice none 0 0, .int .i64 0, .bool false] 25)).drew) wr.heap.size [.slice none 0 0, .slice none 0 0, .int .i64 0, .bool false] from Box.new wr [.slice none 0 0, .slice none 0 0, .int .i64 0, .bool false] 25).below hb6; have ky := by6.cell; have zy := by6.frozen; have hB := ext hcur hb6; have HM6 := Lib.hid hm6; clear hm6)
          | (go_at_call 16; obtain ⟨hcur, _⟩ := ‹Below wr.heap.size wr _ ∧ _›; refine (HCALL.out _ (HMr.out.up hcur)).mono ?_; rintro e w6 ⟨A6, B6, n6, m6, rfl, hm6, hb6⟩; have hB := ext hcur hb6; have HM6 := Lib.hid hm6; clear hm6))
      · have hy := Box.new w6 [.slice A6 s.length n6, .slice B6 c2.length m6, .int .i64 f2, .bool x2] 25
        have hx := (HBX.out.below hB).alloc (.cells #[.slice A6 s.length n6, .slice B6 c2.length m6, .int .i64 f2, .bool x2] 25)
        have ho := (HBO.out.below hB).alloc (.cells #[.slice A6 s.length n6, .slice B6 c2.length m6, .int .i64 f2, .bool x2] 25)
        have hm := HM6.out.up (below1 (o := .cells #[.slice A6 s.length n6, .slice B6 c2.length m6, .int .i64 f2, .bool x2] 25))
        have hbl := ext_alloc (ext HBr.out hB) (.cells #[.slice A6 s.length n6, .slice B6 c2.length m6, .int .i64 f2, .bool x2] 25)
        obtain ⟨wz, hwz⟩ : ∃ wz, w6.alloc (.cells #[.slice A6 s.length n6, .slice B6 c2.length m6, .int .i64 f2, .bool x2] 25) = wz := ⟨_, rfl⟩
        rw [hwz] at hy hx ho hm hbl
        simp only [hwz]
        clear hwz 
        have HBXz := Lib.hid hx; clear hx
        have HBOz := Lib.hid ho; clear ho
        have HMz := Lib.hid hm; clear hm
        have HBz := Lib.hid hbl; clear hbl
        have ky := hy.cell
        have kx := HBXz.out.cell
        have zx := HBXz.out.frozen
        clear hy HCALL HK HBX HBO HMr HBr
        rcases HCASE.out with ⟨rfl, rfl, h2, rfl⟩ | ⟨rfl, rfl, h2, rfl⟩ | ⟨h0, h6, rfl, h2, rfl⟩
        · have hcc2 : c2.length = c.length + (kd + 1) := by have := HCC.out; omega
          have HCC2 := Lib.hid hcc2; clear hcc2 h2 HCASE HCC HF
          go_wp2
          go_roundw
          case rel => exact ⟨k + 1, kd + 1, A6, B6, n6, m6, c2, f2, false, by omega, by go_num, by go_num, by omega, hk2, HF2.out, HCC2.out, HBOz.out.past4 (by have := HN.out; omega) _ _ _ _, HBXz.out.four _ _ _ _, mem_past4 HBXz.out HMz.out _ _ _ _, below4 HBz.out (by have := HN.out; omega) _ _ _ _⟩
          case measure => simp [intOf]; omega
        · have hcc2 : c2.length = c.length + k2 := by have := HCC.out; omega
          have hle : ((c2.length : Int) == (cc.length : Int)) = true := by simp [h2]
          have hln : ((c2.length : Int) != (cc.length : Int)) = false := by simp [h2]
          have HCC2 := Lib.hid hcc2; clear hcc2 h2 HCASE HCC HF
          go_wp2
          go_roundw
          case rel => exact ⟨k + 1, k2, A6, B6, n6, m6, c2, f2, true, by omega, by go_num, by go_num, by omega, hk2, HF2.out, HCC2.out, HBOz.out.past4 (by have := HN.out; omega) _ _ _ _, HBXz.out.four _ _ _ _, mem_past4 HBXz.out HMz.out _ _ _ _, below4 HBz.out (by have := HN.out; omega) _ _ _ _⟩
          case measure => simp [intOf]; omega
        · have hcc2 : c2.length = c.length + k2 := by have := HCC.out; omega
          have hle : ((c2.length : Int) == (cc.length : Int)) = true := by simp [h2]
          have hln : ((c2.length : Int) != (cc.length : Int)) = false := by simp [h2]
          have e0 : (r2 == 0) = false := beq_eq_false_iff_ne.2 h0
          have e0b : (r2 != 0) = true := by simp [bne, e0]
          have e6 : (r2 == 6) = false := beq_eq_false_iff_ne.2 h6
          have HCC2 := Lib.hid hcc2; clear hcc2 h2 HCASE HCC HF h0 h6
          go_wp2
          go_roundw
          case rel => exact ⟨k + 1, k2, A6, B6, n6, m6, c2, f2, false, by omega, by go_num, by go_num, by omega, hk2, HF2.out, HCC2.out, HBOz.out.past4 (by have := HN.out; omega) _ _ _ _, HBXz.out.four _ _ _ _, mem_past4 HBXz.out HMz.out _ _ _ _, below4 HBz.out (by have := HN.out; omega) _ _ _ _⟩
          case measure => simp [intOf]; omega
      · have hy := by6.four (.slice A6 s.length n6) (.slice B6 c2.length m6) (.int .i64 f2) (.bool x2)
        have hx := (HBX.out.below hB).past4 (b := wr.heap.size) (by have := HBX.out.lt; omega) (.slice A6 s.length n6) (.slice B6 c2.length m6) (.int .i64 f2) (.bool x2)
        have ho := (HBO.out.below hB).past4 (b := wr.heap.size) (by have := HBO.out.lt; omega) (.slice A6 s.length n6) (.slice B6 c2.length m6) (.int .i64 f2) (.bool x2)
        have hm := mem_past4 by6 HM6.out (.slice A6 s.length n6) (.slice B6 c2.length m6) (.int .i64 f2) (.bool x2)
        have hbl := below4 (ext HBr.out hB) HBr.out.size (.slice A6 s.length n6) (.slice B6 c2.length m6) (.int .i64 f2) (.bool x2)
        obtain ⟨wz, hwz⟩ : ∃ wz, (((w6.setCell ⟨wr.heap.size, 0, none⟩ (.slice A6 s.length n6)).setCell ⟨wr.heap.size, 1, none⟩ (.slice B6 c2.length m6)).setCell ⟨wr.heap.size, 2, none⟩ (.int .i64 f2)).setCell ⟨wr.heap.size, 3, none⟩ (.bool x2) = wz := ⟨_, rfl⟩
        rw [hwz] at hy hx ho hm hbl
        simp only [hwz]
        clear hwz by6 ky zy
        have HBXz := Lib.hid hx; clear hx
        have HBOz := Lib.hid ho; clear ho
        have HMz := Lib.hid hm; clear hm
        have HBz := Lib.hid hbl; clear hbl
        have ky := hy.cell
        have kx := HBXz.out.cell
        have zx := HBXz.out.frozen
        clear hy HCALL HK HBX HBO HMr HBr
        rcases HCASE.out with ⟨rfl, rfl, h2, rfl⟩ | ⟨rfl, rfl, h2, rfl⟩ | ⟨h0, h6, rfl, h2, rfl⟩
        · have hcc2 : c2.length = c.length + (kd + 1) := by have := HCC.out; omega
          have HCC2 := Lib.hid hcc2; clear hcc2 h2 HCASE HCC HF
          go_wp2
          go_roundw
          case rel => exact ⟨k + 1, kd + 1, A6, B6, n6, m6, c2, f2, false, by omega, by go_num, by go_num, by omega, hk2, HF2.out, HCC2.out, HBOz.out.past4 (by have := HN.out; omega) _ _ _ _, HBXz.out.four _ _ _ _, mem_past4 HBXz.out HMz.out _ _ _ _, below4 HBz.out (by have := HN.out; omega) _ _ _ _⟩
          case measure => simp [intOf]; omega
        · have hcc2 : c2.length = c.length + k2 := by have := HCC.out; omega
          have hle : ((c2.length : Int) == (cc.length : Int)) = true := by simp [h2]
          have hln : ((c2.length : Int) != (cc.length : Int)) = false := by simp [h2]
          have HCC2 := Lib.hid hcc2; clear hcc2 h2 HCASE HCC HF
          go_wp2
          go_roundw
          case rel => exact ⟨k + 1, k2, A6, B6, n6, m6, c2, f2, true, by omega, by go_num, by go_num, by omega, hk2, HF2.out, HCC2.out, HBOz.out.past4 (by have := HN.out; omega) _ _ _ _, HBXz.out.four _ _ _ _, mem_past4 HBXz.out HMz.out _ _ _ _, below4 HBz.out (by have := HN.out; omega) _ _ _ _⟩
          case measure => simp [intOf]; omega
        · have hcc2 : c2.length = c.length + k2 := by have := HCC.out; omega
          have hle : ((c2.length : Int) == (cc.length : Int)) = true := by simp [h2]
          have hln : ((c2.length : Int) != (cc.length : Int)) = false := by simp [h2]
          have e0 : (r2 == 0) = false := beq_eq_false_iff_ne.2 h0
          have e0b : (r2 != 0) = true := by simp [bne, e0]
          have e6 : (r2 == 6) = false := beq_eq_false_iff_ne.2 h6
          have HCC2 := Lib.hid hcc2; clear hcc2 h2 HCASE HCC HF h0 h6
          go_wp2
          go_roundw
          case rel => exact ⟨k + 1, k2, A6, B6, n6, m6, c2, f2, false, by omega, by go_num, by go_num, by omega, hk2, HF2.out, HCC2.out, HBOz.out.past4 (by have := HN.out; omega) _ _ _ _, HBXz.out.four _ _ _ _, mem_past4 HBXz.out HMz.out _ _ _ _, below4 HBz.out (by have := HN.out; omega) _ _ _ _⟩
          case measure => simp [intOf]; omega
    · obtain rfl : k = l.length := by omega
      have ko := HBO.out.cell
      have hcl : (c.length : Int) ≤ 100 := by have := HCL.out; omega
      have hcc : (cc.length : Int) = (c.length : Int) + (kd : Int) := by have := HCC.out; omega
      have hce : ((cc.length : Int) == (c.length : Int) + (kd : Int)) = true := by rw [hcc]; simp
      have HCE := Lib.hid hce
      have hkN2 : (kd : Int) < (N : Int) := by omega
      clear hcc
      cases x' with
      | true =>
        go_wp2
        go_ret
        exact ⟨rfl, HBr.out⟩
      | false =>
        have hf2 := HF.out rfl
        subst hf2
        go_wp2
        go_ret
        exact ⟨rfl, HBr.out⟩
theorem fuses_law (A B W : Option Addr) (n m r : Nat) (s : List ByteArray) (c l : List Wr) (f N : Int) (x : Bool) (w : World) (hm : Mem w A n B m s c) (hw : Ws w w.heap.size W l) (h0 : 0 ≤ N) (h1 : N < 256) :
    Calls Try.prog 7 #[.agg #[.slice A s.length n, .slice B c.length m, .int .i64 f, .bool x], .int .u8 N, .slice W l.length r] w (Yes w) := by
  cases h : greatB s c with
  | true => exact fuses_great A B W n m r s c l f N x w hm h
  | false =>
    cases hr : rightB s c f with
    | false => exact fuses_stop A B W n m r s c l f N x w hm h (.inl hr)
    | true =>
      cases x with
      | true => exact fuses_stop A B W n m r s c l f N true w hm h (.inr ⟨hr, .inl rfl⟩)
      | false =>
        by_cases hl : 50 < (l.length : Int)
        · exact fuses_stop A B W n m r s c l f N false w hm h (.inr ⟨hr, .inr ⟨rfl, .inl hl⟩⟩)
        · by_cases hN : N = 0
          · exact fuses_stop A B W n m r s c l f N false w hm h (.inr ⟨hr, .inr ⟨rfl, .inr ⟨by omega, hN⟩⟩⟩)
          · obtain ⟨k, rfl⟩ := Int.eq_ofNat_of_zero_le h0
            exact fuses_any A B W n m r s c l f k w hm hw h hr (by omega) (by omega) (by omega)
end Go.Proofs.Ytifcmpcgpcbljaa
