/- Disks: what a sector holds, and the flush, by the document's own way, for every disk that may be. No other condition but that its lists lie in memory. -/
import Derived.Test.YtlgfinomkpingaaD8
namespace Go.Proofs.Ytlgfinomkpingaa
open Go.RowKit

set_option maxRecDepth 100000 in
set_option maxHeartbeats 1000000 in
theorem holds_any (A B : Option Addr) (n m : Nat) (s : List ByteArray) (c : List Wr) (f : Int) (x : Bool) (i : Nat) (t : ByteArray) (w : World) (hm : Mem w A n B m s c) (hi : s[i]? = some t) (hc : c.length ≤ maxLen) :
    Calls Try.prog 50 #[.agg #[.slice A s.length n, .slice B c.length m, .int .i64 f, .bool x], .int .i64 i] w fun e w' => e = .returned (.string (holdsL c i t)) ∧ Below w.heap.size w w' := by
  unfold maxLen at hc
  obtain ⟨hlt, _⟩ := List.getElem?_eq_some_iff.1 hi
  obtain ⟨a0, rfl, hb0, hc0⟩ := hm.es i t hi
  have hc0' := cell_past hc0
  have HW := Lib.hid hm.ws
  clear hm hi hc0
  go_enter Try.func50, Try.ntmps50
  go_wp2
  go_loop [5, 6] (fun v j => ∃ k : Nat, k ≤ c.length ∧ j = .int .i64 k ∧ v = .string (holdsL (c.take k) i t)) (fun _ j => c.length - (intOf j).toNat)
  case atStart => exact ⟨0, by omega, rfl, rfl⟩
  case round =>
    obtain ⟨k, hk, rfl, rfl⟩ := hrel
    by_cases hlt2 : k < c.length
    · obtain ⟨a1, rfl, hb1, hc1, hd1⟩ := HW.out k c[k] (List.getElem?_eq_getElem hlt2)
      have hc2 := cell_past hc1
      have hd2 := cell_past hd1
      have hs : holdsL (c.take (k + 1)) i t = if c[k].1 = (i : Int) then c[k].2 else holdsL (c.take k) i t := by rw [take_snoc c k hlt2, holds_snoc]
      clear hc1 hd1
      generalize c[k] = y at *
      obtain ⟨q, d⟩ := y
      dsimp only at *
      generalize holdsL (c.take k) i t = u at *
      by_cases hq : q = (i : Int)
      · subst hq
        rw [if_pos rfl] at hs
        have HS := Lib.hid hs; clear hs
        go_wp2
        go_round
        case rel => exact ⟨k + 1, by omega, by go_num, by rw [HS.out]⟩
        case measure => simp [intOf]; omega
      · rw [if_neg hq] at hs
        have HS := Lib.hid hs; clear hs
        have hqb : (q == (i : Int)) = false := beq_eq_false_iff_ne.2 hq
        clear hq
        go_wp2
        go_round
        case rel => exact ⟨k + 1, by omega, by go_num, by rw [HS.out]⟩
        case measure => simp [intOf]; omega
    · obtain rfl : k = c.length := by omega
      rw [List.take_length]
      go_wp2
      go_ret
      exact ⟨rfl, below1⟩

theorem own_up {w w' : World} {base size n : Nat} {e : TypeId} {v : Value} {xs : List Value} (h : w.ownsRow base e size v n xs) (hb : Below w.heap.size w w') : w'.ownsRow base e size v n xs :=
  h.kept (row := none) ⟨hb.os, hb.tape, hb.output, hb.size, fun k hk _ => hb.block k hk⟩ (by cases v.ownBlock <;> simp)
theorem es_one (w : World) (t : ByteArray) : Es Value.string (w.alloc (.cells #[.string t] 9)) (w.alloc (.cells #[.string t] 9)).heap.size (some ⟨w.heap.size, 0, none⟩) [t] := by
  intro j x hj
  match j, hj with
  | 0, hj =>
    simp at hj
    subst hj
    refine ⟨_, rfl, by simp, ?_⟩
    have : (⟨w.heap.size, 0, none⟩ : Addr).add 0 = ⟨w.heap.size, 0, none⟩ := by unfold Addr.add; split <;> simp_all
    rw [this, World.cell?_alloc_mark w _ 9 (0, 0)]
    rfl

theorem rflush_dead (A B : Option Addr) (n1 n2 m1 m2 : Nat) (f : Int) (w : World) :
    Calls Try.prog 33 #[.agg #[.slice A n1 n2, .slice B m1 m2, .int .i64 f, .bool true]] w fun e w' => e = .returned (.tuple #[.agg #[.slice A n1 n2, .slice B m1 m2, .int .i64 f, .bool true], .int .i64 6]) ∧ Below w.heap.size w w' := by
  go_enter Try.func33, Try.ntmps33
  go_wp2
  refine bodyPost_ret (v := .tuple #[.agg #[.slice A n1 n2, .slice B m1 m2, .int .i64 f, .bool true], .int .i64 6]) (by simp [results, Try.results33, go_sem]) rfl ⟨rfl, below2⟩

set_option maxRecDepth 100000 in
set_option maxHeartbeats 1000000 in
theorem rflush_dies (A B : Option Addr) (n1 n2 m1 m2 : Nat) (w : World) :
    Calls Try.prog 33 #[.agg #[.slice A n1 n2, .slice B m1 m2, .int .i64 1, .bool false]] w fun e w' => e = .returned (.tuple #[.agg #[.slice A n1 n2, .slice B m1 m2, .int .i64 0, .bool true], .int .i64 6]) ∧ Below w.heap.size w w' := by
  go_enter Try.func33, Try.ntmps33
  go_wp2
  refine bodyPost_ret (v := .tuple #[.agg #[.slice A n1 n2, .slice B m1 m2, .int .i64 0, .bool true], .int .i64 6]) (by simp [results, Try.results33, go_sem]) rfl ⟨rfl, ?_⟩
  exact ext_alloc (ext_alloc below2 _) _

set_option maxRecDepth 100000 in
set_option maxHeartbeats 2000000 in
theorem rflush_any (A B : Option Addr) (n m : Nat) (s : List ByteArray) (c : List Wr) (f : Int) (w : World) (hm : Mem w A n B m s c) (hl : s.length ≤ 64) (hc : c.length ≤ maxLen) (hf : f < 9223372036854775808) (hf1 : f ≠ 1) (hx : c.any (misfitW s.length) = false) :
    Calls Try.prog 33 #[.agg #[.slice A s.length n, .slice B c.length m, .int .i64 f, .bool false]] w (GivesD (layL s c) [] (burnF f) false 0 w) := by
  have hfit := fits hx
  have hbu := fun w => rburn_any A B s.length n c.length m f false w hf
  have hbd : burnD f false = false := by unfold burnD; rw [if_neg hf1]
  rw [hbd] at hbu
  have hat := fun j hj => lay_at c s j hj fun x hx => (hfit x hx).1
  have hlen := lay_length c s
  have HM := Lib.hid hm; clear hm
  have HL := Lib.hid hl
  have HC := Lib.hid hc; clear hc
  have HAT := Lib.hid hat; clear hat
  have HLEN := Lib.hid hlen; clear hlen
  clear hbd hf1 hx hfit
  generalize burnF f = f' at *
  have B1 := Lib.hid ((Box.new w [.slice A s.length n, .slice B c.length m, .int .i64 f, .bool false] 25).alloc (.cells #[.slice none 0 0, .slice none 0 0, .int .i64 0, .bool false] 25))
  have B2 := Lib.hid (Box.new2 w (.cells #[.slice A s.length n, .slice B c.length m, .int .i64 f, .bool false] 25) [.slice none 0 0, .slice none 0 0, .int .i64 0, .bool false] 25)
  go_enter Try.func33, Try.ntmps33
  go_wp2_with fail
  refine (hbu _).mono ?_
  rintro e w1 ⟨rfl, hb1⟩
  have b1 := B1.out.below hb1
  have b2 := B2.out.below hb1
  have k1 := b1.cell
  have z1 := b1.frozen
  have k2 := b2.cell
  have z2 := b2.frozen
  have b1' := b1.four (.slice A s.length n) (.slice B c.length m) (.int .i64 f') (.bool false)
  have b2' := b2.past4 (b := w.heap.size) (by simp) (.slice A s.length n) (.slice B c.length m) (.int .i64 f') (.bool false)
  have hbw := below4 (ext below2 hb1) (Nat.le_refl _) (.slice A s.length n) (.slice B c.length m) (.int .i64 f') (.bool false)
  have B3 := Lib.hid b1'
  have B4 := Lib.hid b2'
  have HB := Lib.hid hbw
  clear b1 b2 b1' b2' hbw hb1 B1 B2 hbu
  go_wp2_with fail
  generalize (((w1.setCell ⟨w.heap.size, 0, none⟩ (.slice A s.length n)).setCell ⟨w.heap.size, 1, none⟩ (.slice B c.length m)).setCell ⟨w.heap.size, 2, none⟩ (.int .i64 f')).setCell ⟨w.heap.size, 3, none⟩ (.bool false) = w2 at *
  clear k1 z1 k2 z2
  have HM2 := Lib.hid (HM.out.up HB.out)
  have HT := Lib.hid (And.intro B3.out.lt B4.out.lt)
  go_loopw [4, 5] (fun v j wr => ∃ k : Nat, k ≤ s.length ∧ j = .int .i64 k ∧ Hid (wr.ownsRow w2.heap.size 9 1 v ((layL s c).take k).length (((layL s c).take k).map Value.string)) ∧ Hid (Below w2.heap.size w2 wr)) (fun _ j _ => s.length - (intOf j).toNat)
  case atStart => exact ⟨0, by omega, rfl, World.ownsRow_nil _ _ _ _, Below.refl _ _⟩
  case round =>
    obtain ⟨k, hk, rfl, HO, HBr⟩ := hrel
    have k1 := (B3.out.below HBr.out).cell
    by_cases hlt : k < s.length
    · have hat := HAT.out k hlt
      have hs : (layL s c).take (k + 1) = (layL s c).take k ++ [holdsL c k s[k]] := by
        rw [take_snoc _ k (by rw [HLEN.out]; exact hlt)]
        rw [List.getElem?_eq_getElem (by rw [HLEN.out]; exact hlt)] at hat
        injection hat with hat
        rw [hat]
      have hh := fun w hm => holds_any A B n m s c f' false k s[k] w hm (List.getElem?_eq_getElem hlt) HC.out
      have hle : ((layL s c).take k).length ≤ 64 := by rw [List.length_take, HLEN.out]; have := HL.out; omega
      have HS := Lib.hid hs; clear hs hat
      have HH := Lib.hid hh; clear hh
      have HLE := Lib.hid hle; clear hle
      generalize (layL s c).take k = l at *
      generalize holdsL c k s[k] = t at *
      go_wp2_with fail
      refine (HH.out _ (HM2.out.up HBr.out)).mono ?_
      rintro e w3 ⟨rfl, hb3⟩
      go_wp2_with (at_builtin; refine app_strs rfl _ _ rfl _ w2.heap.size ?c1 _ l rfl ?c2 (some ⟨w3.heap.size, 0, none⟩) 1 [t] ?c3 rfl ?c4 ?c5 ?_)
      case c1 => have := HBr.out.size; have := hb3.size; simp; omega
      case c2 => exact (own_up HO.out hb3).alloc _
      case c3 => intro q; cases q
      case c4 => exact es_one w3 t
      case c5 => have := HLE.out; simp; omega
      intro v' w4 hown hgrow
      replace hown : w4.ownsRow w2.heap.size 9 1 v' (l ++ [t]).length ((l ++ [t]).map Value.string) := by simpa using hown
      rw [← HS.out] at hown
      have hb4 := ((HBr.out.trans (hb3.mono HBr.out.size)).alloc (by have := HBr.out.size; have := hb3.size; omega) (.cells #[.string t] 9)).grown hgrow (by have := HBr.out.size; have := hb3.size; simp; omega) (own_low HO.out)
      have HO' := Lib.hid hown; clear hown
      have HB' := Lib.hid hb4; clear hb4
      clear hgrow hb3
      go_wp2
      go_roundw
      case rel => exact ⟨k + 1, by omega, by go_num, HO'.out, HB'.out⟩
      case measure => simp [intOf]; omega
    · obtain rfl : k = s.length := by omega
      have hown := HO.out
      rw [List.take_of_length_le (by rw [HLEN.out]; exact Nat.le_refl _)] at hown
      obtain ⟨A', cap, rfl, _, _⟩ := own_es hown
      have k2 := (B4.out.below HBr.out).cell
      have z1 := (B3.out.below HBr.out).frozen
      have z2 := (B4.out.below HBr.out).frozen
      have HO2 := Lib.hid hown; clear hown
      clear HAT HLEN HO
      generalize layL s c = l at *
      go_wp2_with fail
      have hown2 := own4 (ownsRow_setCell_below (ownsRow_setCell_below HO2.out (a := ⟨w.heap.size, 0, none⟩) HT.out.1 (.slice A' l.length cap)) (a := ⟨w.heap.size, 1, none⟩) HT.out.1 (.slice none 0 0)) HT.out.2 (.slice A' l.length cap) (.slice none 0 0) (.int .i64 f') (.bool false)
      obtain ⟨hA2, hes⟩ := own_es2 hown2
      refine bodyPost_ret (v := .tuple #[.agg #[.slice A' l.length cap, .slice none 0 0, .int .i64 f', .bool false], .int .i64 0]) (by simp [results, Try.results33, go_sem, k2]) rfl
        ⟨A', none, cap, 0, rfl, ⟨hes, ws_nil _ _ _, hA2, fun _ => rfl⟩, ?_⟩
      exact below4 (((ext HB.out HBr.out).setCell (p := ⟨w.heap.size, 0, none⟩) (Nat.le_refl _) _).setCell (p := ⟨w.heap.size, 1, none⟩) (Nat.le_refl _) _) (by omega) _ _ _ _
end Go.Proofs.Ytlgfinomkpingaa
