/- Disks: the flush, as both sides do it, for every disk that may be. No other condition but that its lists lie in memory. -/
import Derived.Test.YtlgfinomkpingaaD7
namespace Go.Proofs.Ytlgfinomkpingaa
open Go.RowKit

theorem own_es2 {w : World} {base cap : Nat} {A : Option Addr} {s : List ByteArray} (h : w.ownsRow base 9 1 (.slice A s.length cap) s.length (s.map Value.string)) : (A = none → cap = 0) ∧ Es Value.string w w.heap.size A s := by
  obtain ⟨A', cap', hv, h1, h2⟩ := own_es h
  injection hv with e1 e2 e3
  subst e1; subst e3
  exact ⟨h1, h2⟩
theorem own_ws2 {w : World} {base cap : Nat} {A : Option Addr} {c : List Wr} (h : w.ownsRow base 43 2 (.slice A c.length cap) c.length (cellsW c)) : (A = none → cap = 0) ∧ Ws w w.heap.size A c := by
  obtain ⟨A', cap', hv, h1, h2⟩ := own_ws h
  injection hv with e1 e2 e3
  subst e1; subst e3
  exact ⟨h1, h2⟩
theorem own4 {w : World} {base size n b : Nat} {e : TypeId} {v : Value} {xs : List Value} (h : w.ownsRow base e size v n xs) (hb : b < base) (v0 v1 v2 v3 : Value) :
    ((((w.setCell ⟨b, 0, none⟩ v0).setCell ⟨b, 1, none⟩ v1).setCell ⟨b, 2, none⟩ v2).setCell ⟨b, 3, none⟩ v3).ownsRow base e size v n xs :=
  ownsRow_setCell_below (ownsRow_setCell_below (ownsRow_setCell_below (ownsRow_setCell_below h (a := ⟨b, 0, none⟩) hb v0) (a := ⟨b, 1, none⟩) hb v1) (a := ⟨b, 2, none⟩) hb v2) (a := ⟨b, 3, none⟩) hb v3

set_option maxRecDepth 100000 in
set_option maxHeartbeats 1000000 in
theorem flush_dead (A B : Option Addr) (n1 n2 m1 m2 : Nat) (f : Int) (w : World) :
    Calls Try.prog 31 #[.agg #[.slice A n1 n2, .slice B m1 m2, .int .i64 f, .bool true]] w fun e w' => e = .returned (.tuple #[.agg #[.slice A n1 n2, .slice B m1 m2, .int .i64 f, .bool true], .int .i64 6]) ∧ Below w.heap.size w w' := by
  go_enter Try.func31, Try.ntmps31
  go_wp2
  refine bodyPost_ret (v := .tuple #[.agg #[.slice A n1 n2, .slice B m1 m2, .int .i64 f, .bool true], .int .i64 6]) (by simp [results, Try.results31, go_sem]) rfl ⟨rfl, below2⟩

set_option maxRecDepth 100000 in
set_option maxHeartbeats 1000000 in
theorem flush_dies (A B : Option Addr) (n1 n2 m1 m2 : Nat) (w : World) :
    Calls Try.prog 31 #[.agg #[.slice A n1 n2, .slice B m1 m2, .int .i64 1, .bool false]] w fun e w' => e = .returned (.tuple #[.agg #[.slice A n1 n2, .slice B m1 m2, .int .i64 0, .bool true], .int .i64 6]) ∧ Below w.heap.size w w' := by
  go_enter Try.func31, Try.ntmps31
  go_wp2
  refine bodyPost_ret (v := .tuple #[.agg #[.slice A n1 n2, .slice B m1 m2, .int .i64 0, .bool true], .int .i64 6]) (by simp [results, Try.results31, go_sem]) rfl ⟨rfl, ?_⟩
  exact ext_alloc (ext_alloc (ext_alloc (ext_alloc below2 _) _) _) _

set_option maxRecDepth 100000 in
set_option maxHeartbeats 1000000 in
theorem flush_any (A B : Option Addr) (n m : Nat) (s : List ByteArray) (c : List Wr) (f : Int) (w : World) (hm : Mem w A n B m s c) (hl : s.length ≤ 64) (hc : c.length ≤ maxLen) (hf : f < 9223372036854775808) (hf1 : f ≠ 1) (hx : c.any (misfitW s.length) = false) :
    Calls Try.prog 31 #[.agg #[.slice A s.length n, .slice B c.length m, .int .i64 f, .bool false]] w (GivesD (layL s c) [] (burnF f) false 0 w) := by
  have hfit := fits hx
  have hbu := fun w => burn_any A B s.length n c.length m f false w hf
  have hbd : burnD f false = false := by unfold burnD; rw [if_neg hf1]
  rw [hbd] at hbu
  have HM := Lib.hid hm; clear hm
  have HF := Lib.hid hfit; clear hfit
  have HC := Lib.hid hc; clear hc
  clear hbd hf1 hx
  generalize burnF f = f' at *
  have b1 := Box.new w [.slice A s.length n, .slice B c.length m, .int .i64 f, .bool false] 25
  have b1 := b1.alloc (.cells #[.slice none 0 0, .slice none 0 0, .int .i64 0, .bool false] 25)
  have b2 := Box.new2 w (.cells #[.slice A s.length n, .slice B c.length m, .int .i64 f, .bool false] 25) [.slice none 0 0, .slice none 0 0, .int .i64 0, .bool false] 25
  have B1 := Lib.hid b1
  have B2 := Lib.hid b2
  clear b1 b2
  go_enter Try.func31, Try.ntmps31
  go_wp2_with fail
  refine (hbu _).mono ?_
  rintro e w1 ⟨rfl, hb1⟩
  have b1 := B1.out.below hb1
  have b2 := B2.out.below hb1
  have k1 := b1.cell
  have z1 := b1.frozen
  have k2 := b2.cell
  have z2 := b2.frozen
  have b1' := b1.four (.slice A s.length n) (.slice B c.length m) (.int .i64 f') (.bool false)
  have b2' := b2.past4 (b := w.heap.size) (by simp) (.slice A s.length n) (.slice B c.length m) (.int .i64 f') (.bool false)
  have hbw := below4 (ext below2 hb1) (Nat.le_refl _) (.slice A s.length n) (.slice B c.length m) (.int .i64 f') (.bool false)
  have B3 := Lib.hid b1'
  have B4 := Lib.hid b2'
  have HB := Lib.hid hbw
  clear b1 b2 b1' b2' hbw hb1 B1 B2 hbu
  go_wp2_with fail
  generalize (((w1.setCell ⟨w.heap.size, 0, none⟩ (.slice A s.length n)).setCell ⟨w.heap.size, 1, none⟩ (.slice B c.length m)).setCell ⟨w.heap.size, 2, none⟩ (.int .i64 f')).setCell ⟨w.heap.size, 3, none⟩ (.bool false) = w2 at *
  clear k1 z1 k2 z2
  have hm2 := HM.out.up HB.out
  refine (lay_any A B n m s c w2 hm2.an hm2.es hm2.ws (by omega) HC.out (fun x hx => by have := HF.out x hx; omega)).mono ?_
  rintro e w3 ⟨v, rfl, hown, hb3⟩
  clear hm2
  obtain ⟨A', cap, rfl, _, _⟩ := own_es hown
  have l1 := B3.out.lt
  have l2 := B4.out.lt
  have b1 := B3.out.below hb3
  have b2 := B4.out.below hb3
  have k1 := b1.cell
  have z1 := b1.frozen
  have k2 := b2.cell
  have z2 := b2.frozen
  have HO := Lib.hid hown; clear hown
  have HB3 := Lib.hid hb3; clear hb3
  have HT := Lib.hid (And.intro l1 l2); clear l1 l2
  clear b1 b2 B3 B4
  generalize layL s c = l at *
  go_wp2_with fail
  have hown2 := own4 (ownsRow_setCell_below (ownsRow_setCell_below HO.out (a := ⟨w.heap.size, 0, none⟩) HT.out.1 (.slice A' l.length cap)) (a := ⟨w.heap.size, 1, none⟩) HT.out.1 (.slice none 0 0)) HT.out.2 (.slice A' l.length cap) (.slice none 0 0) (.int .i64 f') (.bool false)
  obtain ⟨hA2, hes⟩ := own_es2 hown2
  refine bodyPost_ret (v := .tuple #[.agg #[.slice A' l.length cap, .slice none 0 0, .int .i64 f', .bool false], .int .i64 0]) (by simp [results, Try.results31, go_sem, k2]) rfl
    ⟨A', none, cap, 0, rfl, ⟨hes, ws_nil _ _ _, hA2, fun _ => rfl⟩, ?_⟩
  exact below4 (((ext HB.out HB3.out).setCell (p := ⟨w.heap.size, 0, none⟩) (Nat.le_refl _) _).setCell (p := ⟨w.heap.size, 1, none⟩) (Nat.le_refl _) _) (by omega) _ _ _ _
end Go.Proofs.Ytlgfinomkpingaa
