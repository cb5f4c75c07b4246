/- Disks: a write, as both sides do it, for every disk, sector and text. No other condition but that the lists lie in memory. -/
import Derived.Test.YtlgfinomkpingaaE2
namespace Go.Proofs.Ytlgfinomkpingaa
open Go.RowKit

theorem gives_same {A B : Option Addr} {n m : Nat} {s : List ByteArray} {c : List Wr} {f : Int} {x : Bool} {r : Int} {w w' : World} (h : Mem w A n B m s c) (hb : Below w.heap.size w w') :
    GivesD s c f x r w (.returned (.tuple #[.agg #[.slice A s.length n, .slice B c.length m, .int .i64 f, .bool x], .int .i64 r])) w' := ⟨A, B, n, m, rfl, h.up hb, hb⟩

theorem beq_zero {e : Int} (h : e ≠ 0) : (e == 0) = false := beq_eq_false_iff_ne.2 h

set_option maxRecDepth 100000 in
set_option maxHeartbeats 1000000 in
theorem write_stops (A B : Option Addr) (n m : Nat) (s : List ByteArray) (c : List Wr) (f i : Int) (x : Bool) (d : ByteArray) (w : World) (hm : Mem w A n B m s c) (hr : reachE s.length i x ≠ 0) :
    Calls Try.prog 30 #[.agg #[.slice A s.length n, .slice B c.length m, .int .i64 f, .bool x], .int .i64 i, .string d] w (GivesD s c f x (reachE s.length i x) w) := by
  have hre := fun w => reach_any A B s.length n c.length m f i x w
  have HM := Lib.hid hm; clear hm
  generalize reachE s.length i x = e at *
  have hne := beq_zero hr
  have hnb : (e != 0) = true := by simp [bne, hne]
  clear hr
  have B1 := Lib.hid ((Box.new w [.slice A s.length n, .slice B c.length m, .int .i64 f, .bool x] 25).alloc (.cells #[.slice none 0 0, .slice none 0 0, .int .i64 0, .bool false] 25))
  have B2 := Lib.hid (Box.new2 w (.cells #[.slice A s.length n, .slice B c.length m, .int .i64 f, .bool x] 25) [.slice none 0 0, .slice none 0 0, .int .i64 0, .bool false] 25)
  go_enter Try.func30, Try.ntmps30
  go_wp2_with fail
  refine (hre _).mono ?_
  rintro e w1 ⟨rfl, hb1⟩
  have k1 := (B1.out.below hb1).cell
  have k2 := (B2.out.below hb1).cell
  have z2 := (B2.out.below hb1).frozen
  have HB := Lib.hid (ext below2 hb1)
  clear hre hb1 B1 B2
  go_wp2_with fail
  refine bodyPost_ret (v := .tuple #[.agg #[.slice A s.length n, .slice B c.length m, .int .i64 f, .bool x], .int .i64 _]) (by simp [results, Try.results30, go_sem, k2]) rfl (gives_same HM.out (below4 HB.out (by omega) _ _ _ _))

set_option maxRecDepth 100000 in
set_option maxHeartbeats 1000000 in
theorem write_long (A B : Option Addr) (n m : Nat) (s : List ByteArray) (c : List Wr) (f i : Int) (x : Bool) (d : ByteArray) (w : World) (hm : Mem w A n B m s c) (hr : reachE s.length i x = 0) (hd : 64 < (d.size : Int)) :
    Calls Try.prog 30 #[.agg #[.slice A s.length n, .slice B c.length m, .int .i64 f, .bool x], .int .i64 i, .string d] w (GivesD s c f x 5 w) := by
  have hre := fun w => reach_any A B s.length n c.length m f i x w
  rw [hr] at hre
  have htl := fun w => tooLong_any d w
  rw [decide_eq_true hd] at htl
  have HM := Lib.hid hm; clear hm
  clear hr hd
  have B1 := Lib.hid ((Box.new w [.slice A s.length n, .slice B c.length m, .int .i64 f, .bool x] 25).alloc (.cells #[.slice none 0 0, .slice none 0 0, .int .i64 0, .bool false] 25))
  have B2 := Lib.hid (Box.new2 w (.cells #[.slice A s.length n, .slice B c.length m, .int .i64 f, .bool x] 25) [.slice none 0 0, .slice none 0 0, .int .i64 0, .bool false] 25)
  go_enter Try.func30, Try.ntmps30
  go_wp2_with fail
  refine (hre _).mono ?_
  rintro e w1 ⟨rfl, hb1⟩
  have k1 := (B1.out.below hb1).cell
  have k2 := (B2.out.below hb1).cell
  have z2 := (B2.out.below hb1).frozen
  have HB := Lib.hid (ext below2 hb1)
  clear hre hb1 B1 B2
  go_wp2_with fail
  refine (htl _).mono ?_
  rintro e w2 ⟨rfl, rfl⟩
  go_wp2_with fail
  refine bodyPost_ret (v := .tuple #[.agg #[.slice A s.length n, .slice B c.length m, .int .i64 f, .bool x], .int .i64 5]) (by simp [results, Try.results30, go_sem, k2]) rfl (gives_same HM.out (below4 HB.out (by omega) _ _ _ _))

set_option maxRecDepth 100000 in
set_option maxHeartbeats 1000000 in
theorem write_dies (A B : Option Addr) (n m : Nat) (s : List ByteArray) (c : List Wr) (f i : Int) (x : Bool) (d : ByteArray) (w : World) (hm : Mem w A n B m s c) (hr : reachE s.length i x = 0) (hd : ¬ 64 < (d.size : Int)) (hf : f < 9223372036854775808) (hf1 : burnD f x = true) :
    Calls Try.prog 30 #[.agg #[.slice A s.length n, .slice B c.length m, .int .i64 f, .bool x], .int .i64 i, .string d] w (GivesD s c (burnF f) true 6 w) := by
  have hre := fun w => reach_any A B s.length n c.length m f i x w
  rw [hr] at hre
  have htl := fun w => tooLong_any d w
  rw [decide_eq_false hd] at htl
  have hbu := fun w => burn_any A B s.length n c.length m f x w hf
  rw [hf1] at hbu
  generalize burnF f = f' at *
  have HM := Lib.hid hm; clear hm
  clear hr hd hf1
  have B1 := Lib.hid ((Box.new w [.slice A s.length n, .slice B c.length m, .int .i64 f, .bool x] 25).alloc (.cells #[.slice none 0 0, .slice none 0 0, .int .i64 0, .bool false] 25))
  have B2 := Lib.hid (Box.new2 w (.cells #[.slice A s.length n, .slice B c.length m, .int .i64 f, .bool x] 25) [.slice none 0 0, .slice none 0 0, .int .i64 0, .bool false] 25)
  go_enter Try.func30, Try.ntmps30
  go_wp2_with fail
  refine (hre _).mono ?_
  rintro e w1 ⟨rfl, hb1⟩
  have k1 := (B1.out.below hb1).cell
  have HB := Lib.hid (ext below2 hb1)
  clear hre
  go_wp2_with fail
  refine (htl _).mono ?_
  rintro e w2 ⟨rfl, rfl⟩
  go_wp2_with fail
  refine (hbu _).mono ?_
  rintro e w2 ⟨rfl, hb2⟩
  clear k1
  have k1 := ((B1.out.below hb1).below hb2).cell
  have z1 := ((B1.out.below hb1).below hb2).frozen
  have k2 := ((B2.out.below hb1).below hb2).cell
  have z2 := ((B2.out.below hb1).below hb2).frozen
  have HB2 := Lib.hid (ext HB.out hb2)
  clear hb1 hb2 B1 B2 HB
  go_wp2_with fail
  refine bodyPost_ret (v := .tuple #[.agg #[.slice A s.length n, .slice B c.length m, .int .i64 f', .bool true], .int .i64 6]) (by simp [results, Try.results30, go_sem, k2]) rfl (gives_same HM.out (below4 (below4 HB2.out (by omega) _ _ _ _) (by omega) _ _ _ _))

set_option maxRecDepth 100000 in
set_option maxHeartbeats 2000000 in
theorem write_any (A B : Option Addr) (n m : Nat) (s : List ByteArray) (c : List Wr) (f i : Int) (x : Bool) (d : ByteArray) (w : World) (hm : Mem w A n B m s c) (hr : reachE s.length i x = 0) (hd : ¬ 64 < (d.size : Int)) (hf : f < 9223372036854775808) (hf1 : burnD f x = false) (hc : c.length ≤ 1000) :
    Calls Try.prog 30 #[.agg #[.slice A s.length n, .slice B c.length m, .int .i64 f, .bool x], .int .i64 i, .string d] w (GivesD s (c ++ [(i, d)]) (burnF f) false 0 w) := by
  have hre := fun w => reach_any A B s.length n c.length m f i x w
  rw [hr] at hre
  have htl := fun w => tooLong_any d w
  rw [decide_eq_false hd] at htl
  have hbu := fun w => burn_any A B s.length n c.length m f x w hf
  rw [hf1] at hbu
  generalize burnF f = f' at *
  have HM := Lib.hid hm; clear hm
  clear hr hd hf1
  have B1 := Lib.hid ((Box.new w [.slice A s.length n, .slice B c.length m, .int .i64 f, .bool x] 25).alloc (.cells #[.slice none 0 0, .slice none 0 0, .int .i64 0, .bool false] 25))
  have B2 := Lib.hid (Box.new2 w (.cells #[.slice A s.length n, .slice B c.length m, .int .i64 f, .bool x] 25) [.slice none 0 0, .slice none 0 0, .int .i64 0, .bool false] 25)
  go_enter Try.func30, Try.ntmps30
  go_wp2_with fail
  refine (hre _).mono ?_
  rintro e w1 ⟨rfl, hb1⟩
  have k1 := (B1.out.below hb1).cell
  have HB := Lib.hid (ext below2 hb1)
  clear hre
  go_wp2_with fail
  refine (htl _).mono ?_
  rintro e w2 ⟨rfl, rfl⟩
  go_wp2_with fail
  refine (hbu _).mono ?_
  rintro e w2 ⟨rfl, hb2⟩
  clear k1
  have b1 := (B1.out.below hb1).below hb2
  have b2 := (B2.out.below hb1).below hb2
  have k1 := b1.cell
  have z1 := b1.frozen
  have b1' := b1.four (.slice A s.length n) (.slice B c.length m) (.int .i64 f') (.bool false)
  have b2' := b2.past4 (b := w.heap.size) (by simp) (.slice A s.length n) (.slice B c.length m) (.int .i64 f') (.bool false)
  have hbw := below4 (ext HB.out hb2) (Nat.le_refl _) (.slice A s.length n) (.slice B c.length m) (.int .i64 f') (.bool false)
  have B3 := Lib.hid b1'
  have B4 := Lib.hid b2'
  have HB2 := Lib.hid hbw
  clear b1 b2 b1' b2' hbw hb1 hb2 B1 B2 HB hbu
  go_wp2_with fail
  generalize hW : (((w2.setCell ⟨w.heap.size, 0, none⟩ (.slice A s.length n)).setCell ⟨w.heap.size, 1, none⟩ (.slice B c.length m)).setCell ⟨w.heap.size, 2, none⟩ (.int .i64 f')).setCell ⟨w.heap.size, 3, none⟩ (.bool false) = w3 at *
  have hsz : w2.heap.size = w3.heap.size := by rw [← hW]; simp
  simp only [hsz]
  clear hW k1 z1
  have hm3 := HM.out.up HB2.out
  have hcon := concat_any (w3.heap.size + 1) B (some ⟨w3.heap.size, 0, none⟩) m 1 c [(i, d)] ((w3.alloc (.cells #[.int .i64 i, .string d] 43)).alloc (.cells #[.slice B c.length m, .slice (some ⟨w3.heap.size, 0, none⟩) 1 1] 23))
    (by simp) (by simp) (by simp) (hm3.ws.up below2) ((ws_one w3 i d).up below1) hm3.bn (fun q => by cases q) (by simp; omega) (by simp)
  have HCON := Lib.hid hcon
  clear hm3 hcon
  refine HCON.out.mono ?_
  rintro e w4 ⟨v, rfl, hown, hb4⟩
  obtain ⟨B', cap, rfl, _, _⟩ := own_ws hown
  have l1 := B3.out.lt
  have l2 := B4.out.lt
  have b1 := (B3.out.below below2).below hb4
  have b2 := (B4.out.below below2).below hb4
  have k1 := b1.cell
  have z1 := b1.frozen
  have k2 := b2.cell
  have z2 := b2.frozen
  have HO := Lib.hid hown
  have HB4 := Lib.hid (ext (ext HB2.out below2) hb4)
  have HT := Lib.hid (And.intro l1 l2)
  clear l1 l2 hown hb4 b1 b2 B3 B4 HCON
  generalize hk : c ++ [(i, d)] = k at *
  go_wp2_with fail
  have hown2 := own4 (ownsRow_setCell_below HO.out (a := ⟨w.heap.size, 1, none⟩) (by have := HT.out; simp; omega) (.slice B' k.length cap)) (b := w.heap.size + 1) (by have := HT.out; simp; omega) (.slice A s.length n) (.slice B' k.length cap) (.int .i64 f') (.bool false)
  obtain ⟨hB2, hws⟩ := own_ws2 hown2
  have hbel := below4 (HB4.out.setCell (p := ⟨w.heap.size, 1, none⟩) (Nat.le_refl _) (.slice B' k.length cap)) (b := w.heap.size + 1) (by omega) (.slice A s.length n) (.slice B' k.length cap) (.int .i64 f') (.bool false)
  exact bodyPost_ret (v := .tuple #[.agg #[.slice A s.length n, .slice B' k.length cap, .int .i64 f', .bool false], .int .i64 0]) (by simp [results, Try.results30, go_sem, k2]) rfl
    ⟨A, B', n, cap, rfl, ⟨HM.out.es.up hbel, hws, HM.out.an, hB2⟩, hbel⟩
end Go.Proofs.Ytlgfinomkpingaa
