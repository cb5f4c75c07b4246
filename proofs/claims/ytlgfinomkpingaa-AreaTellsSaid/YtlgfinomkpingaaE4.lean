/- Disks: a write by the document's own way, for every disk, sector and text. No other condition but that the lists lie in memory. -/
import Derived.Test.YtlgfinomkpingaaE3
namespace Go.Proofs.Ytlgfinomkpingaa
open Go.RowKit

set_option maxRecDepth 100000 in
set_option maxHeartbeats 1000000 in
theorem rwrite_stops (A B : Option Addr) (n m : Nat) (s : List ByteArray) (c : List Wr) (f i : Int) (x : Bool) (d : ByteArray) (w : World) (hm : Mem w A n B m s c) (hr : reachE s.length i x ≠ 0) :
    Calls Try.prog 32 #[.agg #[.slice A s.length n, .slice B c.length m, .int .i64 f, .bool x], .int .i64 i, .string d] w (GivesD s c f x (reachE s.length i x) w) := by
  have HM := Lib.hid hm; clear hm
  have k2 := (Box.new2 w (.cells #[.slice A s.length n, .slice B c.length m, .int .i64 f, .bool x] 25) [.slice A s.length n, .slice B c.length m, .int .i64 f, .bool x] 25).cell
  cases x with
  | true =>
    have e : reachE s.length i true = 6 := rfl
    rw [e]
    clear hr e
    go_enter Try.func32, Try.ntmps32
    go_wp2
    exact bodyPost_ret (v := .tuple #[.agg #[.slice A s.length n, .slice B c.length m, .int .i64 f, .bool true], .int .i64 6]) (by simp [results, Try.results32, go_sem]) rfl (gives_same HM.out below2)
  | false =>
    by_cases h0 : i < 0
    · have e : reachE s.length i false = 4 := by unfold reachE; rw [if_neg (by simp), if_pos h0]
      rw [e]
      clear hr e
      go_enter Try.func32, Try.ntmps32
      go_wp2
      exact bodyPost_ret (v := .tuple #[.agg #[.slice A s.length n, .slice B c.length m, .int .i64 f, .bool false], .int .i64 4]) (by simp [results, Try.results32, go_sem]) rfl (gives_same HM.out below2)
    · by_cases h1 : (s.length : Int) ≤ i
      · have e : reachE s.length i false = 4 := by unfold reachE; rw [if_neg (by simp), if_neg h0, if_pos h1]
        rw [e]
        clear hr e
        go_enter Try.func32, Try.ntmps32
        go_wp2
        exact bodyPost_ret (v := .tuple #[.agg #[.slice A s.length n, .slice B c.length m, .int .i64 f, .bool false], .int .i64 4]) (by simp [results, Try.results32, go_sem]) rfl (gives_same HM.out below2)
      · exact absurd (by unfold reachE; rw [if_neg (by simp), if_neg h0, if_neg h1]) hr

theorem reach_zero {n : Nat} {i : Int} {x : Bool} (h : reachE n i x = 0) : x = false ∧ 0 ≤ i ∧ i < n := by
  unfold reachE at h
  cases x with
  | true => rw [if_pos rfl] at h; omega
  | false =>
    rw [if_neg (by simp)] at h
    split at h
    · omega
    · split at h
      · omega
      · exact ⟨rfl, by omega, by omega⟩

set_option maxRecDepth 100000 in
set_option maxHeartbeats 1000000 in
theorem rwrite_long (A B : Option Addr) (n m : Nat) (s : List ByteArray) (c : List Wr) (f i : Int) (x : Bool) (d : ByteArray) (w : World) (hm : Mem w A n B m s c) (hr : reachE s.length i x = 0) (hd : 64 < (d.size : Int)) :
    Calls Try.prog 32 #[.agg #[.slice A s.length n, .slice B c.length m, .int .i64 f, .bool x], .int .i64 i, .string d] w (GivesD s c f x 5 w) := by
  obtain ⟨rfl, h0, h1⟩ := reach_zero hr
  have HM := Lib.hid hm; clear hm
  clear hr
  go_enter Try.func32, Try.ntmps32
  go_wp2
  exact bodyPost_ret (v := .tuple #[.agg #[.slice A s.length n, .slice B c.length m, .int .i64 f, .bool false], .int .i64 5]) (by simp [results, Try.results32, go_sem]) rfl (gives_same HM.out below2)

set_option maxRecDepth 100000 in
set_option maxHeartbeats 1000000 in
theorem rwrite_dies (A B : Option Addr) (n m : Nat) (s : List ByteArray) (c : List Wr) (f i : Int) (x : Bool) (d : ByteArray) (w : World) (hm : Mem w A n B m s c) (hr : reachE s.length i x = 0) (hd : ¬ 64 < (d.size : Int)) (hf : f < 9223372036854775808) (hf1 : burnD f x = true) :
    Calls Try.prog 32 #[.agg #[.slice A s.length n, .slice B c.length m, .int .i64 f, .bool x], .int .i64 i, .string d] w (GivesD s c (burnF f) true 6 w) := by
  obtain ⟨rfl, h0, h1⟩ := reach_zero hr
  have hbu := fun w => rburn_any A B s.length n c.length m f false w hf
  rw [hf1] at hbu
  generalize burnF f = f' at *
  have HM := Lib.hid hm; clear hm
  clear hr hf1
  have B1 := Lib.hid ((Box.new w [.slice A s.length n, .slice B c.length m, .int .i64 f, .bool false] 25).alloc (.cells #[.slice none 0 0, .slice none 0 0, .int .i64 0, .bool false] 25))
  have B2 := Lib.hid (Box.new2 w (.cells #[.slice A s.length n, .slice B c.length m, .int .i64 f, .bool false] 25) [.slice none 0 0, .slice none 0 0, .int .i64 0, .bool false] 25)
  go_enter Try.func32, Try.ntmps32
  go_wp2_with fail
  refine (hbu _).mono ?_
  rintro e w2 ⟨rfl, hb2⟩
  have k1 := (B1.out.below hb2).cell
  have z1 := (B1.out.below hb2).frozen
  have k2 := (B2.out.below hb2).cell
  have z2 := (B2.out.below hb2).frozen
  have HB2 := Lib.hid (ext below2 hb2)
  clear hb2 B1 B2
  go_wp2_with fail
  exact bodyPost_ret (v := .tuple #[.agg #[.slice A s.length n, .slice B c.length m, .int .i64 f', .bool true], .int .i64 6]) (by simp [results, Try.results32, go_sem, k2]) rfl (gives_same HM.out (below4 (below4 HB2.out (by omega) _ _ _ _) (by omega) _ _ _ _))

set_option maxRecDepth 100000 in
set_option maxHeartbeats 2000000 in
theorem rwrite_any (A B : Option Addr) (n m : Nat) (s : List ByteArray) (c : List Wr) (f i : Int) (x : Bool) (d : ByteArray) (w : World) (hm : Mem w A n B m s c) (hr : reachE s.length i x = 0) (hd : ¬ 64 < (d.size : Int)) (hf : f < 9223372036854775808) (hf1 : burnD f x = false) (hc : c.length ≤ 1000) :
    Calls Try.prog 32 #[.agg #[.slice A s.length n, .slice B c.length m, .int .i64 f, .bool x], .int .i64 i, .string d] w (GivesD s (c ++ [(i, d)]) (burnF f) false 0 w) := by
  obtain ⟨rfl, h0, h1⟩ := reach_zero hr
  have hbu := fun w => rburn_any A B s.length n c.length m f false w hf
  rw [hf1] at hbu
  generalize burnF f = f' at *
  have HM := Lib.hid hm; clear hm
  clear hr hf1
  have B1 := Lib.hid ((Box.new w [.slice A s.length n, .slice B c.length m, .int .i64 f, .bool false] 25).alloc (.cells #[.slice none 0 0, .slice none 0 0, .int .i64 0, .bool false] 25))
  have B2 := Lib.hid (Box.new2 w (.cells #[.slice A s.length n, .slice B c.length m, .int .i64 f, .bool false] 25) [.slice none 0 0, .slice none 0 0, .int .i64 0, .bool false] 25)
  go_enter Try.func32, Try.ntmps32
  go_wp2_with fail
  refine (hbu _).mono ?_
  rintro e w2 ⟨rfl, hb2⟩
  have b1 := B1.out.below hb2
  have b2 := B2.out.below hb2
  have k1 := b1.cell
  have z1 := b1.frozen
  have b1' := b1.four (.slice A s.length n) (.slice B c.length m) (.int .i64 f') (.bool false)
  have b2' := b2.past4 (b := w.heap.size) (by simp) (.slice A s.length n) (.slice B c.length m) (.int .i64 f') (.bool false)
  have hbw := below4 (ext below2 hb2) (Nat.le_refl _) (.slice A s.length n) (.slice B c.length m) (.int .i64 f') (.bool false)
  have B3 := Lib.hid b1'
  have B4 := Lib.hid b2'
  have HB2 := Lib.hid hbw
  clear b1 b2 b1' b2' hbw hb2 B1 B2 hbu
  obtain ⟨w3, hW⟩ : ∃ w3, (((w2.setCell ⟨w.heap.size, 0, none⟩ (.slice A s.length n)).setCell ⟨w.heap.size, 1, none⟩ (.slice B c.length m)).setCell ⟨w.heap.size, 2, none⟩ (.int .i64 f')).setCell ⟨w.heap.size, 3, none⟩ (.bool false) = w3 := ⟨_, rfl⟩
  rw [hW] at B3 B4 HB2
  have hsz : w2.heap.size = w3.heap.size := by rw [← hW]; simp
  have k3 := B3.out.cell
  have k5 := fun o j => (B3.out.alloc o).cell j
  go_wp2_with (at_builtin; refine app_wrs rfl _ _ rfl _ w3.heap.size ?c1 (.slice (some ⟨w3.heap.size, 0, none⟩) 0 0) [] rfl ?c2 B m c ?c3 rfl ?c4 ?c5 ?_)
  case c1 => simp
  case c2 => exact own_empty w3 _ (Nat.le_refl _)
  case c3 => exact HM.out.bn
  case c4 => exact HM.out.ws.up (ext_alloc HB2.out _)
  case c5 => simp; omega
  intro v1 w4 hown1 hgrow1
  have hb4 := (ext_alloc (Below.refl w3.heap.size w3) (.cells #[] 43)).grown hgrow1 (by simp) (by simp [Value.ownBlock])
  replace hown1 : w4.ownsRow w3.heap.size 43 2 v1 c.length (cellsW c) := by simpa using hown1
  have HO1 := Lib.hid hown1; clear hown1
  have HB4 := Lib.hid hb4; clear hb4
  clear hgrow1 hW k1 z1 k3 k5 hsz
  go_wp2_with (at_builtin; refine app_wrs rfl _ _ rfl _ w3.heap.size ?d1 _ c rfl ?d2 (some ⟨w4.heap.size, 0, none⟩) 1 [(i, d)] ?d3 rfl ?d4 ?d5 ?_)
  case d1 => have := HB4.out.size; simp; omega
  case d2 => exact HO1.out.alloc _
  case d3 => intro q; cases q
  case d4 => exact ws_one w4 i d
  case d5 => simp; omega
  intro v2 w5 hown2 hgrow2
  have hb5 := (ext_alloc HB4.out (.cells #[.int .i64 i, .string d] 43)).grown hgrow2 (by have := HB4.out.size; simp; omega) (own_low HO1.out)
  replace hown2 : w5.ownsRow w3.heap.size 43 2 v2 (c ++ [(i, d)]).length (cellsW (c ++ [(i, d)])) := by simpa using hown2
  obtain ⟨B', cap, rfl, _, _⟩ := own_ws hown2
  have l1 := B3.out.lt
  have l2 := B4.out.lt
  have b1 := B3.out.below hb5
  have b2 := B4.out.below hb5
  have k1 := b1.cell
  have z1 := b1.frozen
  have k2 := b2.cell
  have z2 := b2.frozen
  have HO := Lib.hid hown2
  have HB5 := Lib.hid (ext HB2.out hb5)
  have HT := Lib.hid (And.intro l1 l2)
  clear l1 l2 hown2 hb5 b1 b2 B3 B4 hgrow2 HO1 HB4
  generalize hk : c ++ [(i, d)] = k at *
  go_wp2_with fail
  have hown2 := own4 (ownsRow_setCell_below HO.out (a := ⟨w.heap.size, 1, none⟩) HT.out.1 (.slice B' k.length cap)) HT.out.2 (.slice A s.length n) (.slice B' k.length cap) (.int .i64 f') (.bool false)
  obtain ⟨hB2, hws⟩ := own_ws2 hown2
  have hbel := below4 (HB5.out.setCell (p := ⟨w.heap.size, 1, none⟩) (Nat.le_refl _) (.slice B' k.length cap)) (b := w.heap.size + 1) (by omega) (.slice A s.length n) (.slice B' k.length cap) (.int .i64 f') (.bool false)
  exact bodyPost_ret (v := .tuple #[.agg #[.slice A s.length n, .slice B' k.length cap, .int .i64 f', .bool false], .int .i64 0]) (by simp [results, Try.results32, go_sem, k2]) rfl
    ⟨A, B', n, cap, rfl, ⟨HM.out.es.up hbel, hws, HM.out.an, hB2⟩, hbel⟩
end Go.Proofs.Ytlgfinomkpingaa
