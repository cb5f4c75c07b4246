/- Disks: the revival, as both sides do it, for every disk that may be and whatever is kept. No other condition but that the lists lie in memory. -/
import Derived.StillTailTactics
import Derived.BigRegion
import Derived.RegionTactic
import Derived.Lib.AppendZeros
import Derived.RangeFuncNested
import Derived.RangeFuncBound
import Derived.RangeFuncCalls
import Derived.RangeFuncLeaves
import Derived.Shelf.Abstract
import Derived.Shelf.RegionOpen
import Derived.OwnWalkIn
import Derived.TacticsInMore
import Derived.LoopNIn
import Derived.LoopIn
import Derived.Test.YtkjikigimmchlaaGreatDoorPM
namespace Go.Proofs.YtkjikigimmchlaaGreatDoor
open Go.RowKit
def GivesO (s : List ByteArray) (c : List Wr) (f : Int) (x : Bool) (w : World) (e : Ending) (w' : World) : Prop :=
  ∃ A B n m, e = .returned (.agg #[.slice A s.length n, .slice B c.length m, .int .i64 f, .bool x]) ∧ Mem w' A n B m s c ∧ Below w.heap.size w w'
theorem ws_one (w : World) (q : Int) (d : ByteArray) : Ws (w.alloc (.cells #[.int .i64 q, .string d] 151)) (w.alloc (.cells #[.int .i64 q, .string d] 151)).heap.size (some ⟨w.heap.size, 0, none⟩) [(q, d)] := by
  intro j x hj
  match j, hj with
  | 0, hj =>
    simp at hj
    subst hj
    refine ⟨_, rfl, by simp, ?_, ?_⟩
    · have : (⟨w.heap.size, 0, none⟩ : Addr).add (0 * 2) = ⟨w.heap.size, 0, none⟩ := by unfold Addr.add; split <;> simp_all
      rw [this, World.cell?_alloc_mark w _ 151 (0, 0)]
      rfl
    · have : (⟨w.heap.size, 0, none⟩ : Addr).add (0 * 2) = ⟨w.heap.size, 0, none⟩ := by unfold Addr.add; split <;> simp_all
      rw [this, World.cell?_alloc_mark w _ 151 (0, 0)]
      rfl
set_option maxRecDepth 100000 in
set_option maxHeartbeats 2000000 in
theorem rrevive_any (A B K : Option Addr) (n m r : Nat) (s : List ByteArray) (c : List Wr) (l : List Bool) (f : Int) (x : Bool) (w : World) (hm : Mem w A n B m s c) (hk : Es Value.bool w w.heap.size K l) (hl : s.length ≤ 64) (hc : c.length ≤ 1000) (_hl2 : l.length ≤ maxLen) (hx : c.any (misfitW s.length) = false) :
    Calls Tryz.prog 86 #[.agg #[.slice A s.length n, .slice B c.length m, .int .i64 f, .bool x], .slice K l.length r] w (GivesO (layL s (keptL c l c.length)) [] 0 false w) := by
  unfold maxLen at _hl2
  have hfit := fits hx
  have HM := Lib.hid hm; clear hm
  have HK := Lib.hid hk; clear hk
  have HF := Lib.hid hfit; clear hfit
  clear hx
  have B1 := Lib.hid ((Box.new w [.slice A s.length n, .slice B c.length m, .int .i64 f, .bool x] 30).alloc (.cells #[.slice none 0 0, .slice none 0 0, .int .i64 0, .bool false] 30))
  have B2 := Lib.hid (Box.new2 w (.cells #[.slice A s.length n, .slice B c.length m, .int .i64 f, .bool x] 30) [.slice none 0 0, .slice none 0 0, .int .i64 0, .bool false] 30)
  have HB := Lib.hid (below2 (w := w) (o := .cells #[.slice A s.length n, .slice B c.length m, .int .i64 f, .bool x] 30) (p := .cells #[.slice none 0 0, .slice none 0 0, .int .i64 0, .bool false] 30))
  go_enter Tryz.func86, Tryz.ntmps86
  go_wp2_with (at_builtin; refine app_strs rfl _ _ rfl _ (w.heap.size + 2) ?c1 (.slice (some ⟨w.heap.size + 1 + 1, 0, none⟩) 0 0) [] rfl ?c2 A n s ?c3 rfl ?c4 ?c5 ?_)
  case c1 => simp
  case c2 => simpa using own_empty ((w.alloc (.cells #[.slice A s.length n, .slice B c.length m, .int .i64 f, .bool x] 30)).alloc (.cells #[.slice none 0 0, .slice none 0 0, .int .i64 0, .bool false] 30)) (w.heap.size + 2) (by simp)
  case c3 => exact HM.out.an
  case c4 => exact HM.out.es.up (ext_alloc HB.out _)
  case c5 => simp; omega
  intro v' w4 hown hgrow
  obtain ⟨A', cap, rfl, _, _⟩ := own_es (s := s) hown
  have hb4 := (Below.refl (w.heap.size + 2) ((w.alloc (.cells #[.slice A s.length n, .slice B c.length m, .int .i64 f, .bool x] 30)).alloc (.cells #[.slice none 0 0, .slice none 0 0, .int .i64 0, .bool false] 30))).alloc (by simp) (.cells #[] 9)
  replace hb4 := hb4.grown hgrow (by simp) (by simp [Value.ownBlock])
  have hsz : ((w.alloc (.cells #[.slice A s.length n, .slice B c.length m, .int .i64 f, .bool x] 30)).alloc (.cells #[.slice none 0 0, .slice none 0 0, .int .i64 0, .bool false] 30)).heap.size = w.heap.size + 2 := by simp
  rw [← hsz] at hb4 hown
  have HO := Lib.hid hown; clear hown
  have HB4 := Lib.hid hb4; clear hb4
  clear hgrow hsz
  have c1 := (B1.out.below HB4.out).cell
  generalize (w.alloc (.cells #[.slice A s.length n, .slice B c.length m, .int .i64 f, .bool x] 30)).alloc (.cells #[.slice none 0 0, .slice none 0 0, .int .i64 0, .bool false] 30) = w2 at *
  have HM2 := Lib.hid (HM.out.up HB.out)
  have HT := Lib.hid (And.intro B1.out.lt B2.out.lt)
  go_wp2
  clear c1
  go_loopw [6] (fun i wr => ∃ k : Nat, k ≤ c.length ∧ i = .int .i64 k ∧ Hid (wr.ownsRow w2.heap.size 9 1 (.slice A' s.length cap) s.length ((layL s (keptL c l k)).map Value.string)) ∧ Hid (Below w2.heap.size w2 wr)) (fun i _ => c.length - (intOf i).toNat)
  case atStart => exact ⟨0, by omega, rfl, HO.out, HB4.out⟩
  case round =>
    obtain ⟨k, hk, rfl, HO, HBr⟩ := hrel
    have c1 := (B1.out.below HBr.out).cell
    by_cases hlt : k < c.length
    · by_cases hlk : k < l.length
      · obtain ⟨a1, rfl, hb1, hc1, hd1⟩ := (HM2.out.up HBr.out).ws k c[k] (List.getElem?_eq_getElem hlt)
        obtain ⟨a2, rfl, hb2, hc2⟩ := (HK.out.up (ext HB.out HBr.out)) k l[k] (List.getElem?_eq_getElem hlk)
        have hg : l.getD k false = l[k] := by rw [List.getD_eq_getElem?_getD, List.getElem?_eq_getElem hlk]; rfl
        cases hv : l[k] with
        | true =>
          rw [hv] at hg hc2
          have hs : layL s (keptL c l (k + 1)) = (layL s (keptL c l k)).set c[k].1.toNat c[k].2 := by rw [kept_yes hlt hg, lay_snoc]
          have hx := HF.out c[k] (List.getElem_mem hlt)
          have hlen := lay_length (keptL c l k) s
          clear hg hv
          generalize layL s (keptL c l k) = u at *
          generalize c[k] = y at *
          obtain ⟨q, d⟩ := y
          dsimp only at *
          obtain ⟨hq0, hq1, _⟩ := hx
          obtain ⟨q, rfl⟩ := Int.eq_ofNat_of_zero_le hq0
          rw [Int.toNat_natCast] at hs
          have HS := Lib.hid hs; clear hs
          obtain ⟨g, rfl, hg⟩ := own_some HO.out (by omega)
          have hcell : wr.cell? ⟨g, q, none⟩ = some (.string (u.getD q ⟨#[]⟩)) := by
            rw [HO.out.cellAt q (by omega), List.getElem?_map, List.getElem?_eq_getElem (by omega), List.getD_eq_getElem?_getD, List.getElem?_eq_getElem (by omega)]; rfl
          have hfz : wr.frozen? ⟨g, q, none⟩ = false := HO.out.frozenAt q
          clear hlen
          go_wp2
          go_still_tail 14, (by kernel_rfl)
          change wpList _ _ _ _ _ wr.drew
          have hnew : (wr.setCell ⟨g, q, none⟩ (.string d)).ownsRow w2.heap.size 9 1 (.slice (some ⟨g, 0, none⟩) s.length cap) s.length ((u.set q d).map Value.string) := own_set HO.out
          have hbl : Below w2.heap.size w2 (wr.setCell ⟨g, q, none⟩ (.string d)) := HBr.out.setCell hg _
          have HN := Lib.hid hnew; clear hnew
          have HL := Lib.hid hbl; clear hbl
          go_wp2
          go_roundw
          case rel => exact ⟨k + 1, by omega, by go_num, by rw [HS.out]; exact HN.out, HL.out.drew⟩
          case measure => simp [intOf]; omega
        | false =>
          rw [hv] at hg hc2
          have hs := kept_no (c := c) hg
          have HS := Lib.hid hs; clear hs
          clear hg hv hc1 hd1
          go_wp2
          go_roundw
          case rel => exact ⟨k + 1, by omega, by go_num, by rw [HS.out]; exact HO.out, HBr.out⟩
          case measure => simp [intOf]; omega
      · have hs := kept_over c l c.length (by omega)
        have hs2 := kept_over c l k (by omega)
        rw [hs2, ← hs] at HO
        have k2 := (B2.out.below HBr.out).cell
        have z2 := (B2.out.below HBr.out).frozen
        clear hs hs2
        generalize hu : layL s (keptL c l c.length) = u at *
        have HUL := Lib.hid (show u.length = s.length by rw [← hu, lay_length])
        clear hu
        go_wp2
        have hown2 := own4 HO.out HT.out.2 (.slice A' s.length cap) (.slice none 0 0) (.int .i64 0) (.bool false)
        have hul := HUL.out
        rw [← hul] at hown2
        obtain ⟨hA2, hes⟩ := own_es2 hown2
        refine bodyPost_ret (v := .agg #[.slice A' u.length cap, .slice none 0 0, .int .i64 0, .bool false]) (by simp [results, Tryz.results86, go_sem, k2, hul]) rfl
          ⟨A', none, cap, 0, rfl, ⟨?_, ws_nil _ _ _, hA2, fun _ => rfl, ?_, ty_none _ _⟩, ?_⟩
        · rw [← hul]; exact hes
        · rw [← hul]; exact own_ty hown2
        · exact below4 (ext HB.out HBr.out) (by omega) _ _ _ _
    · obtain rfl : k = c.length := by omega
      have k2 := (B2.out.below HBr.out).cell
      have z2 := (B2.out.below HBr.out).frozen
      generalize hu : layL s (keptL c l c.length) = u at *
      have HUL := Lib.hid (show u.length = s.length by rw [← hu, lay_length])
      clear hu
      go_wp2
      have hown2 := own4 HO.out HT.out.2 (.slice A' s.length cap) (.slice none 0 0) (.int .i64 0) (.bool false)
      have hul := HUL.out
      rw [← hul] at hown2
      obtain ⟨hA2, hes⟩ := own_es2 hown2
      refine bodyPost_ret (v := .agg #[.slice A' u.length cap, .slice none 0 0, .int .i64 0, .bool false]) (by simp [results, Tryz.results86, go_sem, k2, hul]) rfl
        ⟨A', none, cap, 0, rfl, ⟨?_, ws_nil _ _ _, hA2, fun _ => rfl, ?_, ty_none _ _⟩, ?_⟩
      · rw [← hul]; exact hes
      · rw [← hul]; exact own_ty hown2
      · exact below4 (ext HB.out HBr.out) (by omega) _ _ _ _
end Go.Proofs.YtkjikigimmchlaaGreatDoor
namespace Go.Proofs.YtkjikigimmchlaaGreatDoor
open Go.RowKit
set_option maxRecDepth 100000 in
set_option maxHeartbeats 1000000 in
theorem grow_any (n : Nat) (w : World) (h0 : 0 < n) (h1 : n ≤ 1000000) :
    Calls Tryz.prog 263 #[.slice none 0 0, .int .i64 n] w fun e w' => ∃ v, e = .returned v ∧ w'.ownsRow w.heap.size 151 2 v 0 [] ∧ Below w.heap.size w w' := by
  obtain ⟨i0, hi, hz0, hz1, hz2⟩ := info_parts info45
  have hr := fun ty w => Lib.run_append_nil_zeros (P := Tryz.prog) w 28 3 ty 151 i0 (.agg #[.int .i64 0, .string ⟨#[]⟩]) .i64 .i64 Tryz.underlying28 Tryz.underlying3 hi hz0 n h0 (by rw [hz1]; decide) (by omega) (by rw [hz2]; omega)
  go_enter Tryz.func263, Tryz.ntmps263
  go_wp2_with (at_builtin; refine Lib.wpList_append_run _ rfl _ _ 28 3 rfl (.slice none 0 0) (.int .i64 n) rfl rfl _ _ (hr _ _) ?_)
  have hn := grownCap_ge w n 0 151
  have hm := grownCap_le_maxLen w n 0 151 (by unfold maxLen; omega)
  go_ret
  refine ⟨_, rfl, ⟨by simp, .inr ⟨w.heap.size, grownCap w n 0 151, _, rfl, Nat.le_refl _, heap_alloc_new w _, Nat.zero_le _, hm, ?_, by simp⟩⟩, below1.drew⟩
  rw [Array.size_append, size_zeroCells, size_zeroCells]
  show n * 2 + (grownCap w n 0 151 - n) * 2 = grownCap w n 0 151 * 2
  omega
def twoL (l1 l2 : List Wr) : Nat → List Wr
  | 0 => []
  | 1 => l1
  | _ => l1 ++ l2
set_option maxRecDepth 100000 in
set_option maxHeartbeats 2000000 in
theorem concat_any (b : Nat) (A1 A2 : Option Addr) (n1 n2 : Nat) (l1 l2 : List Wr) (w : World) (hb : b < w.heap.size) (hv1 : w.cell? ⟨b, 0, none⟩ = some (.slice A1 l1.length n1)) (hv2 : w.cell? ⟨b, 1, none⟩ = some (.slice A2 l2.length n2))
    (h1 : Ws w w.heap.size A1 l1) (h2 : Ws w w.heap.size A2 l2) (ha1 : A1 = none → n1 = 0) (ha2 : A2 = none → n2 = 0) (hl : l1.length + l2.length ≤ 1000000) (h0 : 0 < l1.length + l2.length) :
    Calls Tryz.prog 247 #[.slice (some ⟨b, 0, none⟩) 2 2] w fun e w' => ∃ v, e = .returned v ∧ w'.ownsRow w.heap.size 151 2 v (l1 ++ l2).length (cellsW (l1 ++ l2)) ∧ Below w.heap.size w w' := by
  have hgr := grow_any (l1.length + l2.length) w h0 hl
  rw [Int.natCast_add] at hgr
  have H1 := Lib.hid h1; clear h1
  have H2 := Lib.hid h2; clear h2
  have HA1 := Lib.hid ha1; clear ha1
  have HA2 := Lib.hid ha2; clear ha2
  have HV1 := Lib.hid hv1
  have HV2 := Lib.hid hv2
  have HGR := Lib.hid hgr; clear hgr
  go_enter Tryz.func247, Tryz.ntmps247
  go_wp2
  go_loop [3, 5, 11] (fun z _ i => ∃ k : Nat, k ≤ 2 ∧ i = .int .i64 k ∧ z = .int .i64 (((twoL l1 l2 k).length : Nat) : Int)) (fun _ _ i => 2 - (intOf i).toNat)
  case atStart => exact ⟨0, by omega, rfl, rfl⟩
  case round =>
    obtain ⟨k, hk, rfl, rfl⟩ := hrel
    match k, hk with
    | 0, _ =>
      simp only [twoL, List.length_nil]
      go_wp2
      go_round
      case rel => exact ⟨1, by omega, rfl, by go_num⟩
      case measure => simp [intOf]
    | 1, _ =>
      simp only [twoL]
      go_wp2
      go_round
      case rel => exact ⟨2, by omega, rfl, by simp⟩
      case measure => simp [intOf]
    | 2, _ =>
      simp only [twoL, List.length_append, Int.natCast_add]
      go_wp2_with fail
      refine HGR.out.mono ?_
      rintro e w1 ⟨v, rfl, hown, hb1⟩
      have HO := Lib.hid hown; clear hown
      have HB := Lib.hid hb1; clear hb1
      clear hv1 hv2
      go_wp2
      go_loopw [6, 8, 27] (fun v _ i wr => ∃ k : Nat, k ≤ 2 ∧ i = .int .i64 k ∧ Hid (wr.ownsRow w.heap.size 151 2 v (twoL l1 l2 k).length (cellsW (twoL l1 l2 k))) ∧ Hid (Below w.heap.size w wr)) (fun _ _ i _ => 2 - (intOf i).toNat)
      case atStart => exact ⟨0, by omega, rfl, HO.out, HB.out⟩
      case round =>
        obtain ⟨k, hk, rfl, HO1, HB1⟩ := hrel
        have hv1 := (HB1.out.cell (p := ⟨b, 0, none⟩) hb).trans HV1.out
        have hv2 := (HB1.out.cell (p := ⟨b, 1, none⟩) hb).trans HV2.out
        match k, hk with
        | 0, _ =>
          go_wp2_with (at_builtin; refine app_wrs rfl _ _ rfl _ w.heap.size ?c1 _ [] rfl ?c2 A1 n1 l1 ?c3 rfl ?c4 ?c5 ?_)
          case c1 => exact HB1.out.size
          case c2 => exact HO1.out
          case c3 => exact HA1.out
          case c4 => exact H1.out.up HB1.out
          case c5 => simp; omega
          intro v' w4 hown hgrow
          have hb4 := HB1.out.grown hgrow HB1.out.size (own_low HO1.out)
          have HO' := Lib.hid hown; clear hown
          have HB' := Lib.hid hb4; clear hb4
          clear hgrow
          go_wp2
          go_roundw
          case rel => exact ⟨1, by omega, rfl, HO'.out, HB'.out⟩
          case measure => simp [intOf]
        | 1, _ =>
          go_wp2_with (at_builtin; refine app_wrs rfl _ _ rfl _ w.heap.size ?c1 _ l1 rfl ?c2 A2 n2 l2 ?c3 rfl ?c4 ?c5 ?_)
          case c1 => exact HB1.out.size
          case c2 => exact HO1.out
          case c3 => exact HA2.out
          case c4 => exact H2.out.up HB1.out
          case c5 => omega
          intro v' w4 hown hgrow
          have hb4 := HB1.out.grown hgrow HB1.out.size (own_low HO1.out)
          replace hown : w4.ownsRow w.heap.size 151 2 v' (l1 ++ l2).length (cellsW (l1 ++ l2)) := by simpa using hown
          have HO' := Lib.hid hown; clear hown
          have HB' := Lib.hid hb4; clear hb4
          clear hgrow
          go_wp2
          go_roundw
          case rel => exact ⟨2, by omega, rfl, HO'.out, HB'.out⟩
          case measure => simp [intOf]
        | 2, _ =>
          go_wp2
          go_ret
          exact ⟨_, rfl, HO1.out, HB1.out⟩
end Go.Proofs.YtkjikigimmchlaaGreatDoor
namespace Go.Proofs.YtkjikigimmchlaaGreatDoor
open Go.RowKit
theorem gives_same {A B : Option Addr} {n m : Nat} {s : List ByteArray} {c : List Wr} {f : Int} {x : Bool} {r : Int} {w w' : World} (h : Mem w A n B m s c) (hb : Below w.heap.size w w') :
    GivesD s c f x r w (.returned (.tuple #[.agg #[.slice A s.length n, .slice B c.length m, .int .i64 f, .bool x], .int .i64 r])) w' := ⟨A, B, n, m, rfl, h.up hb, hb⟩
theorem beq_zero {e : Int} (h : e ≠ 0) : (e == 0) = false := beq_eq_false_iff_ne.2 h
set_option maxRecDepth 100000 in
set_option maxHeartbeats 1000000 in
theorem write_stops (A B : Option Addr) (n m : Nat) (s : List ByteArray) (c : List Wr) (f i : Int) (x : Bool) (d : ByteArray) (w : World) (hm : Mem w A n B m s c) (hr : reachE s.length i x ≠ 0) :
    Calls Tryz.prog 222 #[.agg #[.slice A s.length n, .slice B c.length m, .int .i64 f, .bool x], .int .i64 i, .string d] w (GivesD s c f x (reachE s.length i x) w) := by
  have hre := fun w => reach_any A B s.length n c.length m f i x w
  have HM := Lib.hid hm; clear hm
  generalize reachE s.length i x = e at *
  have hne := beq_zero hr
  have hnb : (e != 0) = true := by simp [bne, hne]
  clear hr
  have B1 := Lib.hid ((Box.new w [.slice A s.length n, .slice B c.length m, .int .i64 f, .bool x] 30).alloc (.cells #[.slice none 0 0, .slice none 0 0, .int .i64 0, .bool false] 30))
  have B2 := Lib.hid (Box.new2 w (.cells #[.slice A s.length n, .slice B c.length m, .int .i64 f, .bool x] 30) [.slice none 0 0, .slice none 0 0, .int .i64 0, .bool false] 30)
  go_enter Tryz.func222, Tryz.ntmps222
  go_wp2_with fail
  refine (hre _).mono ?_
  rintro e w1 ⟨rfl, hb1⟩
  have k1 := (B1.out.below hb1).cell
  have k2 := (B2.out.below hb1).cell
  have z2 := (B2.out.below hb1).frozen
  have HB := Lib.hid (ext below2 hb1)
  clear hre hb1 B1 B2
  go_wp2_with fail
  refine bodyPost_ret (v := .tuple #[.agg #[.slice A s.length n, .slice B c.length m, .int .i64 f, .bool x], .int .i64 _]) (by simp [results, Tryz.results222, go_sem, k2]) rfl (gives_same HM.out (below4 HB.out (by omega) _ _ _ _))
set_option maxRecDepth 100000 in
set_option maxHeartbeats 1000000 in
theorem write_dies (A B : Option Addr) (n m : Nat) (s : List ByteArray) (c : List Wr) (f i : Int) (x : Bool) (d : ByteArray) (w : World) (hm : Mem w A n B m s c) (hr : reachE s.length i x = 0) (hd : ¬ 64 < (d.size : Int)) (hf : f < 9223372036854775808) (hf1 : burnD f x = true) :
    Calls Tryz.prog 222 #[.agg #[.slice A s.length n, .slice B c.length m, .int .i64 f, .bool x], .int .i64 i, .string d] w (GivesD s c (burnF f) true 6 w) := by
  have hre := fun w => reach_any A B s.length n c.length m f i x w
  rw [hr] at hre
  have htl := fun w => tooLong_any d w
  rw [decide_eq_false hd] at htl
  have hbu := fun w => burn_any A B s.length n c.length m f x w hf
  rw [hf1] at hbu
  generalize burnF f = f' at *
  have HM := Lib.hid hm; clear hm
  clear hr hd hf1
  have B1 := Lib.hid ((Box.new w [.slice A s.length n, .slice B c.length m, .int .i64 f, .bool x] 30).alloc (.cells #[.slice none 0 0, .slice none 0 0, .int .i64 0, .bool false] 30))
  have B2 := Lib.hid (Box.new2 w (.cells #[.slice A s.length n, .slice B c.length m, .int .i64 f, .bool x] 30) [.slice none 0 0, .slice none 0 0, .int .i64 0, .bool false] 30)
  go_enter Tryz.func222, Tryz.ntmps222
  go_wp2_with fail
  refine (hre _).mono ?_
  rintro e w1 ⟨rfl, hb1⟩
  have k1 := (B1.out.below hb1).cell
  have HB := Lib.hid (ext below2 hb1)
  clear hre
  go_wp2_with fail
  refine (htl _).mono ?_
  rintro e w2 ⟨rfl, rfl⟩
  go_wp2_with fail
  refine (hbu _).mono ?_
  rintro e w2 ⟨rfl, hb2⟩
  clear k1
  have k1 := ((B1.out.below hb1).below hb2).cell
  have z1 := ((B1.out.below hb1).below hb2).frozen
  have k2 := ((B2.out.below hb1).below hb2).cell
  have z2 := ((B2.out.below hb1).below hb2).frozen
  have HB2 := Lib.hid (ext HB.out hb2)
  clear hb1 hb2 B1 B2 HB
  go_wp2_with fail
  refine bodyPost_ret (v := .tuple #[.agg #[.slice A s.length n, .slice B c.length m, .int .i64 f', .bool true], .int .i64 6]) (by simp [results, Tryz.results222, go_sem, k2]) rfl (gives_same HM.out (below4 (below4 HB2.out (by omega) _ _ _ _) (by omega) _ _ _ _))
set_option maxRecDepth 100000 in
set_option maxHeartbeats 2000000 in
theorem write_any (A B : Option Addr) (n m : Nat) (s : List ByteArray) (c : List Wr) (f i : Int) (x : Bool) (d : ByteArray) (w : World) (hm : Mem w A n B m s c) (hr : reachE s.length i x = 0) (hd : ¬ 64 < (d.size : Int)) (hf : f < 9223372036854775808) (hf1 : burnD f x = false) (hc : c.length ≤ 1000) :
    Calls Tryz.prog 222 #[.agg #[.slice A s.length n, .slice B c.length m, .int .i64 f, .bool x], .int .i64 i, .string d] w (GivesD s (c ++ [(i, d)]) (burnF f) false 0 w) := by
  have hre := fun w => reach_any A B s.length n c.length m f i x w
  rw [hr] at hre
  have htl := fun w => tooLong_any d w
  rw [decide_eq_false hd] at htl
  have hbu := fun w => burn_any A B s.length n c.length m f x w hf
  rw [hf1] at hbu
  generalize burnF f = f' at *
  have HM := Lib.hid hm; clear hm
  clear hr hd hf1
  have B1 := Lib.hid ((Box.new w [.slice A s.length n, .slice B c.length m, .int .i64 f, .bool x] 30).alloc (.cells #[.slice none 0 0, .slice none 0 0, .int .i64 0, .bool false] 30))
  have B2 := Lib.hid (Box.new2 w (.cells #[.slice A s.length n, .slice B c.length m, .int .i64 f, .bool x] 30) [.slice none 0 0, .slice none 0 0, .int .i64 0, .bool false] 30)
  go_enter Tryz.func222, Tryz.ntmps222
  go_wp2_with fail
  refine (hre _).mono ?_
  rintro e w1 ⟨rfl, hb1⟩
  have k1 := (B1.out.below hb1).cell
  have HB := Lib.hid (ext below2 hb1)
  clear hre
  go_wp2_with fail
  refine (htl _).mono ?_
  rintro e w2 ⟨rfl, rfl⟩
  go_wp2_with fail
  refine (hbu _).mono ?_
  rintro e w2 ⟨rfl, hb2⟩
  clear k1
  have b1 := (B1.out.below hb1).below hb2
  have b2 := (B2.out.below hb1).below hb2
  have k1 := b1.cell
  have z1 := b1.frozen
  have b1' := b1.four (.slice A s.length n) (.slice B c.length m) (.int .i64 f') (.bool false)
  have b2' := b2.past4 (b := w.heap.size) (by simp) (.slice A s.length n) (.slice B c.length m) (.int .i64 f') (.bool false)
  have hbw := below4 (ext HB.out hb2) (Nat.le_refl _) (.slice A s.length n) (.slice B c.length m) (.int .i64 f') (.bool false)
  have B3 := Lib.hid b1'
  have B4 := Lib.hid b2'
  have HB2 := Lib.hid hbw
  clear b1 b2 b1' b2' hbw hb1 hb2 B1 B2 HB hbu
  go_wp2_with fail
  generalize hW : (((w2.setCell ⟨w.heap.size, 0, none⟩ (.slice A s.length n)).setCell ⟨w.heap.size, 1, none⟩ (.slice B c.length m)).setCell ⟨w.heap.size, 2, none⟩ (.int .i64 f')).setCell ⟨w.heap.size, 3, none⟩ (.bool false) = w3 at *
  have hsz : w2.heap.size = w3.heap.size := by rw [← hW]; simp
  simp only [hsz]
  clear hW k1 z1
  have hm3 := HM.out.up HB2.out
  have hcon := concat_any (w3.heap.size + 1) B (some ⟨w3.heap.size, 0, none⟩) m 1 c [(i, d)] ((w3.alloc (.cells #[.int .i64 i, .string d] 151)).alloc (.cells #[.slice B c.length m, .slice (some ⟨w3.heap.size, 0, none⟩) 1 1] 28))
    (by simp) (by simp) (by simp) (hm3.ws.up below2) ((ws_one w3 i d).up below1) hm3.bn (fun q => by cases q) (by simp; omega) (by simp)
  have HCON := Lib.hid hcon
  clear hm3 hcon
  refine HCON.out.mono ?_
  rintro e w4 ⟨v, rfl, hown, hb4⟩
  obtain ⟨B', cap, rfl, _, _⟩ := own_ws hown
  have l1 := B3.out.lt
  have l2 := B4.out.lt
  have b1 := (B3.out.below below2).below hb4
  have b2 := (B4.out.below below2).below hb4
  have k1 := b1.cell
  have z1 := b1.frozen
  have k2 := b2.cell
  have z2 := b2.frozen
  have HO := Lib.hid hown
  have HB4 := Lib.hid (ext (ext HB2.out below2) hb4)
  have HT := Lib.hid (And.intro l1 l2)
  clear l1 l2 hown hb4 b1 b2 B3 B4 HCON
  generalize hk : c ++ [(i, d)] = k at *
  go_wp2_with fail
  have hown2 := own4 (ownsRow_setCell_below HO.out (a := ⟨w.heap.size, 1, none⟩) (by have := HT.out; simp; omega) (.slice B' k.length cap)) (b := w.heap.size + 1) (by have := HT.out; simp; omega) (.slice A s.length n) (.slice B' k.length cap) (.int .i64 f') (.bool false)
  obtain ⟨hB2, hws⟩ := own_ws2 hown2
  have hbel := below4 (HB4.out.setCell (p := ⟨w.heap.size, 1, none⟩) (Nat.le_refl _) (.slice B' k.length cap)) (b := w.heap.size + 1) (by omega) (.slice A s.length n) (.slice B' k.length cap) (.int .i64 f') (.bool false)
  exact bodyPost_ret (v := .tuple #[.agg #[.slice A s.length n, .slice B' k.length cap, .int .i64 f', .bool false], .int .i64 0]) (by simp [results, Tryz.results222, go_sem, k2]) rfl
    ⟨A, B', n, cap, rfl, ⟨HM.out.es.up hbel, hws, HM.out.an, hB2, HM.out.ta.up hbel, own_ty hown2⟩, hbel⟩
end Go.Proofs.YtkjikigimmchlaaGreatDoor
namespace Go.Proofs.YtkjikigimmchlaaGreatDoor
open Go.RowKit
set_option maxRecDepth 100000 in
set_option maxHeartbeats 1000000 in
theorem rwrite_stops (A B : Option Addr) (n m : Nat) (s : List ByteArray) (c : List Wr) (f i : Int) (x : Bool) (d : ByteArray) (w : World) (hm : Mem w A n B m s c) (hr : reachE s.length i x ≠ 0) :
    Calls Tryz.prog 252 #[.agg #[.slice A s.length n, .slice B c.length m, .int .i64 f, .bool x], .int .i64 i, .string d] w (GivesD s c f x (reachE s.length i x) w) := by
  have HM := Lib.hid hm; clear hm
  have k2 := (Box.new2 w (.cells #[.slice A s.length n, .slice B c.length m, .int .i64 f, .bool x] 30) [.slice A s.length n, .slice B c.length m, .int .i64 f, .bool x] 30).cell
  cases x with
  | true =>
    have e : reachE s.length i true = 6 := rfl
    rw [e]
    clear hr e
    go_enter Tryz.func252, Tryz.ntmps252
    go_wp2
    exact bodyPost_ret (v := .tuple #[.agg #[.slice A s.length n, .slice B c.length m, .int .i64 f, .bool true], .int .i64 6]) (by simp [results, Tryz.results252, go_sem]) rfl (gives_same HM.out below2)
  | false =>
    by_cases h0 : i < 0
    · have e : reachE s.length i false = 4 := by unfold reachE; rw [if_neg (by simp), if_pos h0]
      rw [e]
      clear hr e
      go_enter Tryz.func252, Tryz.ntmps252
      go_wp2
      exact bodyPost_ret (v := .tuple #[.agg #[.slice A s.length n, .slice B c.length m, .int .i64 f, .bool false], .int .i64 4]) (by simp [results, Tryz.results252, go_sem]) rfl (gives_same HM.out below2)
    · by_cases h1 : (s.length : Int) ≤ i
      · have e : reachE s.length i false = 4 := by unfold reachE; rw [if_neg (by simp), if_neg h0, if_pos h1]
        rw [e]
        clear hr e
        go_enter Tryz.func252, Tryz.ntmps252
        go_wp2
        exact bodyPost_ret (v := .tuple #[.agg #[.slice A s.length n, .slice B c.length m, .int .i64 f, .bool false], .int .i64 4]) (by simp [results, Tryz.results252, go_sem]) rfl (gives_same HM.out below2)
      · exact absurd (by unfold reachE; rw [if_neg (by simp), if_neg h0, if_neg h1]) hr
theorem reach_zero {n : Nat} {i : Int} {x : Bool} (h : reachE n i x = 0) : x = false ∧ 0 ≤ i ∧ i < n := by
  unfold reachE at h
  cases x with
  | true => rw [if_pos rfl] at h; omega
  | false =>
    rw [if_neg (by simp)] at h
    split at h
    · omega
    · split at h
      · omega
      · exact ⟨rfl, by omega, by omega⟩
set_option maxRecDepth 100000 in
set_option maxHeartbeats 1000000 in
theorem rwrite_dies (A B : Option Addr) (n m : Nat) (s : List ByteArray) (c : List Wr) (f i : Int) (x : Bool) (d : ByteArray) (w : World) (hm : Mem w A n B m s c) (hr : reachE s.length i x = 0) (hd : ¬ 64 < (d.size : Int)) (hf : f < 9223372036854775808) (hf1 : burnD f x = true) :
    Calls Tryz.prog 252 #[.agg #[.slice A s.length n, .slice B c.length m, .int .i64 f, .bool x], .int .i64 i, .string d] w (GivesD s c (burnF f) true 6 w) := by
  obtain ⟨rfl, h0, h1⟩ := reach_zero hr
  have hbu := fun w => rburn_any A B s.length n c.length m f false w hf
  rw [hf1] at hbu
  generalize burnF f = f' at *
  have HM := Lib.hid hm; clear hm
  clear hr hf1
  have B1 := Lib.hid ((Box.new w [.slice A s.length n, .slice B c.length m, .int .i64 f, .bool false] 30).alloc (.cells #[.slice none 0 0, .slice none 0 0, .int .i64 0, .bool false] 30))
  have B2 := Lib.hid (Box.new2 w (.cells #[.slice A s.length n, .slice B c.length m, .int .i64 f, .bool false] 30) [.slice none 0 0, .slice none 0 0, .int .i64 0, .bool false] 30)
  go_enter Tryz.func252, Tryz.ntmps252
  go_wp2_with fail
  refine (hbu _).mono ?_
  rintro e w2 ⟨rfl, hb2⟩
  have k1 := (B1.out.below hb2).cell
  have z1 := (B1.out.below hb2).frozen
  have k2 := (B2.out.below hb2).cell
  have z2 := (B2.out.below hb2).frozen
  have HB2 := Lib.hid (ext below2 hb2)
  clear hb2 B1 B2
  go_wp2_with fail
  exact bodyPost_ret (v := .tuple #[.agg #[.slice A s.length n, .slice B c.length m, .int .i64 f', .bool true], .int .i64 6]) (by simp [results, Tryz.results252, go_sem, k2]) rfl (gives_same HM.out (below4 (below4 HB2.out (by omega) _ _ _ _) (by omega) _ _ _ _))
set_option maxRecDepth 100000 in
set_option maxHeartbeats 2000000 in
theorem rwrite_any (A B : Option Addr) (n m : Nat) (s : List ByteArray) (c : List Wr) (f i : Int) (x : Bool) (d : ByteArray) (w : World) (hm : Mem w A n B m s c) (hr : reachE s.length i x = 0) (hd : ¬ 64 < (d.size : Int)) (hf : f < 9223372036854775808) (hf1 : burnD f x = false) (hc : c.length ≤ 1000) :
    Calls Tryz.prog 252 #[.agg #[.slice A s.length n, .slice B c.length m, .int .i64 f, .bool x], .int .i64 i, .string d] w (GivesD s (c ++ [(i, d)]) (burnF f) false 0 w) := by
  obtain ⟨rfl, h0, h1⟩ := reach_zero hr
  have hbu := fun w => rburn_any A B s.length n c.length m f false w hf
  rw [hf1] at hbu
  generalize burnF f = f' at *
  have HM := Lib.hid hm; clear hm
  clear hr hf1
  have B1 := Lib.hid ((Box.new w [.slice A s.length n, .slice B c.length m, .int .i64 f, .bool false] 30).alloc (.cells #[.slice none 0 0, .slice none 0 0, .int .i64 0, .bool false] 30))
  have B2 := Lib.hid (Box.new2 w (.cells #[.slice A s.length n, .slice B c.length m, .int .i64 f, .bool false] 30) [.slice none 0 0, .slice none 0 0, .int .i64 0, .bool false] 30)
  go_enter Tryz.func252, Tryz.ntmps252
  go_wp2_with fail
  refine (hbu _).mono ?_
  rintro e w2 ⟨rfl, hb2⟩
  have b1 := B1.out.below hb2
  have b2 := B2.out.below hb2
  have k1 := b1.cell
  have z1 := b1.frozen
  have b1' := b1.four (.slice A s.length n) (.slice B c.length m) (.int .i64 f') (.bool false)
  have b2' := b2.past4 (b := w.heap.size) (by simp) (.slice A s.length n) (.slice B c.length m) (.int .i64 f') (.bool false)
  have hbw := below4 (ext below2 hb2) (Nat.le_refl _) (.slice A s.length n) (.slice B c.length m) (.int .i64 f') (.bool false)
  have B3 := Lib.hid b1'
  have B4 := Lib.hid b2'
  have HB2 := Lib.hid hbw
  clear b1 b2 b1' b2' hbw hb2 B1 B2 hbu
  obtain ⟨w3, hW⟩ : ∃ w3, (((w2.setCell ⟨w.heap.size, 0, none⟩ (.slice A s.length n)).setCell ⟨w.heap.size, 1, none⟩ (.slice B c.length m)).setCell ⟨w.heap.size, 2, none⟩ (.int .i64 f')).setCell ⟨w.heap.size, 3, none⟩ (.bool false) = w3 := ⟨_, rfl⟩
  rw [hW] at B3 B4 HB2
  have hsz : w2.heap.size = w3.heap.size := by rw [← hW]; simp
  have k3 := B3.out.cell
  have k5 := fun o j => (B3.out.alloc o).cell j
  go_wp2_with (at_builtin; refine app_wrs rfl _ _ rfl _ w3.heap.size ?c1 (.slice (some ⟨w3.heap.size, 0, none⟩) 0 0) [] rfl ?c2 B m c ?c3 rfl ?c4 ?c5 ?_)
  case c1 => simp
  case c2 => exact own_empty w3 _ (Nat.le_refl _)
  case c3 => exact HM.out.bn
  case c4 => exact HM.out.ws.up (ext_alloc HB2.out _)
  case c5 => simp; omega
  intro v1 w4 hown1 hgrow1
  have hb4 := (ext_alloc (Below.refl w3.heap.size w3) (.cells #[] 151)).grown hgrow1 (by simp) (by simp [Value.ownBlock])
  replace hown1 : w4.ownsRow w3.heap.size 151 2 v1 c.length (cellsW c) := by simpa using hown1
  have HO1 := Lib.hid hown1; clear hown1
  have HB4 := Lib.hid hb4; clear hb4
  clear hgrow1 hW k1 z1 k3 k5 hsz
  go_wp2_with (at_builtin; refine app_wrs rfl _ _ rfl _ w3.heap.size ?d1 _ c rfl ?d2 (some ⟨w4.heap.size, 0, none⟩) 1 [(i, d)] ?d3 rfl ?d4 ?d5 ?_)
  case d1 => have := HB4.out.size; simp; omega
  case d2 => exact HO1.out.alloc _
  case d3 => intro q; cases q
  case d4 => exact ws_one w4 i d
  case d5 => simp; omega
  intro v2 w5 hown2 hgrow2
  have hb5 := (ext_alloc HB4.out (.cells #[.int .i64 i, .string d] 151)).grown hgrow2 (by have := HB4.out.size; simp; omega) (own_low HO1.out)
  replace hown2 : w5.ownsRow w3.heap.size 151 2 v2 (c ++ [(i, d)]).length (cellsW (c ++ [(i, d)])) := by simpa using hown2
  obtain ⟨B', cap, rfl, _, _⟩ := own_ws hown2
  have l1 := B3.out.lt
  have l2 := B4.out.lt
  have b1 := B3.out.below hb5
  have b2 := B4.out.below hb5
  have k1 := b1.cell
  have z1 := b1.frozen
  have k2 := b2.cell
  have z2 := b2.frozen
  have HO := Lib.hid hown2
  have HB5 := Lib.hid (ext HB2.out hb5)
  have HT := Lib.hid (And.intro l1 l2)
  clear l1 l2 hown2 hb5 b1 b2 B3 B4 hgrow2 HO1 HB4
  generalize hk : c ++ [(i, d)] = k at *
  go_wp2_with fail
  have hown2 := own4 (ownsRow_setCell_below HO.out (a := ⟨w.heap.size, 1, none⟩) HT.out.1 (.slice B' k.length cap)) HT.out.2 (.slice A s.length n) (.slice B' k.length cap) (.int .i64 f') (.bool false)
  obtain ⟨hB2, hws⟩ := own_ws2 hown2
  have hbel := below4 (HB5.out.setCell (p := ⟨w.heap.size, 1, none⟩) (Nat.le_refl _) (.slice B' k.length cap)) (b := w.heap.size + 1) (by omega) (.slice A s.length n) (.slice B' k.length cap) (.int .i64 f') (.bool false)
  exact bodyPost_ret (v := .tuple #[.agg #[.slice A s.length n, .slice B' k.length cap, .int .i64 f', .bool false], .int .i64 0]) (by simp [results, Tryz.results252, go_sem, k2]) rfl
    ⟨A, B', n, cap, rfl, ⟨HM.out.es.up hbel, hws, HM.out.an, hB2, HM.out.ta.up hbel, own_ty hown2⟩, hbel⟩
end Go.Proofs.YtkjikigimmchlaaGreatDoor
namespace Go.Proofs.YtkjikigimmchlaaGreatDoor
open Go.RowKit Go.Shelf
attribute [local go_sem] Oper.semAt_some
set_option maxRecDepth 100000 in
set_option maxHeartbeats 1000000 in
theorem rread_stops (A B : Option Addr) (n m : Nat) (s : List ByteArray) (c : List Wr) (f i : Int) (x : Bool) (w : World) (hr : reachE s.length i x ≠ 0) :
    Calls Tryz.prog 189 #[.agg #[.slice A s.length n, .slice B c.length m, .int .i64 f, .bool x], .int .i64 i] w fun e w' => e = .returned (.tuple #[.string ⟨#[]⟩, .int .i64 (reachE s.length i x)]) ∧ Below w.heap.size w w' := by
  cases x with
  | true =>
    have e : reachE s.length i true = 6 := rfl
    rw [e]
    clear hr e
    go_enter Tryz.func189, Tryz.ntmps189
    go_wp2
    go_ret2
    exact ⟨rfl, below1⟩
  | false =>
    by_cases h0 : i < 0
    · have e : reachE s.length i false = 4 := by unfold reachE; rw [if_neg (by simp), if_pos h0]
      rw [e]
      clear hr e
      go_enter Tryz.func189, Tryz.ntmps189
      go_wp2
      go_ret2
      exact ⟨rfl, below1⟩
    · by_cases h1 : (s.length : Int) ≤ i
      · have e : reachE s.length i false = 4 := by unfold reachE; rw [if_neg (by simp), if_neg h0, if_pos h1]
        rw [e]
        clear hr e
        go_enter Tryz.func189, Tryz.ntmps189
        go_wp2
        go_ret2
        exact ⟨rfl, below1⟩
      · exact absurd (by unfold reachE; rw [if_neg (by simp), if_neg h0, if_neg h1]) hr
set_option maxRecDepth 100000 in
set_option maxHeartbeats 1000000 in
theorem rread_any (A B : Option Addr) (n m : Nat) (s : List ByteArray) (c : List Wr) (f : Int) (i : Nat) (t : ByteArray) (w : World) (hm : Mem w A n B m s c) (hi : s[i]? = some t) (hc : c.length ≤ maxLen) :
    Calls Tryz.prog 189 #[.agg #[.slice A s.length n, .slice B c.length m, .int .i64 f, .bool false], .int .i64 i] w fun e w' => e = .returned (.tuple #[.string (holdsL c i t), .int .i64 0]) ∧ Below w.heap.size w w' := by
  have hh := fun w hm => holds_any A B n m s c f false i t w hm hi hc
  have hlt := (List.getElem?_eq_some_iff.1 hi).1
  have h0 : ¬ (i : Int) < 0 := by omega
  have h1 : (i : Int) < (s.length : Int) := by omega
  have HM := Lib.hid hm; clear hm
  clear hi hlt hc
  generalize holdsL c i t = u at *
  go_enter Tryz.func189, Tryz.ntmps189
  go_wp2_with fail
  refine (hh _ (HM.out.up below1)).mono ?_
  rintro e w1 ⟨rfl, hb1⟩
  have HB := Lib.hid hb1; clear hb1
  go_wp2_with fail
  go_ret2
  exact ⟨rfl, ext below1 HB.out⟩
def upto {α : Type} (f : Nat → α) (k : Nat) : List α := (List.range k).map f
theorem upto_succ {α : Type} (f : Nat → α) (k : Nat) : upto f (k + 1) = upto f k ++ [f k] := by simp [upto, List.range_succ]
theorem upto_length {α : Type} (f : Nat → α) (k : Nat) : (upto f k).length = k := by simp [upto]
def bwd (c : List Wr) (k : Nat) : Nat × Wr := (c.length - 1 - k, c.getD (c.length - 1 - k) (0, ⟨#[]⟩))
set_option maxRecDepth 100000 in
set_option maxHeartbeats 2000000 in
theorem back1_in (F : Fence) (n : Nat) (h8 : F.fn 248) (hro : F.round = none) (hn : 1 ≤ n) (l Bs n₀ cap : Nat) (A : Option Addr) (c : List Wr) (hlen : c.length ≤ 1000000) (J Jx : List (Nat × Wr) → World → Prop)
    (hY : ∀ pre x W, J pre W → pre.length < c.length → YieldAt F (n - 1) Tryz.prog l #[.int .i64 (x.1 : Int), .agg #[.int .i64 x.2.1, .string x.2.2]] W fun e W' =>
      (e = .returned (.bool true) ∧ J (pre ++ [x]) W' ∧ Below n₀ W W') ∨ (e = .returned (.bool false) ∧ Jx (pre ++ [x]) W'))
    (W : World) (hBs : W.cell? ⟨Bs, 0, none⟩ = some (.slice A c.length cap)) (hb : Bs < n₀) (hc : Ws W n₀ A c) (h0 : J [] W) :
    CallsIn F n Tryz.prog 248 #[.func (.yield l) #[] #[], .pointer (some ⟨Bs, 0, none⟩)] W fun e W' => (∃ v, e = .returned v) ∧
      ((∃ ys, ys = upto (bwd c) c.length ∧ J ys W') ∨ (∃ pre, (∃ k, k ≤ c.length ∧ pre = upto (bwd c) k) ∧ Jx pre W')) := by
  refine callsIn_of_wp Tryz.func248 rfl h8 ?_ hro
  simp only [Tryz.ntmps248, List.size_toArray, List.length_cons, List.length_nil, Nat.reduceAdd, Nat.reduceSub, Array.replicate_succ, Array.replicate_zero, List.push_toArray, List.append_toArray, List.nil_append, List.cons_append]
  gi_wp2
  gi_loopw [3] (fun i wr => ∃ k : Nat, k ≤ c.length ∧ i = .int .i64 ((c.length : Int) - 1 - k) ∧ J (upto (bwd c) k) wr ∧ Below n₀ W wr)
    (fun i _ => (intOf i + 1).toNat)
  case atStart => exact ⟨0, Nat.zero_le _, by simp, h0, Below.refl _ _⟩
  case round =>
    obtain ⟨k, hk, rfl, hJs, hnx⟩ := hrel
    have hcb := (hnx.cell (p := ⟨Bs, 0, none⟩) hb).trans hBs
    by_cases hlt : k < c.length
    · obtain ⟨r, hr⟩ : ∃ r, c.length = r + 1 + k := ⟨c.length - 1 - k, by omega⟩
      have hrl : r < c.length := by omega
      have e : (c.length : Int) - 1 - k = (r : Int) := by omega
      have hbw : bwd c k = (r, c[r]) := by
        have : c.length - 1 - k = r := by omega
        unfold bwd
        rw [this, List.getD_eq_getElem?_getD, List.getElem?_eq_getElem hrl]; rfl
      obtain ⟨a1, rfl, hb1, hc1, hd1⟩ := hc r c[r] (List.getElem?_eq_getElem hrl)
      have hc2 := (hnx.cell (p := a1.add (r * 2)) (by rw [add_block]; exact hb1)).trans hc1
      have hd2 := (hnx.cell (p := ⟨(a1.add (r * 2)).block, (a1.add (r * 2)).off + 1, none⟩) (by show (a1.add (r * 2)).block < n₀; rw [add_block]; exact hb1)).trans hd1
      obtain ⟨fn, tmps, assign, body, hy, hR⟩ := hY _ (r, c[r]) wr hJs (by rw [upto_length]; exact hlt)
      have hJn : ∀ W', J (upto (bwd c) k ++ [(r, c[r])]) W' → J (upto (bwd c) (k + 1)) W' := fun W' h => by rw [upto_succ, hbw]; exact h
      have hJx : ∀ W', Jx (upto (bwd c) k ++ [(r, c[r])]) W' → Jx (upto (bwd c) (k + 1)) W' := fun W' h => by rw [upto_succ, hbw]; exact h
      rw [e]
      dsimp only at hy
      have HJn := Lib.hid hJn; clear hJn
      have HJx := Lib.hid hJx; clear hJx
      have HR := Lib.hid hr
      have HC := Lib.hid hc; clear hc
      have HE := Lib.hid e; clear e
      clear hbw hr hc1 hd1 hBs
      generalize c[r] = y at *
      obtain ⟨q, d⟩ := y
      dsimp only at *
      gi_wp2
      refine hR.mono ?_
      rintro e W3 (⟨rfl, hJ3, hk3⟩ | ⟨rfl, hJx3⟩)
      · gi_wp2
        go_roundw
        case rel => exact ⟨k + 1, by omega, by have := HE.out; congr 1; omega, HJn.out _ hJ3, hnx.trans hk3⟩
        case measure => simp [intOf]
      · gi_wp2
        refine bodyPost_ret (results_none rfl _ _ _) rfl ?_
        exact ⟨⟨_, rfl⟩, .inr ⟨_, ⟨k + 1, by omega, rfl⟩, HJx.out _ hJx3⟩⟩
    · obtain rfl : k = c.length := by omega
      have e : (c.length : Int) - 1 - (c.length : Nat) = -1 := by omega
      rw [e]
      gi_wp2
      go_end0
      exact ⟨⟨_, rfl⟩, .inl ⟨_, rfl, hJs⟩⟩
set_option maxRecDepth 100000 in
set_option maxHeartbeats 1000000 in
theorem back_in (F : Fence) (n : Nat) (h : F.fn 225) (hro : F.round = none) (a : Option Addr) (len cap : Nat) (w : World) :
    CallsIn F n Tryz.prog 225 #[.slice a len cap] w fun e w' => e = .returned (.func (.func 248) #[] #[.pointer (some ⟨w.heap.size, 0, none⟩)]) ∧ w' = w.alloc (.cells #[.slice a len cap] 28) := by
  refine callsIn_of_wp Tryz.func225 rfl h ?_ hro
  simp only [Tryz.ntmps225, List.size_toArray, List.length_cons, List.length_nil, Nat.reduceAdd, Nat.reduceSub, Array.replicate_succ, Array.replicate_zero, List.push_toArray, List.append_toArray, List.nil_append, List.cons_append]
  gi_wp2
  go_ret
  exact ⟨rfl, rfl⟩
theorem back_stops (F : Fence) (n : Nat) (h8 : F.fn 248) (hro : F.round = none) (hn : 1 ≤ n) (Bs n₀ cap : Nat) (A : Option Addr) (c : List Wr) (hlen : c.length ≤ 1000000) (w : World) (hBs : Bs < w.heap.size) (hb : Bs < n₀) (hn₀ : n₀ ≤ w.heap.size)
    (hv : w.cell? ⟨Bs, 0, none⟩ = some (.slice A c.length cap)) (hc : Ws w n₀ A c) :
    SeqStopsK F n Tryz.prog 248 #[.pointer (some ⟨Bs, 0, none⟩)] (fun x : Nat × Wr => #[Value.int .i64 (x.1 : Int), .agg #[.int .i64 x.2.1, .string x.2.2]]) (Below n₀) (fun ys => ys = upto (bwd c) c.length) (fun pre => ∃ k, k ≤ c.length ∧ pre = upto (bwd c) k) c.length w := fun l J Jx W hW _ _ hY h0 =>
  back1_in F n h8 hro hn l Bs n₀ cap A c hlen J Jx hY W ((hW.cell (p := ⟨Bs, 0, none⟩) hBs).trans hv) hb (hc.below (hW.mono hn₀) (Nat.le_refl _)) h0
theorem Box.new3 (w : World) (o p : Obj) (vs : List Value) (t : TypeId) : Box (((w.alloc o).alloc p).alloc (.cells vs.toArray t)) (w.heap.size + 1 + 1) vs := by
  have := Box.new2 (w.alloc o) p vs t
  rwa [World.size_alloc] at this
theorem Box.new4 (w : World) (o p q : Obj) (vs : List Value) (t : TypeId) : Box ((((w.alloc o).alloc p).alloc q).alloc (.cells vs.toArray t)) (w.heap.size + 1 + 1 + 1) vs := by
  have := Box.new3 (w.alloc o) p q vs t
  rwa [World.size_alloc] at this
theorem holds_skip (c : List Wr) (i : Int) (t : ByteArray) : ∀ k, k ≤ c.length → (∀ p ∈ upto (bwd c) k, p.2.1 ≠ i) → holdsL c i t = holdsL (c.take (c.length - k)) i t := by
  intro k
  induction k with
  | zero => intro _ _; rw [Nat.sub_zero, List.take_length]
  | succ k ih =>
    intro hk hp
    rw [ih (by omega) fun p h => hp p (by rw [upto_succ]; exact List.mem_append.2 (.inl h))]
    have hl := hp (bwd c k) (by rw [upto_succ]; exact List.mem_append.2 (.inr (by simp)))
    have e : c.length - k = (c.length - (k + 1)) + 1 := by omega
    have hr : c.length - (k + 1) < c.length := by omega
    rw [e, take_snoc c _ hr, holds_snoc]
    have hb : (bwd c k).2 = c[c.length - (k + 1)] := by
      unfold bwd
      have : c.length - 1 - k = c.length - (k + 1) := by omega
      simp only [this]
      rw [List.getD_eq_getElem?_getD, List.getElem?_eq_getElem hr]; rfl
    rw [hb] at hl
    rw [if_neg hl]
theorem holds_none (c : List Wr) (i : Int) (t : ByteArray) (hp : ∀ p ∈ upto (bwd c) c.length, p.2.1 ≠ i) : holdsL c i t = t := by
  rw [holds_skip c i t c.length (Nat.le_refl _) hp, Nat.sub_self]; rfl
theorem holds_found (c : List Wr) (i : Int) (t : ByteArray) (k : Nat) (hk : k < c.length) (hp : ∀ p ∈ upto (bwd c) k, p.2.1 ≠ i) (hl : (bwd c k).2.1 = i) : holdsL c i t = (bwd c k).2.2 := by
  rw [holds_skip c i t k (by omega) hp]
  have e : c.length - k = (c.length - (k + 1)) + 1 := by omega
  have hr : c.length - (k + 1) < c.length := by omega
  rw [e, take_snoc c _ hr, holds_snoc]
  have hb : (bwd c k).2 = c[c.length - (k + 1)] := by
    unfold bwd
    have : c.length - 1 - k = c.length - (k + 1) := by omega
    simp only [this]
    rw [List.getD_eq_getElem?_getD, List.getElem?_eq_getElem hr]; rfl
  rw [hb] at hl ⊢
  rw [if_pos hl]
theorem box_kept {X Y : World} {row : Option Nat} {b : Nat} {vs : List Value} (h : Box X b vs) (hg : X.grownBy Y row) (hr : ∀ r, row = some r → ∃ o : Obj, X.heap[r]? = some o ∧ o.isCells = false) : Box Y b vs := by
  have hl := h.lt
  obtain ⟨t, h⟩ := h
  refine ⟨t, (hg.block b hl fun e => ?_).trans h⟩
  obtain ⟨o, ho, hc⟩ := hr b e.symm
  rw [h] at ho
  cases ho
  cases hc
set_option maxRecDepth 100000 in
set_option maxHeartbeats 1000000 in
theorem read_stops (A B : Option Addr) (n m : Nat) (s : List ByteArray) (c : List Wr) (f i : Int) (x : Bool) (w : World) (hr : reachE s.length i x ≠ 0) :
    Calls Tryz.prog 184 #[.agg #[.slice A s.length n, .slice B c.length m, .int .i64 f, .bool x], .int .i64 i] w fun e w' => e = .returned (.tuple #[.string ⟨#[]⟩, .int .i64 (reachE s.length i x)]) ∧ Below w.heap.size w w' := by
  have hre := fun w => reach_any A B s.length n c.length m f i x w
  generalize reachE s.length i x = e at *
  have hne := beq_zero hr
  have hnb : (e != 0) = true := by simp [bne, hne]
  clear hr
  have B3 := Lib.hid ((Box.new3 w (.cells #[.slice A s.length n, .slice B c.length m, .int .i64 f, .bool x] 30) (.cells #[.int .i64 i] 3) [.string ⟨#[]⟩] 9).alloc (.cells #[.int .i64 0] 51))
  have B4 := Lib.hid (Box.new4 w (.cells #[.slice A s.length n, .slice B c.length m, .int .i64 f, .bool x] 30) (.cells #[.int .i64 i] 3) (.cells #[.string ⟨#[]⟩] 9) [.int .i64 0] 51)
  have HB := Lib.hid (ext_alloc (ext_alloc (below2 (w := w) (o := .cells #[.slice A s.length n, .slice B c.length m, .int .i64 f, .bool x] 30) (p := .cells #[.int .i64 i] 3)) (.cells #[.string ⟨#[]⟩] 9)) (.cells #[.int .i64 0] 51))
  go_enter Tryz.func184, Tryz.ntmps184
  go_wp2_with fail
  refine (hre _).mono ?_
  rintro e w1 ⟨rfl, hb1⟩
  have k3 := (B3.out.below hb1).cell
  have z3 := (B3.out.below hb1).frozen
  have k4 := (B4.out.below hb1).cell
  have z4 := (B4.out.below hb1).frozen
  have HB1 := Lib.hid (ext HB.out hb1)
  clear hb1
  go_wp2_with fail
  refine bodyPost_ret (v := .tuple #[.string ⟨#[]⟩, .int .i64 _]) (by simp [results, Tryz.results184, go_sem, k3, k4]) rfl ⟨rfl, ?_⟩
  exact (HB1.out.setCell (p := ⟨w.heap.size + 1 + 1, 0, none⟩) (by show w.heap.size ≤ w.heap.size + 1 + 1; omega) _).setCell (p := ⟨w.heap.size + 1 + 1 + 1, 0, none⟩) (by show w.heap.size ≤ w.heap.size + 1 + 1 + 1; omega) _
set_option maxRecDepth 100000 in
set_option maxHeartbeats 4000000 in
theorem read_any (A B : Option Addr) (n m : Nat) (s : List ByteArray) (c : List Wr) (f : Int) (i : Nat) (t : ByteArray) (w : World) (hm : Mem w A n B m s c) (hi : s[i]? = some t) (hc : c.length ≤ 1000000) :
    Calls Tryz.prog 184 #[.agg #[.slice A s.length n, .slice B c.length m, .int .i64 f, .bool false], .int .i64 i] w fun e w' => e = .returned (.tuple #[.string (holdsL c i t), .int .i64 0]) ∧ Below w.heap.size w w' := by
  have hlt := (List.getElem?_eq_some_iff.1 hi).1
  have hr : reachE s.length i false = 0 := by unfold reachE; rw [if_neg (by simp), if_neg (by omega), if_neg (by omega)]
  have hre := fun w => callsIn_wide (n := 9).2 (reach_any A B s.length n c.length m f i false w)
  rw [hr] at hre
  clear hr
  have HM := Lib.hid hm; clear hm
  have B1 := Lib.hid ((((Box.new w [.slice A s.length n, .slice B c.length m, .int .i64 f, .bool false] 30).alloc (.cells #[.int .i64 i] 3)).alloc (.cells #[.string ⟨#[]⟩] 9)).alloc (.cells #[.int .i64 0] 51))
  have B2 := Lib.hid (((Box.new2 w (.cells #[.slice A s.length n, .slice B c.length m, .int .i64 f, .bool false] 30) [.int .i64 i] 3).alloc (.cells #[.string ⟨#[]⟩] 9)).alloc (.cells #[.int .i64 0] 51))
  have B3 := Lib.hid ((Box.new3 w (.cells #[.slice A s.length n, .slice B c.length m, .int .i64 f, .bool false] 30) (.cells #[.int .i64 i] 3) [.string ⟨#[]⟩] 9).alloc (.cells #[.int .i64 0] 51))
  have B4 := Lib.hid (Box.new4 w (.cells #[.slice A s.length n, .slice B c.length m, .int .i64 f, .bool false] 30) (.cells #[.int .i64 i] 3) (.cells #[.string ⟨#[]⟩] 9) [.int .i64 0] 51)
  have HB := Lib.hid (ext_alloc (ext_alloc (below2 (w := w) (o := .cells #[.slice A s.length n, .slice B c.length m, .int .i64 f, .bool false] 30) (p := .cells #[.int .i64 i] 3)) (.cells #[.string ⟨#[]⟩] 9)) (.cells #[.int .i64 0] 51))
  refine callsIn_wide (n := 10).1 (callsIn_of_wp_marks Tryz.func184 rfl trivial ?_ rfl)
  simp only [Tryz.ntmps184, List.size_toArray, List.length_cons, List.length_nil, Nat.reduceAdd, Nat.reduceSub, Array.replicate_succ, Array.replicate_zero, List.push_toArray, List.append_toArray, List.nil_append, List.cons_append]
  gi_wp2_with first
    | (refine ⟨trivial, ?_⟩; gi_at_call 224; refine (hre _).mono ?_; rintro e w1 ⟨rfl, hb1⟩; have b1 := B1.out.below hb1; have b2 := B2.out.below hb1; have b3 := B3.out.below hb1; have b4 := B4.out.below hb1; have k1 := b1.cell; have HB1 := Lib.hid (ext HB.out hb1); clear hb1)
    | (refine ⟨trivial, ?_⟩; gi_at_call 225; refine (back_in Fence.wide 9 trivial rfl _ _ _ _).mono ?_; rintro e w2 ⟨rfl, rfl⟩)
  have hm1 := HM.out.up (ext_alloc HB1.out (.cells #[.slice B c.length m] 28))
  have b5 := Box.new w1 [.slice B c.length m] 28
  obtain ⟨W0, hW0⟩ : ∃ W0, w1.alloc (.cells #[.slice B c.length m] 28) = W0 := ⟨_, rfl⟩
  have b1 := b1.alloc (.cells #[.slice B c.length m] 28)
  have b2 := b2.alloc (.cells #[.slice B c.length m] 28)
  have b3 := b3.alloc (.cells #[.slice B c.length m] 28)
  have b4 := b4.alloc (.cells #[.slice B c.length m] 28)
  have HB2 := Lib.hid (ext_alloc HB1.out (.cells #[.slice B c.length m] 28))
  rw [hW0] at b1 b2 b3 b4 b5 hm1 HB2 ⊢
  have hsz : w1.heap.size < W0.heap.size := b5.lt
  have hsz2 : W0.heap.size = w1.heap.size + 1 := by rw [← hW0]; simp
  clear hW0 k1
  refine wpIn_rangeFunc_ownH rfl (by omega) (gf := 248) (lb := #[.pointer (some ⟨w1.heap.size, 0, none⟩)]) rfl trivial (enters_of Tryz.func248 (by kernel_rfl) rfl)
    (back_stops Fence.wide 9 trivial rfl (by omega) w1.heap.size W0.heap.size m B c hc W0 hsz hsz (Nat.le_refl _) (b5.cell 0) hm1.ws) belowK_t (belowK_b (Nat.le_refl _)) (Below.refl _ _) (fun _ => rfl)
    (fun pre W => ((∀ p ∈ pre, p.2.1 ≠ (i : Int)) ∧ Box W w.heap.size [.slice A s.length n, .slice B c.length m, .int .i64 f, .bool false] ∧ Box W (w.heap.size + 1) [.int .i64 i] ∧ Box W (w.heap.size + 1 + 1) [.string ⟨#[]⟩] ∧ Box W (w.heap.size + 1 + 1 + 1) [.int .i64 0] ∧ Box W w1.heap.size [.slice B c.length m]) ∧ Below w.heap.size w W)
    (fun j pre W => (j = .ret ∧ ∃ ini last, pre = ini ++ [last] ∧ (∀ p ∈ ini, p.2.1 ≠ (i : Int)) ∧ last.2.1 = (i : Int) ∧ Box W (w.heap.size + 1 + 1) [.string last.2.2] ∧ Box W (w.heap.size + 1 + 1 + 1) [.int .i64 0]) ∧ Below w.heap.size w W)
    (OwnFrom.and (Own.from (fun s A B row hs hg hr => ⟨hs.1, box_kept hs.2.1 hg hr, box_kept hs.2.2.1 hg hr, box_kept hs.2.2.2.1 hg hr, box_kept hs.2.2.2.2.1 hg hr, box_kept hs.2.2.2.2.2 hg hr⟩) _) (ownFrom_below (Nat.le_refl _) HB2.out.size))
    (fun j => OwnFrom.and (Own.from (fun s A B row hs hg hr => by obtain ⟨hc, ini, last, e1, e2, e3, e4, e5⟩ := hs; exact ⟨hc, ini, last, e1, e2, e3, box_kept e4 hg hr, box_kept e5 hg hr⟩) _) (ownFrom_below (Nat.le_refl _) HB2.out.size))
    ⟨⟨by simp, b1, b2, b3, b4, b5⟩, HB2.out⟩
    (fun x a' W => ∃ Bx, Box W Bx [.int .i64 x.2.1, .string x.2.2] ∧ a' = { tmps := #[.agg #[.slice A s.length n, .slice B c.length m, .int .i64 f, .bool false], .int .i64 i, .pointer (some ⟨w.heap.size, 0, none⟩), .pointer (some ⟨w.heap.size + 1, 0, none⟩), .pointer (some ⟨w.heap.size + 1 + 1, 0, none⟩), .pointer (some ⟨w.heap.size + 1 + 1 + 1, 0, none⟩), .int .i64 0, undef, .pointer (some ⟨Bx, 0, none⟩), .agg #[.slice A s.length n, .slice B c.length m, .int .i64 f, .bool false], .int .i64 i, .int .i64 0, .int .i64 0, .bool false, undef, .pointer (some ⟨w.heap.size, 1, none⟩), .slice B c.length m, .func (.func 248) #[] #[.pointer (some ⟨w1.heap.size, 0, none⟩)], .int .i64 (x.1 : Int), .agg #[.int .i64 x.2.1, .string x.2.2], undef, undef, undef, undef, undef, undef, undef, undef, undef, undef, undef], defers := [] })
    (fun x a' => Own.from (fun _ A B row hs hg hr => by obtain ⟨Bx, h2, h3⟩ := hs; exact ⟨Bx, box_kept h2 hg hr, h3⟩) _)
    ?assign ?body ?done ?stop
  case assign =>
    rintro l pre x W K ⟨⟨hp, c1, c2, c3, c4, c5⟩, hB⟩ hK
    gi_wp2
    exact hK _ _ ((KeepsOthers.alloc _ _).from _) ((Below.refl _ W).alloc (by have := c5.lt; omega) _) ⟨⟨hp, c1.alloc _, c2.alloc _, c3.alloc _, c4.alloc _, c5.alloc _⟩, hB.alloc hB.size _⟩
      ⟨W.heap.size, Box.new W [.int .i64 x.2.1, .string x.2.2] 151, rfl⟩
  case body =>
    rintro l pre ⟨x0, q, d⟩ a' W hl _ ⟨⟨hp, c1, c2, c3, c4, c5⟩, hB⟩ ⟨Bx, cx, rfl⟩ hlt
    dsimp only at cx
    have kx := cx.cell
    have k2 := c2.cell
    have k3 := c3.cell
    have z3 := c3.frozen
    have k4 := c4.cell
    have z4 := c4.frozen
    by_cases hq : q = (i : Int)
    · subst hq
      gi_wp2
      refine ⟨((KeepsOthers.setCell _ _ _).trans (KeepsOthers.setCell _ _ _)).from _, ⟨rfl, pre, (x0, (i : Int), d), rfl, hp, rfl, ?_, ?_⟩, ?_⟩
      · exact (c3.set 0 (.string d)).other (p := ⟨w.heap.size + 1 + 1 + 1, 0, none⟩) (by show w.heap.size + 1 + 1 ≠ w.heap.size + 1 + 1 + 1; omega) _
      · exact (c4.other (p := ⟨w.heap.size + 1 + 1, 0, none⟩) (by show w.heap.size + 1 + 1 + 1 ≠ w.heap.size + 1 + 1; omega) _).set 0 (.int .i64 0)
      · exact (hB.setCell (p := ⟨w.heap.size + 1 + 1, 0, none⟩) (by show w.heap.size ≤ w.heap.size + 1 + 1; omega) _).setCell (p := ⟨w.heap.size + 1 + 1 + 1, 0, none⟩) (by show w.heap.size ≤ w.heap.size + 1 + 1 + 1; omega) _
    · have hqb : (q == (i : Int)) = false := beq_eq_false_iff_ne.2 hq
      have hp' : ∀ p ∈ pre ++ [(x0, q, d)], p.2.1 ≠ (i : Int) := by
        intro p h
        rcases List.mem_append.1 h with h | h
        · exact hp p h
        · rw [List.mem_singleton] at h; subst h; exact hq
      have HP := Lib.hid hp'
      clear hp' hq
      gi_wp2
      exact ⟨KeepsFrom.refl _ _, Below.refl _ _, ⟨HP.out, c1, c2, c3, c4, c5⟩, hB⟩
  case done =>
    rintro D ys W hD rfl ⟨⟨hp, c1, c2, c3, c4, c5⟩, hB⟩ hK
    obtain ⟨a1, rfl, hb1, hc1⟩ := (HM.out.up hB).es i t hi
    have k1 := c1.cell
    have k2 := c2.cell
    have k3 := c3.cell
    have z3 := c3.frozen
    have k4 := c4.cell
    have z4 := c4.frozen
    have hi2 : (i : Int) < (s.length : Int) := by omega
    gi_wp2
    have hK' := ((KeepsOthers.setCell W ⟨w.heap.size + 1 + 1, 0, none⟩ (.string t)).trans (KeepsOthers.setCell _ ⟨w.heap.size + 1 + 1 + 1, 0, none⟩ (.int .i64 0))).same D _ hK rfl
    have d3 := (c3.set 0 (.string t)).other (p := ⟨w.heap.size + 1 + 1 + 1, 0, none⟩) (by show w.heap.size + 1 + 1 ≠ w.heap.size + 1 + 1 + 1; omega) (.int .i64 0)
    have d4 := (c4.other (p := ⟨w.heap.size + 1 + 1, 0, none⟩) (by show w.heap.size + 1 + 1 + 1 ≠ w.heap.size + 1 + 1; omega) (.string t)).set 0 (.int .i64 0)
    have hbw := (hB.setCell (p := ⟨w.heap.size + 1 + 1, 0, none⟩) (by show w.heap.size ≤ w.heap.size + 1 + 1; omega) (.string t)).setCell (p := ⟨w.heap.size + 1 + 1 + 1, 0, none⟩) (by show w.heap.size ≤ w.heap.size + 1 + 1 + 1; omega) (.int .i64 0)
    refine ⟨by simp, .inl ⟨_, _, rfl, run_takeDeferred hK', ?_⟩⟩
    have e3 := (box_kept d3 (grownBy_putObj' _ D (.deferred none)) (fun r e => by cases e; exact ⟨_, hK', rfl⟩)).cell
    have e4 := (box_kept d4 (grownBy_putObj' _ D (.deferred none)) (fun r e => by cases e; exact ⟨_, hK', rfl⟩)).cell
    refine ⟨.tuple #[.string t, .int .i64 0], ?_, by rw [holds_none c i t hp], hbw.trans (belowK_b (w := w) (Nat.le_refl _) _ D _ _ (by have := HB2.out.size; omega) hK' rfl rfl)⟩
    simp [results, Tryz.f184, go_sem, e3, e4]
  case stop =>
    rintro D j pre W hD ⟨k, hk, rfl⟩ ⟨⟨rfl, ini, last, e1, e2, e3, c3, c4⟩, hB⟩ hK
    gi_wp2
    refine ⟨by simp, .inl ⟨_, _, rfl, run_takeDeferred hK, ?_⟩⟩
    obtain ⟨k', rfl⟩ : ∃ k', k = k' + 1 := by
      cases k with
      | zero => simp [upto] at e1
      | succ k' => exact ⟨k', rfl⟩
    rw [upto_succ] at e1
    obtain ⟨rfl, e5⟩ := List.append_inj' e1 rfl
    obtain rfl : bwd c k' = last := by simpa using e5
    have hf := holds_found c i t k' (by omega) e2 e3
    have e3 := (box_kept c3 (grownBy_putObj' _ D (.deferred none)) (fun r e => by cases e; exact ⟨_, hK, rfl⟩)).cell
    have e4 := (box_kept c4 (grownBy_putObj' _ D (.deferred none)) (fun r e => by cases e; exact ⟨_, hK, rfl⟩)).cell
    refine ⟨.tuple #[.string (bwd c k').2.2, .int .i64 0], ?_, by rw [hf], hB.trans (belowK_b (w := w) (Nat.le_refl _) W D _ _ (by have := HB2.out.size; omega) hK rfl rfl)⟩
    simp [results, Tryz.f184, go_sem, e3, e4]
end Go.Proofs.YtkjikigimmchlaaGreatDoor
