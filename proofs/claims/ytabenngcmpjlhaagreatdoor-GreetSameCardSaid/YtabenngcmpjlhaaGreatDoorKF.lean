/- Disks: the revival, as both sides do it, for every disk that may be and whatever is kept. No other condition but that the lists lie in memory. -/
import Derived.StillTailTactics
import Derived.BigRegion
import Derived.RegionTactic
import Derived.Lib.AppendZeros
import Derived.RangeFuncNested
import Derived.RangeFuncBound
import Derived.RangeFuncCalls
import Derived.RangeFuncLeaves
import Derived.Shelf.Abstract
import Derived.Shelf.RegionOpen
import Derived.OwnWalkIn
import Derived.TacticsInMore
import Derived.LoopNIn
import Derived.LoopIn
import Derived.Test.YtabenngcmpjlhaaGreatDoorKE
namespace Go.Proofs.YtabenngcmpjlhaaGreatDoor
open Go.RowKit
def GivesO (s : List ByteArray) (c : List Wr) (f : Int) (x : Bool) (w : World) (e : Ending) (w' : World) : Prop :=
  ∃ A B n m, e = .returned (.agg #[.slice A s.length n, .slice B c.length m, .int .i64 f, .bool x]) ∧ Mem w' A n B m s c ∧ Below w.heap.size w w'
theorem ws_one (w : World) (q : Int) (d : ByteArray) : Ws (w.alloc (.cells #[.int .i64 q, .string d] 123)) (w.alloc (.cells #[.int .i64 q, .string d] 123)).heap.size (some ⟨w.heap.size, 0, none⟩) [(q, d)] := by
  intro j x hj
  match j, hj with
  | 0, hj =>
    simp at hj
    subst hj
    refine ⟨_, rfl, by simp, ?_, ?_⟩
    · have : (⟨w.heap.size, 0, none⟩ : Addr).add (0 * 2) = ⟨w.heap.size, 0, none⟩ := by unfold Addr.add; split <;> simp_all
      rw [this, World.cell?_alloc_mark w _ 123 (0, 0)]
      rfl
    · have : (⟨w.heap.size, 0, none⟩ : Addr).add (0 * 2) = ⟨w.heap.size, 0, none⟩ := by unfold Addr.add; split <;> simp_all
      rw [this, World.cell?_alloc_mark w _ 123 (0, 0)]
      rfl
set_option maxRecDepth 100000 in
set_option maxHeartbeats 2000000 in
theorem rrevive_any (A B K : Option Addr) (n m r : Nat) (s : List ByteArray) (c : List Wr) (l : List Bool) (f : Int) (x : Bool) (w : World) (hm : Mem w A n B m s c) (hk : Es Value.bool w w.heap.size K l) (hl : s.length ≤ 64) (hc : c.length ≤ 1000) (_hl2 : l.length ≤ maxLen) (hx : c.any (misfitW s.length) = false) :
    Calls Tryz.prog 30 #[.agg #[.slice A s.length n, .slice B c.length m, .int .i64 f, .bool x], .slice K l.length r] w (GivesO (layL s (keptL c l c.length)) [] 0 false w) := by
  unfold maxLen at _hl2
  have hfit := fits hx
  have HM := Lib.hid hm; clear hm
  have HK := Lib.hid hk; clear hk
  have HF := Lib.hid hfit; clear hfit
  clear hx
  have B1 := Lib.hid ((Box.new w [.slice A s.length n, .slice B c.length m, .int .i64 f, .bool x] 30).alloc (.cells #[.slice none 0 0, .slice none 0 0, .int .i64 0, .bool false] 30))
  have B2 := Lib.hid (Box.new2 w (.cells #[.slice A s.length n, .slice B c.length m, .int .i64 f, .bool x] 30) [.slice none 0 0, .slice none 0 0, .int .i64 0, .bool false] 30)
  have HB := Lib.hid (below2 (w := w) (o := .cells #[.slice A s.length n, .slice B c.length m, .int .i64 f, .bool x] 30) (p := .cells #[.slice none 0 0, .slice none 0 0, .int .i64 0, .bool false] 30))
  go_enter Tryz.func30, Tryz.ntmps30
  go_wp2_with (at_builtin; refine app_strs rfl _ _ rfl _ (w.heap.size + 2) ?c1 (.slice (some ⟨w.heap.size + 1 + 1, 0, none⟩) 0 0) [] rfl ?c2 A n s ?c3 rfl ?c4 ?c5 ?_)
  case c1 => simp
  case c2 => simpa using own_empty ((w.alloc (.cells #[.slice A s.length n, .slice B c.length m, .int .i64 f, .bool x] 30)).alloc (.cells #[.slice none 0 0, .slice none 0 0, .int .i64 0, .bool false] 30)) (w.heap.size + 2) (by simp)
  case c3 => exact HM.out.an
  case c4 => exact HM.out.es.up (ext_alloc HB.out _)
  case c5 => simp; omega
  intro v' w4 hown hgrow
  obtain ⟨A', cap, rfl, _, _⟩ := own_es (s := s) hown
  have hb4 := (Below.refl (w.heap.size + 2) ((w.alloc (.cells #[.slice A s.length n, .slice B c.length m, .int .i64 f, .bool x] 30)).alloc (.cells #[.slice none 0 0, .slice none 0 0, .int .i64 0, .bool false] 30))).alloc (by simp) (.cells #[] 9)
  replace hb4 := hb4.grown hgrow (by simp) (by simp [Value.ownBlock])
  have hsz : ((w.alloc (.cells #[.slice A s.length n, .slice B c.length m, .int .i64 f, .bool x] 30)).alloc (.cells #[.slice none 0 0, .slice none 0 0, .int .i64 0, .bool false] 30)).heap.size = w.heap.size + 2 := by simp
  rw [← hsz] at hb4 hown
  have HO := Lib.hid hown; clear hown
  have HB4 := Lib.hid hb4; clear hb4
  clear hgrow hsz
  have c1 := (B1.out.below HB4.out).cell
  generalize (w.alloc (.cells #[.slice A s.length n, .slice B c.length m, .int .i64 f, .bool x] 30)).alloc (.cells #[.slice none 0 0, .slice none 0 0, .int .i64 0, .bool false] 30) = w2 at *
  have HM2 := Lib.hid (HM.out.up HB.out)
  have HT := Lib.hid (And.intro B1.out.lt B2.out.lt)
  go_wp2
  clear c1
  go_loopw [6] (fun i wr => ∃ k : Nat, k ≤ c.length ∧ i = .int .i64 k ∧ Hid (wr.ownsRow w2.heap.size 9 1 (.slice A' s.length cap) s.length ((layL s (keptL c l k)).map Value.string)) ∧ Hid (Below w2.heap.size w2 wr)) (fun i _ => c.length - (intOf i).toNat)
  case atStart => exact ⟨0, by omega, rfl, HO.out, HB4.out⟩
  case round =>
    obtain ⟨k, hk, rfl, HO, HBr⟩ := hrel
    have c1 := (B1.out.below HBr.out).cell
    by_cases hlt : k < c.length
    · by_cases hlk : k < l.length
      · obtain ⟨a1, rfl, hb1, hc1, hd1⟩ := (HM2.out.up HBr.out).ws k c[k] (List.getElem?_eq_getElem hlt)
        obtain ⟨a2, rfl, hb2, hc2⟩ := (HK.out.up (ext HB.out HBr.out)) k l[k] (List.getElem?_eq_getElem hlk)
        have hg : l.getD k false = l[k] := by rw [List.getD_eq_getElem?_getD, List.getElem?_eq_getElem hlk]; rfl
        cases hv : l[k] with
        | true =>
          rw [hv] at hg hc2
          have hs : layL s (keptL c l (k + 1)) = (layL s (keptL c l k)).set c[k].1.toNat c[k].2 := by rw [kept_yes hlt hg, lay_snoc]
          have hx := HF.out c[k] (List.getElem_mem hlt)
          have hlen := lay_length (keptL c l k) s
          clear hg hv
          generalize layL s (keptL c l k) = u at *
          generalize c[k] = y at *
          obtain ⟨q, d⟩ := y
          dsimp only at *
          obtain ⟨hq0, hq1, _⟩ := hx
          obtain ⟨q, rfl⟩ := Int.eq_ofNat_of_zero_le hq0
          rw [Int.toNat_natCast] at hs
          have HS := Lib.hid hs; clear hs
          obtain ⟨g, rfl, hg⟩ := own_some HO.out (by omega)
          have hcell : wr.cell? ⟨g, q, none⟩ = some (.string (u.getD q ⟨#[]⟩)) := by
            rw [HO.out.cellAt q (by omega), List.getElem?_map, List.getElem?_eq_getElem (by omega), List.getD_eq_getElem?_getD, List.getElem?_eq_getElem (by omega)]; rfl
          have hfz : wr.frozen? ⟨g, q, none⟩ = false := HO.out.frozenAt q
          clear hlen
          go_wp2
          go_still_tail 14, (by kernel_rfl)
          change wpList _ _ _ _ _ wr.drew
          have hnew : (wr.setCell ⟨g, q, none⟩ (.string d)).ownsRow w2.heap.size 9 1 (.slice (some ⟨g, 0, none⟩) s.length cap) s.length ((u.set q d).map Value.string) := own_set HO.out
          have hbl : Below w2.heap.size w2 (wr.setCell ⟨g, q, none⟩ (.string d)) := HBr.out.setCell hg _
          have HN := Lib.hid hnew; clear hnew
          have HL := Lib.hid hbl; clear hbl
          go_wp2
          go_roundw
          case rel => exact ⟨k + 1, by omega, by go_num, by rw [HS.out]; exact HN.out, HL.out.drew⟩
          case measure => simp [intOf]; omega
        | false =>
          rw [hv] at hg hc2
          have hs := kept_no (c := c) hg
          have HS := Lib.hid hs; clear hs
          clear hg hv hc1 hd1
          go_wp2
          go_roundw
          case rel => exact ⟨k + 1, by omega, by go_num, by rw [HS.out]; exact HO.out, HBr.out⟩
          case measure => simp [intOf]; omega
      · have hs := kept_over c l c.length (by omega)
        have hs2 := kept_over c l k (by omega)
        rw [hs2, ← hs] at HO
        have k2 := (B2.out.below HBr.out).cell
        have z2 := (B2.out.below HBr.out).frozen
        clear hs hs2
        generalize hu : layL s (keptL c l c.length) = u at *
        have HUL := Lib.hid (show u.length = s.length by rw [← hu, lay_length])
        clear hu
        go_wp2
        have hown2 := own4 HO.out HT.out.2 (.slice A' s.length cap) (.slice none 0 0) (.int .i64 0) (.bool false)
        have hul := HUL.out
        rw [← hul] at hown2
        obtain ⟨hA2, hes⟩ := own_es2 hown2
        refine bodyPost_ret (v := .agg #[.slice A' u.length cap, .slice none 0 0, .int .i64 0, .bool false]) (by simp [results, Tryz.results30, go_sem, k2, hul]) rfl
          ⟨A', none, cap, 0, rfl, ⟨?_, ws_nil _ _ _, hA2, fun _ => rfl, ?_, ty_none _ _⟩, ?_⟩
        · rw [← hul]; exact hes
        · rw [← hul]; exact own_ty hown2
        · exact below4 (ext HB.out HBr.out) (by omega) _ _ _ _
    · obtain rfl : k = c.length := by omega
      have k2 := (B2.out.below HBr.out).cell
      have z2 := (B2.out.below HBr.out).frozen
      generalize hu : layL s (keptL c l c.length) = u at *
      have HUL := Lib.hid (show u.length = s.length by rw [← hu, lay_length])
      clear hu
      go_wp2
      have hown2 := own4 HO.out HT.out.2 (.slice A' s.length cap) (.slice none 0 0) (.int .i64 0) (.bool false)
      have hul := HUL.out
      rw [← hul] at hown2
      obtain ⟨hA2, hes⟩ := own_es2 hown2
      refine bodyPost_ret (v := .agg #[.slice A' u.length cap, .slice none 0 0, .int .i64 0, .bool false]) (by simp [results, Tryz.results30, go_sem, k2, hul]) rfl
        ⟨A', none, cap, 0, rfl, ⟨?_, ws_nil _ _ _, hA2, fun _ => rfl, ?_, ty_none _ _⟩, ?_⟩
      · rw [← hul]; exact hes
      · rw [← hul]; exact own_ty hown2
      · exact below4 (ext HB.out HBr.out) (by omega) _ _ _ _
end Go.Proofs.YtabenngcmpjlhaaGreatDoor
namespace Go.Proofs.YtabenngcmpjlhaaGreatDoor
open Go.RowKit
set_option maxRecDepth 100000 in
set_option maxHeartbeats 1000000 in
theorem grow_any (n : Nat) (w : World) (h0 : 0 < n) (h1 : n ≤ 1000000) :
    Calls Tryz.prog 246 #[.slice none 0 0, .int .i64 n] w fun e w' => ∃ v, e = .returned v ∧ w'.ownsRow w.heap.size 123 2 v 0 [] ∧ Below w.heap.size w w' := by
  obtain ⟨i0, hi, hz0, hz1, hz2⟩ := info_parts info45
  have hr := fun ty w => Lib.run_append_nil_zeros (P := Tryz.prog) w 28 3 ty 123 i0 (.agg #[.int .i64 0, .string ⟨#[]⟩]) .i64 .i64 Tryz.underlying28 Tryz.underlying3 hi hz0 n h0 (by rw [hz1]; decide) (by omega) (by rw [hz2]; omega)
  go_enter Tryz.func246, Tryz.ntmps246
  go_wp2_with (at_builtin; refine Lib.wpList_append_run _ rfl _ _ 28 3 rfl (.slice none 0 0) (.int .i64 n) rfl rfl _ _ (hr _ _) ?_)
  have hn := grownCap_ge w n 0 123
  have hm := grownCap_le_maxLen w n 0 123 (by unfold maxLen; omega)
  go_ret
  refine ⟨_, rfl, ⟨by simp, .inr ⟨w.heap.size, grownCap w n 0 123, _, rfl, Nat.le_refl _, heap_alloc_new w _, Nat.zero_le _, hm, ?_, by simp⟩⟩, below1.drew⟩
  rw [Array.size_append, size_zeroCells, size_zeroCells]
  show n * 2 + (grownCap w n 0 123 - n) * 2 = grownCap w n 0 123 * 2
  omega
def twoL (l1 l2 : List Wr) : Nat → List Wr
  | 0 => []
  | 1 => l1
  | _ => l1 ++ l2
set_option maxRecDepth 100000 in
set_option maxHeartbeats 2000000 in
theorem concat_any (b : Nat) (A1 A2 : Option Addr) (n1 n2 : Nat) (l1 l2 : List Wr) (w : World) (hb : b < w.heap.size) (hv1 : w.cell? ⟨b, 0, none⟩ = some (.slice A1 l1.length n1)) (hv2 : w.cell? ⟨b, 1, none⟩ = some (.slice A2 l2.length n2))
    (h1 : Ws w w.heap.size A1 l1) (h2 : Ws w w.heap.size A2 l2) (ha1 : A1 = none → n1 = 0) (ha2 : A2 = none → n2 = 0) (hl : l1.length + l2.length ≤ 1000000) (h0 : 0 < l1.length + l2.length) :
    Calls Tryz.prog 233 #[.slice (some ⟨b, 0, none⟩) 2 2] w fun e w' => ∃ v, e = .returned v ∧ w'.ownsRow w.heap.size 123 2 v (l1 ++ l2).length (cellsW (l1 ++ l2)) ∧ Below w.heap.size w w' := by
  have hgr := grow_any (l1.length + l2.length) w h0 hl
  rw [Int.natCast_add] at hgr
  have H1 := Lib.hid h1; clear h1
  have H2 := Lib.hid h2; clear h2
  have HA1 := Lib.hid ha1; clear ha1
  have HA2 := Lib.hid ha2; clear ha2
  have HV1 := Lib.hid hv1
  have HV2 := Lib.hid hv2
  have HGR := Lib.hid hgr; clear hgr
  go_enter Tryz.func233, Tryz.ntmps233
  go_wp2
  go_loop [3, 5, 11] (fun z _ i => ∃ k : Nat, k ≤ 2 ∧ i = .int .i64 k ∧ z = .int .i64 (((twoL l1 l2 k).length : Nat) : Int)) (fun _ _ i => 2 - (intOf i).toNat)
  case atStart => exact ⟨0, by omega, rfl, rfl⟩
  case round =>
    obtain ⟨k, hk, rfl, rfl⟩ := hrel
    match k, hk with
    | 0, _ =>
      simp only [twoL, List.length_nil]
      go_wp2
      go_round
      case rel => exact ⟨1, by omega, rfl, by go_num⟩
      case measure => simp [intOf]
    | 1, _ =>
      simp only [twoL]
      go_wp2
      go_round
      case rel => exact ⟨2, by omega, rfl, by simp⟩
      case measure => simp [intOf]
    | 2, _ =>
      simp only [twoL, List.length_append, Int.natCast_add]
      go_wp2_with fail
      refine HGR.out.mono ?_
      rintro e w1 ⟨v, rfl, hown, hb1⟩
      have HO := Lib.hid hown; clear hown
      have HB := Lib.hid hb1; clear hb1
      clear hv1 hv2
      go_wp2
      go_loopw [6, 8, 27] (fun v _ i wr => ∃ k : Nat, k ≤ 2 ∧ i = .int .i64 k ∧ Hid (wr.ownsRow w.heap.size 123 2 v (twoL l1 l2 k).length (cellsW (twoL l1 l2 k))) ∧ Hid (Below w.heap.size w wr)) (fun _ _ i _ => 2 - (intOf i).toNat)
      case atStart => exact ⟨0, by omega, rfl, HO.out, HB.out⟩
      case round =>
        obtain ⟨k, hk, rfl, HO1, HB1⟩ := hrel
        have hv1 := (HB1.out.cell (p := ⟨b, 0, none⟩) hb).trans HV1.out
        have hv2 := (HB1.out.cell (p := ⟨b, 1, none⟩) hb).trans HV2.out
        match k, hk with
        | 0, _ =>
          go_wp2_with (at_builtin; refine app_wrs rfl _ _ rfl _ w.heap.size ?c1 _ [] rfl ?c2 A1 n1 l1 ?c3 rfl ?c4 ?c5 ?_)
          case c1 => exact HB1.out.size
          case c2 => exact HO1.out
          case c3 => exact HA1.out
          case c4 => exact H1.out.up HB1.out
          case c5 => simp; omega
          intro v' w4 hown hgrow
          have hb4 := HB1.out.grown hgrow HB1.out.size (own_low HO1.out)
          have HO' := Lib.hid hown; clear hown
          have HB' := Lib.hid hb4; clear hb4
          clear hgrow
          go_wp2
          go_roundw
          case rel => exact ⟨1, by omega, rfl, HO'.out, HB'.out⟩
          case measure => simp [intOf]
        | 1, _ =>
          go_wp2_with (at_builtin; refine app_wrs rfl _ _ rfl _ w.heap.size ?c1 _ l1 rfl ?c2 A2 n2 l2 ?c3 rfl ?c4 ?c5 ?_)
          case c1 => exact HB1.out.size
          case c2 => exact HO1.out
          case c3 => exact HA2.out
          case c4 => exact H2.out.up HB1.out
          case c5 => omega
          intro v' w4 hown hgrow
          have hb4 := HB1.out.grown hgrow HB1.out.size (own_low HO1.out)
          replace hown : w4.ownsRow w.heap.size 123 2 v' (l1 ++ l2).length (cellsW (l1 ++ l2)) := by simpa using hown
          have HO' := Lib.hid hown; clear hown
          have HB' := Lib.hid hb4; clear hb4
          clear hgrow
          go_wp2
          go_roundw
          case rel => exact ⟨2, by omega, rfl, HO'.out, HB'.out⟩
          case measure => simp [intOf]
        | 2, _ =>
          go_wp2
          go_ret
          exact ⟨_, rfl, HO1.out, HB1.out⟩
end Go.Proofs.YtabenngcmpjlhaaGreatDoor
namespace Go.Proofs.YtabenngcmpjlhaaGreatDoor
open Go.RowKit
theorem gives_same {A B : Option Addr} {n m : Nat} {s : List ByteArray} {c : List Wr} {f : Int} {x : Bool} {r : Int} {w w' : World} (h : Mem w A n B m s c) (hb : Below w.heap.size w w') :
    GivesD s c f x r w (.returned (.tuple #[.agg #[.slice A s.length n, .slice B c.length m, .int .i64 f, .bool x], .int .i64 r])) w' := ⟨A, B, n, m, rfl, h.up hb, hb⟩
theorem beq_zero {e : Int} (h : e ≠ 0) : (e == 0) = false := beq_eq_false_iff_ne.2 h
set_option maxRecDepth 100000 in
set_option maxHeartbeats 1000000 in
theorem write_stops (A B : Option Addr) (n m : Nat) (s : List ByteArray) (c : List Wr) (f i : Int) (x : Bool) (d : ByteArray) (w : World) (hm : Mem w A n B m s c) (hr : reachE s.length i x ≠ 0) :
    Calls Tryz.prog 192 #[.agg #[.slice A s.length n, .slice B c.length m, .int .i64 f, .bool x], .int .i64 i, .string d] w (GivesD s c f x (reachE s.length i x) w) := by
  have hre := fun w => reach_any A B s.length n c.length m f i x w
  have HM := Lib.hid hm; clear hm
  generalize reachE s.length i x = e at *
  have hne := beq_zero hr
  have hnb : (e != 0) = true := by simp [bne, hne]
  clear hr
  have B1 := Lib.hid ((Box.new w [.slice A s.length n, .slice B c.length m, .int .i64 f, .bool x] 30).alloc (.cells #[.slice none 0 0, .slice none 0 0, .int .i64 0, .bool false] 30))
  have B2 := Lib.hid (Box.new2 w (.cells #[.slice A s.length n, .slice B c.length m, .int .i64 f, .bool x] 30) [.slice none 0 0, .slice none 0 0, .int .i64 0, .bool false] 30)
  go_enter Tryz.func192, Tryz.ntmps192
  go_wp2_with fail
  refine (hre _).mono ?_
  rintro e w1 ⟨rfl, hb1⟩
  have k1 := (B1.out.below hb1).cell
  have k2 := (B2.out.below hb1).cell
  have z2 := (B2.out.below hb1).frozen
  have HB := Lib.hid (ext below2 hb1)
  clear hre hb1 B1 B2
  go_wp2_with fail
  refine bodyPost_ret (v := .tuple #[.agg #[.slice A s.length n, .slice B c.length m, .int .i64 f, .bool x], .int .i64 _]) (by simp [results, Tryz.results192, go_sem, k2]) rfl (gives_same HM.out (below4 HB.out (by omega) _ _ _ _))
set_option maxRecDepth 100000 in
set_option maxHeartbeats 1000000 in
theorem write_dies (A B : Option Addr) (n m : Nat) (s : List ByteArray) (c : List Wr) (f i : Int) (x : Bool) (d : ByteArray) (w : World) (hm : Mem w A n B m s c) (hr : reachE s.length i x = 0) (hd : ¬ 64 < (d.size : Int)) (hf : f < 9223372036854775808) (hf1 : burnD f x = true) :
    Calls Tryz.prog 192 #[.agg #[.slice A s.length n, .slice B c.length m, .int .i64 f, .bool x], .int .i64 i, .string d] w (GivesD s c (burnF f) true 6 w) := by
  have hre := fun w => reach_any A B s.length n c.length m f i x w
  rw [hr] at hre
  have htl := fun w => tooLong_any d w
  rw [decide_eq_false hd] at htl
  have hbu := fun w => burn_any A B s.length n c.length m f x w hf
  rw [hf1] at hbu
  generalize burnF f = f' at *
  have HM := Lib.hid hm; clear hm
  clear hr hd hf1
  have B1 := Lib.hid ((Box.new w [.slice A s.length n, .slice B c.length m, .int .i64 f, .bool x] 30).alloc (.cells #[.slice none 0 0, .slice none 0 0, .int .i64 0, .bool false] 30))
  have B2 := Lib.hid (Box.new2 w (.cells #[.slice A s.length n, .slice B c.length m, .int .i64 f, .bool x] 30) [.slice none 0 0, .slice none 0 0, .int .i64 0, .bool false] 30)
  go_enter Tryz.func192, Tryz.ntmps192
  go_wp2_with fail
  refine (hre _).mono ?_
  rintro e w1 ⟨rfl, hb1⟩
  have k1 := (B1.out.below hb1).cell
  have HB := Lib.hid (ext below2 hb1)
  clear hre
  go_wp2_with fail
  refine (htl _).mono ?_
  rintro e w2 ⟨rfl, rfl⟩
  go_wp2_with fail
  refine (hbu _).mono ?_
  rintro e w2 ⟨rfl, hb2⟩
  clear k1
  have k1 := ((B1.out.below hb1).below hb2).cell
  have z1 := ((B1.out.below hb1).below hb2).frozen
  have k2 := ((B2.out.below hb1).below hb2).cell
  have z2 := ((B2.out.below hb1).below hb2).frozen
  have HB2 := Lib.hid (ext HB.out hb2)
  clear hb1 hb2 B1 B2 HB
  go_wp2_with fail
  refine bodyPost_ret (v := .tuple #[.agg #[.slice A s.length n, .slice B c.length m, .int .i64 f', .bool true], .int .i64 6]) (by simp [results, Tryz.results192, go_sem, k2]) rfl (gives_same HM.out (below4 (below4 HB2.out (by omega) _ _ _ _) (by omega) _ _ _ _))
set_option maxRecDepth 100000 in
set_option maxHeartbeats 2000000 in
theorem write_any (A B : Option Addr) (n m : Nat) (s : List ByteArray) (c : List Wr) (f i : Int) (x : Bool) (d : ByteArray) (w : World) (hm : Mem w A n B m s c) (hr : reachE s.length i x = 0) (hd : ¬ 64 < (d.size : Int)) (hf : f < 9223372036854775808) (hf1 : burnD f x = false) (hc : c.length ≤ 1000) :
    Calls Tryz.prog 192 #[.agg #[.slice A s.length n, .slice B c.length m, .int .i64 f, .bool x], .int .i64 i, .string d] w (GivesD s (c ++ [(i, d)]) (burnF f) false 0 w) := by
  have hre := fun w => reach_any A B s.length n c.length m f i x w
  rw [hr] at hre
  have htl := fun w => tooLong_any d w
  rw [decide_eq_false hd] at htl
  have hbu := fun w => burn_any A B s.length n c.length m f x w hf
  rw [hf1] at hbu
  generalize burnF f = f' at *
  have HM := Lib.hid hm; clear hm
  clear hr hd hf1
  have B1 := Lib.hid ((Box.new w [.slice A s.length n, .slice B c.length m, .int .i64 f, .bool x] 30).alloc (.cells #[.slice none 0 0, .slice none 0 0, .int .i64 0, .bool false] 30))
  have B2 := Lib.hid (Box.new2 w (.cells #[.slice A s.length n, .slice B c.length m, .int .i64 f, .bool x] 30) [.slice none 0 0, .slice none 0 0, .int .i64 0, .bool false] 30)
  go_enter Tryz.func192, Tryz.ntmps192
  go_wp2_with fail
  refine (hre _).mono ?_
  rintro e w1 ⟨rfl, hb1⟩
  have k1 := (B1.out.below hb1).cell
  have HB := Lib.hid (ext below2 hb1)
  clear hre
  go_wp2_with fail
  refine (htl _).mono ?_
  rintro e w2 ⟨rfl, rfl⟩
  go_wp2_with fail
  refine (hbu _).mono ?_
  rintro e w2 ⟨rfl, hb2⟩
  clear k1
  have b1 := (B1.out.below hb1).below hb2
  have b2 := (B2.out.below hb1).below hb2
  have k1 := b1.cell
  have z1 := b1.frozen
  have b1' := b1.four (.slice A s.length n) (.slice B c.length m) (.int .i64 f') (.bool false)
  have b2' := b2.past4 (b := w.heap.size) (by simp) (.slice A s.length n) (.slice B c.length m) (.int .i64 f') (.bool false)
  have hbw := below4 (ext HB.out hb2) (Nat.le_refl _) (.slice A s.length n) (.slice B c.length m) (.int .i64 f') (.bool false)
  have B3 := Lib.hid b1'
  have B4 := Lib.hid b2'
  have HB2 := Lib.hid hbw
  clear b1 b2 b1' b2' hbw hb1 hb2 B1 B2 HB hbu
  go_wp2_with fail
  generalize hW : (((w2.setCell ⟨w.heap.size, 0, none⟩ (.slice A s.length n)).setCell ⟨w.heap.size, 1, none⟩ (.slice B c.length m)).setCell ⟨w.heap.size, 2, none⟩ (.int .i64 f')).setCell ⟨w.heap.size, 3, none⟩ (.bool false) = w3 at *
  have hsz : w2.heap.size = w3.heap.size := by rw [← hW]; simp
  simp only [hsz]
  clear hW k1 z1
  have hm3 := HM.out.up HB2.out
  have hcon := concat_any (w3.heap.size + 1) B (some ⟨w3.heap.size, 0, none⟩) m 1 c [(i, d)] ((w3.alloc (.cells #[.int .i64 i, .string d] 123)).alloc (.cells #[.slice B c.length m, .slice (some ⟨w3.heap.size, 0, none⟩) 1 1] 28))
    (by simp) (by simp) (by simp) (hm3.ws.up below2) ((ws_one w3 i d).up below1) hm3.bn (fun q => by cases q) (by simp; omega) (by simp)
  have HCON := Lib.hid hcon
  clear hm3 hcon
  refine HCON.out.mono ?_
  rintro e w4 ⟨v, rfl, hown, hb4⟩
  obtain ⟨B', cap, rfl, _, _⟩ := own_ws hown
  have l1 := B3.out.lt
  have l2 := B4.out.lt
  have b1 := (B3.out.below below2).below hb4
  have b2 := (B4.out.below below2).below hb4
  have k1 := b1.cell
  have z1 := b1.frozen
  have k2 := b2.cell
  have z2 := b2.frozen
  have HO := Lib.hid hown
  have HB4 := Lib.hid (ext (ext HB2.out below2) hb4)
  have HT := Lib.hid (And.intro l1 l2)
  clear l1 l2 hown hb4 b1 b2 B3 B4 HCON
  generalize hk : c ++ [(i, d)] = k at *
  go_wp2_with fail
  have hown2 := own4 (ownsRow_setCell_below HO.out (a := ⟨w.heap.size, 1, none⟩) (by have := HT.out; simp; omega) (.slice B' k.length cap)) (b := w.heap.size + 1) (by have := HT.out; simp; omega) (.slice A s.length n) (.slice B' k.length cap) (.int .i64 f') (.bool false)
  obtain ⟨hB2, hws⟩ := own_ws2 hown2
  have hbel := below4 (HB4.out.setCell (p := ⟨w.heap.size, 1, none⟩) (Nat.le_refl _) (.slice B' k.length cap)) (b := w.heap.size + 1) (by omega) (.slice A s.length n) (.slice B' k.length cap) (.int .i64 f') (.bool false)
  exact bodyPost_ret (v := .tuple #[.agg #[.slice A s.length n, .slice B' k.length cap, .int .i64 f', .bool false], .int .i64 0]) (by simp [results, Tryz.results192, go_sem, k2]) rfl
    ⟨A, B', n, cap, rfl, ⟨HM.out.es.up hbel, hws, HM.out.an, hB2, HM.out.ta.up hbel, own_ty hown2⟩, hbel⟩
end Go.Proofs.YtabenngcmpjlhaaGreatDoor
namespace Go.Proofs.YtabenngcmpjlhaaGreatDoor
open Go.RowKit
set_option maxRecDepth 100000 in
set_option maxHeartbeats 1000000 in
theorem rwrite_stops (A B : Option Addr) (n m : Nat) (s : List ByteArray) (c : List Wr) (f i : Int) (x : Bool) (d : ByteArray) (w : World) (hm : Mem w A n B m s c) (hr : reachE s.length i x ≠ 0) :
    Calls Tryz.prog 201 #[.agg #[.slice A s.length n, .slice B c.length m, .int .i64 f, .bool x], .int .i64 i, .string d] w (GivesD s c f x (reachE s.length i x) w) := by
  have HM := Lib.hid hm; clear hm
  have k2 := (Box.new2 w (.cells #[.slice A s.length n, .slice B c.length m, .int .i64 f, .bool x] 30) [.slice A s.length n, .slice B c.length m, .int .i64 f, .bool x] 30).cell
  cases x with
  | true =>
    have e : reachE s.length i true = 6 := rfl
    rw [e]
    clear hr e
    go_enter Tryz.func201, Tryz.ntmps201
    go_wp2
    exact bodyPost_ret (v := .tuple #[.agg #[.slice A s.length n, .slice B c.length m, .int .i64 f, .bool true], .int .i64 6]) (by simp [results, Tryz.results201, go_sem]) rfl (gives_same HM.out below2)
  | false =>
    by_cases h0 : i < 0
    · have e : reachE s.length i false = 4 := by unfold reachE; rw [if_neg (by simp), if_pos h0]
      rw [e]
      clear hr e
      go_enter Tryz.func201, Tryz.ntmps201
      go_wp2
      exact bodyPost_ret (v := .tuple #[.agg #[.slice A s.length n, .slice B c.length m, .int .i64 f, .bool false], .int .i64 4]) (by simp [results, Tryz.results201, go_sem]) rfl (gives_same HM.out below2)
    · by_cases h1 : (s.length : Int) ≤ i
      · have e : reachE s.length i false = 4 := by unfold reachE; rw [if_neg (by simp), if_neg h0, if_pos h1]
        rw [e]
        clear hr e
        go_enter Tryz.func201, Tryz.ntmps201
        go_wp2
        exact bodyPost_ret (v := .tuple #[.agg #[.slice A s.length n, .slice B c.length m, .int .i64 f, .bool false], .int .i64 4]) (by simp [results, Tryz.results201, go_sem]) rfl (gives_same HM.out below2)
      · exact absurd (by unfold reachE; rw [if_neg (by simp), if_neg h0, if_neg h1]) hr
theorem reach_zero {n : Nat} {i : Int} {x : Bool} (h : reachE n i x = 0) : x = false ∧ 0 ≤ i ∧ i < n := by
  unfold reachE at h
  cases x with
  | true => rw [if_pos rfl] at h; omega
  | false =>
    rw [if_neg (by simp)] at h
    split at h
    · omega
    · split at h
      · omega
      · exact ⟨rfl, by omega, by omega⟩
set_option maxRecDepth 100000 in
set_option maxHeartbeats 1000000 in
theorem rwrite_dies (A B : Option Addr) (n m : Nat) (s : List ByteArray) (c : List Wr) (f i : Int) (x : Bool) (d : ByteArray) (w : World) (hm : Mem w A n B m s c) (hr : reachE s.length i x = 0) (hd : ¬ 64 < (d.size : Int)) (hf : f < 9223372036854775808) (hf1 : burnD f x = true) :
    Calls Tryz.prog 201 #[.agg #[.slice A s.length n, .slice B c.length m, .int .i64 f, .bool x], .int .i64 i, .string d] w (GivesD s c (burnF f) true 6 w) := by
  obtain ⟨rfl, h0, h1⟩ := reach_zero hr
  have hbu := fun w => rburn_any A B s.length n c.length m f false w hf
  rw [hf1] at hbu
  generalize burnF f = f' at *
  have HM := Lib.hid hm; clear hm
  clear hr hf1
  have B1 := Lib.hid ((Box.new w [.slice A s.length n, .slice B c.length m, .int .i64 f, .bool false] 30).alloc (.cells #[.slice none 0 0, .slice none 0 0, .int .i64 0, .bool false] 30))
  have B2 := Lib.hid (Box.new2 w (.cells #[.slice A s.length n, .slice B c.length m, .int .i64 f, .bool false] 30) [.slice none 0 0, .slice none 0 0, .int .i64 0, .bool false] 30)
  go_enter Tryz.func201, Tryz.ntmps201
  go_wp2_with fail
  refine (hbu _).mono ?_
  rintro e w2 ⟨rfl, hb2⟩
  have k1 := (B1.out.below hb2).cell
  have z1 := (B1.out.below hb2).frozen
  have k2 := (B2.out.below hb2).cell
  have z2 := (B2.out.below hb2).frozen
  have HB2 := Lib.hid (ext below2 hb2)
  clear hb2 B1 B2
  go_wp2_with fail
  exact bodyPost_ret (v := .tuple #[.agg #[.slice A s.length n, .slice B c.length m, .int .i64 f', .bool true], .int .i64 6]) (by simp [results, Tryz.results201, go_sem, k2]) rfl (gives_same HM.out (below4 (below4 HB2.out (by omega) _ _ _ _) (by omega) _ _ _ _))
set_option maxRecDepth 100000 in
set_option maxHeartbeats 2000000 in
theorem rwrite_any (A B : Option Addr) (n m : Nat) (s : List ByteArray) (c : List Wr) (f i : Int) (x : Bool) (d : ByteArray) (w : World) (hm : Mem w A n B m s c) (hr : reachE s.length i x = 0) (hd : ¬ 64 < (d.size : Int)) (hf : f < 9223372036854775808) (hf1 : burnD f x = false) (hc : c.length ≤ 1000) :
    Calls Tryz.prog 201 #[.agg #[.slice A s.length n, .slice B c.length m, .int .i64 f, .bool x], .int .i64 i, .string d] w (GivesD s (c ++ [(i, d)]) (burnF f) false 0 w) := by
  obtain ⟨rfl, h0, h1⟩ := reach_zero hr
  have hbu := fun w => rburn_any A B s.length n c.length m f false w hf
  rw [hf1] at hbu
  generalize burnF f = f' at *
  have HM := Lib.hid hm; clear hm
  clear hr hf1
  have B1 := Lib.hid ((Box.new w [.slice A s.length n, .slice B c.length m, .int .i64 f, .bool false] 30).alloc (.cells #[.slice none 0 0, .slice none 0 0, .int .i64 0, .bool false] 30))
  have B2 := Lib.hid (Box.new2 w (.cells #[.slice A s.length n, .slice B c.length m, .int .i64 f, .bool false] 30) [.slice none 0 0, .slice none 0 0, .int .i64 0, .bool false] 30)
  go_enter Tryz.func201, Tryz.ntmps201
  go_wp2_with fail
  refine (hbu _).mono ?_
  rintro e w2 ⟨rfl, hb2⟩
  have b1 := B1.out.below hb2
  have b2 := B2.out.below hb2
  have k1 := b1.cell
  have z1 := b1.frozen
  have b1' := b1.four (.slice A s.length n) (.slice B c.length m) (.int .i64 f') (.bool false)
  have b2' := b2.past4 (b := w.heap.size) (by simp) (.slice A s.length n) (.slice B c.length m) (.int .i64 f') (.bool false)
  have hbw := below4 (ext below2 hb2) (Nat.le_refl _) (.slice A s.length n) (.slice B c.length m) (.int .i64 f') (.bool false)
  have B3 := Lib.hid b1'
  have B4 := Lib.hid b2'
  have HB2 := Lib.hid hbw
  clear b1 b2 b1' b2' hbw hb2 B1 B2 hbu
  obtain ⟨w3, hW⟩ : ∃ w3, (((w2.setCell ⟨w.heap.size, 0, none⟩ (.slice A s.length n)).setCell ⟨w.heap.size, 1, none⟩ (.slice B c.length m)).setCell ⟨w.heap.size, 2, none⟩ (.int .i64 f')).setCell ⟨w.heap.size, 3, none⟩ (.bool false) = w3 := ⟨_, rfl⟩
  rw [hW] at B3 B4 HB2
  have hsz : w2.heap.size = w3.heap.size := by rw [← hW]; simp
  have k3 := B3.out.cell
  have k5 := fun o j => (B3.out.alloc o).cell j
  go_wp2_with (at_builtin; refine app_wrs rfl _ _ rfl _ w3.heap.size ?c1 (.slice (some ⟨w3.heap.size, 0, none⟩) 0 0) [] rfl ?c2 B m c ?c3 rfl ?c4 ?c5 ?_)
  case c1 => simp
  case c2 => exact own_empty w3 _ (Nat.le_refl _)
  case c3 => exact HM.out.bn
  case c4 => exact HM.out.ws.up (ext_alloc HB2.out _)
  case c5 => simp; omega
  intro v1 w4 hown1 hgrow1
  have hb4 := (ext_alloc (Below.refl w3.heap.size w3) (.cells #[] 123)).grown hgrow1 (by simp) (by simp [Value.ownBlock])
  replace hown1 : w4.ownsRow w3.heap.size 123 2 v1 c.length (cellsW c) := by simpa using hown1
  have HO1 := Lib.hid hown1; clear hown1
  have HB4 := Lib.hid hb4; clear hb4
  clear hgrow1 hW k1 z1 k3 k5 hsz
  go_wp2_with (at_builtin; refine app_wrs rfl _ _ rfl _ w3.heap.size ?d1 _ c rfl ?d2 (some ⟨w4.heap.size, 0, none⟩) 1 [(i, d)] ?d3 rfl ?d4 ?d5 ?_)
  case d1 => have := HB4.out.size; simp; omega
  case d2 => exact HO1.out.alloc _
  case d3 => intro q; cases q
  case d4 => exact ws_one w4 i d
  case d5 => simp; omega
  intro v2 w5 hown2 hgrow2
  have hb5 := (ext_alloc HB4.out (.cells #[.int .i64 i, .string d] 123)).grown hgrow2 (by have := HB4.out.size; simp; omega) (own_low HO1.out)
  replace hown2 : w5.ownsRow w3.heap.size 123 2 v2 (c ++ [(i, d)]).length (cellsW (c ++ [(i, d)])) := by simpa using hown2
  obtain ⟨B', cap, rfl, _, _⟩ := own_ws hown2
  have l1 := B3.out.lt
  have l2 := B4.out.lt
  have b1 := B3.out.below hb5
  have b2 := B4.out.below hb5
  have k1 := b1.cell
  have z1 := b1.frozen
  have k2 := b2.cell
  have z2 := b2.frozen
  have HO := Lib.hid hown2
  have HB5 := Lib.hid (ext HB2.out hb5)
  have HT := Lib.hid (And.intro l1 l2)
  clear l1 l2 hown2 hb5 b1 b2 B3 B4 hgrow2 HO1 HB4
  generalize hk : c ++ [(i, d)] = k at *
  go_wp2_with fail
  have hown2 := own4 (ownsRow_setCell_below HO.out (a := ⟨w.heap.size, 1, none⟩) HT.out.1 (.slice B' k.length cap)) HT.out.2 (.slice A s.length n) (.slice B' k.length cap) (.int .i64 f') (.bool false)
  obtain ⟨hB2, hws⟩ := own_ws2 hown2
  have hbel := below4 (HB5.out.setCell (p := ⟨w.heap.size, 1, none⟩) (Nat.le_refl _) (.slice B' k.length cap)) (b := w.heap.size + 1) (by omega) (.slice A s.length n) (.slice B' k.length cap) (.int .i64 f') (.bool false)
  exact bodyPost_ret (v := .tuple #[.agg #[.slice A s.length n, .slice B' k.length cap, .int .i64 f', .bool false], .int .i64 0]) (by simp [results, Tryz.results201, go_sem, k2]) rfl
    ⟨A, B', n, cap, rfl, ⟨HM.out.es.up hbel, hws, HM.out.an, hB2, HM.out.ta.up hbel, own_ty hown2⟩, hbel⟩
end Go.Proofs.YtabenngcmpjlhaaGreatDoor
namespace Go.Proofs.YtabenngcmpjlhaaGreatDoor
open Go.RowKit Go.Shelf
attribute [local go_sem] Oper.semAt_some
set_option maxRecDepth 100000 in
set_option maxHeartbeats 1000000 in
theorem rread_stops (A B : Option Addr) (n m : Nat) (s : List ByteArray) (c : List Wr) (f i : Int) (x : Bool) (w : World) (hr : reachE s.length i x ≠ 0) :
    Calls Tryz.prog 113 #[.agg #[.slice A s.length n, .slice B c.length m, .int .i64 f, .bool x], .int .i64 i] w fun e w' => e = .returned (.tuple #[.string ⟨#[]⟩, .int .i64 (reachE s.length i x)]) ∧ Below w.heap.size w w' := by
  cases x with
  | true =>
    have e : reachE s.length i true = 6 := rfl
    rw [e]
    clear hr e
    go_enter Tryz.func113, Tryz.ntmps113
    go_wp2
    go_ret2
    exact ⟨rfl, below1⟩
  | false =>
    by_cases h0 : i < 0
    · have e : reachE s.length i false = 4 := by unfold reachE; rw [if_neg (by simp), if_pos h0]
      rw [e]
      clear hr e
      go_enter Tryz.func113, Tryz.ntmps113
      go_wp2
      go_ret2
      exact ⟨rfl, below1⟩
    · by_cases h1 : (s.length : Int) ≤ i
      · have e : reachE s.length i false = 4 := by unfold reachE; rw [if_neg (by simp), if_neg h0, if_pos h1]
        rw [e]
        clear hr e
        go_enter Tryz.func113, Tryz.ntmps113
        go_wp2
        go_ret2
        exact ⟨rfl, below1⟩
      · exact absurd (by unfold reachE; rw [if_neg (by simp), if_neg h0, if_neg h1]) hr
set_option maxRecDepth 100000 in
set_option maxHeartbeats 1000000 in
theorem rread_any (A B : Option Addr) (n m : Nat) (s : List ByteArray) (c : List Wr) (f : Int) (i : Nat) (t : ByteArray) (w : World) (hm : Mem w A n B m s c) (hi : s[i]? = some t) (hc : c.length ≤ maxLen) :
    Calls Tryz.prog 113 #[.agg #[.slice A s.length n, .slice B c.length m, .int .i64 f, .bool false], .int .i64 i] w fun e w' => e = .returned (.tuple #[.string (holdsL c i t), .int .i64 0]) ∧ Below w.heap.size w w' := by
  have hh := fun w hm => holds_any A B n m s c f false i t w hm hi hc
  have hlt := (List.getElem?_eq_some_iff.1 hi).1
  have h0 : ¬ (i : Int) < 0 := by omega
  have h1 : (i : Int) < (s.length : Int) := by omega
  have HM := Lib.hid hm; clear hm
  clear hi hlt hc
  generalize holdsL c i t = u at *
  go_enter Tryz.func113, Tryz.ntmps113
  go_wp2_with fail
  refine (hh _ (HM.out.up below1)).mono ?_
  rintro e w1 ⟨rfl, hb1⟩
  have HB := Lib.hid hb1; clear hb1
  go_wp2_with fail
  go_ret2
  exact ⟨rfl, ext below1 HB.out⟩
end Go.Proofs.YtabenngcmpjlhaaGreatDoor
