/- Disks: the revival, as both sides do it, for every disk that may be and whatever is kept. No other condition but that the lists lie in memory. -/
import Derived.Test.YtlgfinomkpingaaD9
import Derived.StillTailTactics
import Derived.BigRegion
import Derived.RegionTactic
namespace Go.Proofs.Ytlgfinomkpingaa
open Go.RowKit

/-- It hands back a disk, and leaves what was there as it was. -/
def GivesO (s : List ByteArray) (c : List Wr) (f : Int) (x : Bool) (w : World) (e : Ending) (w' : World) : Prop :=
  ∃ A B n m, e = .returned (.agg #[.slice A s.length n, .slice B c.length m, .int .i64 f, .bool x]) ∧ Mem w' A n B m s c ∧ Below w.heap.size w w'

theorem ws_one (w : World) (q : Int) (d : ByteArray) : Ws (w.alloc (.cells #[.int .i64 q, .string d] 43)) (w.alloc (.cells #[.int .i64 q, .string d] 43)).heap.size (some ⟨w.heap.size, 0, none⟩) [(q, d)] := by
  intro j x hj
  match j, hj with
  | 0, hj =>
    simp at hj
    subst hj
    refine ⟨_, rfl, by simp, ?_, ?_⟩
    · have : (⟨w.heap.size, 0, none⟩ : Addr).add (0 * 2) = ⟨w.heap.size, 0, none⟩ := by unfold Addr.add; split <;> simp_all
      rw [this, World.cell?_alloc_mark w _ 43 (0, 0)]
      rfl
    · have : (⟨w.heap.size, 0, none⟩ : Addr).add (0 * 2) = ⟨w.heap.size, 0, none⟩ := by unfold Addr.add; split <;> simp_all
      rw [this, World.cell?_alloc_mark w _ 43 (0, 0)]
      rfl

set_option maxRecDepth 100000 in
set_option maxHeartbeats 2000000 in
theorem rrevive_any (A B K : Option Addr) (n m r : Nat) (s : List ByteArray) (c : List Wr) (l : List Bool) (f : Int) (x : Bool) (w : World) (hm : Mem w A n B m s c) (hk : Es Value.bool w w.heap.size K l) (hl : s.length ≤ 64) (hc : c.length ≤ 1000) (_hl2 : l.length ≤ maxLen) (hx : c.any (misfitW s.length) = false) :
    Calls Try.prog 20 #[.agg #[.slice A s.length n, .slice B c.length m, .int .i64 f, .bool x], .slice K l.length r] w (GivesO (layL s (keptL c l c.length)) [] 0 false w) := by
  unfold maxLen at _hl2
  have hfit := fits hx
  have HM := Lib.hid hm; clear hm
  have HK := Lib.hid hk; clear hk
  have HF := Lib.hid hfit; clear hfit
  clear hx
  have B1 := Lib.hid ((Box.new w [.slice A s.length n, .slice B c.length m, .int .i64 f, .bool x] 25).alloc (.cells #[.slice none 0 0, .slice none 0 0, .int .i64 0, .bool false] 25))
  have B2 := Lib.hid (Box.new2 w (.cells #[.slice A s.length n, .slice B c.length m, .int .i64 f, .bool x] 25) [.slice none 0 0, .slice none 0 0, .int .i64 0, .bool false] 25)
  have HB := Lib.hid (below2 (w := w) (o := .cells #[.slice A s.length n, .slice B c.length m, .int .i64 f, .bool x] 25) (p := .cells #[.slice none 0 0, .slice none 0 0, .int .i64 0, .bool false] 25))
  go_enter Try.func20, Try.ntmps20
  go_wp2_with (at_builtin; refine app_strs rfl _ _ rfl _ (w.heap.size + 2) ?c1 (.slice (some ⟨w.heap.size + 1 + 1, 0, none⟩) 0 0) [] rfl ?c2 A n s ?c3 rfl ?c4 ?c5 ?_)
  case c1 => simp
  case c2 => simpa using own_empty ((w.alloc (.cells #[.slice A s.length n, .slice B c.length m, .int .i64 f, .bool x] 25)).alloc (.cells #[.slice none 0 0, .slice none 0 0, .int .i64 0, .bool false] 25)) (w.heap.size + 2) (by simp)
  case c3 => exact HM.out.an
  case c4 => exact HM.out.es.up (ext_alloc HB.out _)
  case c5 => simp; omega
  intro v' w4 hown hgrow
  obtain ⟨A', cap, rfl, _, _⟩ := own_es (s := s) hown
  have hb4 := (Below.refl (w.heap.size + 2) ((w.alloc (.cells #[.slice A s.length n, .slice B c.length m, .int .i64 f, .bool x] 25)).alloc (.cells #[.slice none 0 0, .slice none 0 0, .int .i64 0, .bool false] 25))).alloc (by simp) (.cells #[] 9)
  replace hb4 := hb4.grown hgrow (by simp) (by simp [Value.ownBlock])
  have hsz : ((w.alloc (.cells #[.slice A s.length n, .slice B c.length m, .int .i64 f, .bool x] 25)).alloc (.cells #[.slice none 0 0, .slice none 0 0, .int .i64 0, .bool false] 25)).heap.size = w.heap.size + 2 := by simp
  rw [← hsz] at hb4 hown
  have HO := Lib.hid hown; clear hown
  have HB4 := Lib.hid hb4; clear hb4
  clear hgrow hsz
  have c1 := (B1.out.below HB4.out).cell
  generalize (w.alloc (.cells #[.slice A s.length n, .slice B c.length m, .int .i64 f, .bool x] 25)).alloc (.cells #[.slice none 0 0, .slice none 0 0, .int .i64 0, .bool false] 25) = w2 at *
  have HM2 := Lib.hid (HM.out.up HB.out)
  have HT := Lib.hid (And.intro B1.out.lt B2.out.lt)
  go_wp2
  clear c1
  go_loopw [6] (fun i wr => ∃ k : Nat, k ≤ c.length ∧ i = .int .i64 k ∧ Hid (wr.ownsRow w2.heap.size 9 1 (.slice A' s.length cap) s.length ((layL s (keptL c l k)).map Value.string)) ∧ Hid (Below w2.heap.size w2 wr)) (fun i _ => c.length - (intOf i).toNat)
  case atStart => exact ⟨0, by omega, rfl, HO.out, HB4.out⟩
  case round =>
    obtain ⟨k, hk, rfl, HO, HBr⟩ := hrel
    have c1 := (B1.out.below HBr.out).cell
    by_cases hlt : k < c.length
    · by_cases hlk : k < l.length
      · obtain ⟨a1, rfl, hb1, hc1, hd1⟩ := (HM2.out.up HBr.out).ws k c[k] (List.getElem?_eq_getElem hlt)
        obtain ⟨a2, rfl, hb2, hc2⟩ := (HK.out.up (ext HB.out HBr.out)) k l[k] (List.getElem?_eq_getElem hlk)
        have hg : l.getD k false = l[k] := by rw [List.getD_eq_getElem?_getD, List.getElem?_eq_getElem hlk]; rfl
        cases hv : l[k] with
        | true =>
          rw [hv] at hg hc2
          have hs : layL s (keptL c l (k + 1)) = (layL s (keptL c l k)).set c[k].1.toNat c[k].2 := by rw [kept_yes hlt hg, lay_snoc]
          have hx := HF.out c[k] (List.getElem_mem hlt)
          have hlen := lay_length (keptL c l k) s
          clear hg hv
          generalize layL s (keptL c l k) = u at *
          generalize c[k] = y at *
          obtain ⟨q, d⟩ := y
          dsimp only at *
          obtain ⟨hq0, hq1, _⟩ := hx
          obtain ⟨q, rfl⟩ := Int.eq_ofNat_of_zero_le hq0
          rw [Int.toNat_natCast] at hs
          have HS := Lib.hid hs; clear hs
          obtain ⟨g, rfl, hg⟩ := own_some HO.out (by omega)
          have hcell : wr.cell? ⟨g, q, none⟩ = some (.string (u.getD q ⟨#[]⟩)) := by
            rw [HO.out.cellAt q (by omega), List.getElem?_map, List.getElem?_eq_getElem (by omega), List.getD_eq_getElem?_getD, List.getElem?_eq_getElem (by omega)]; rfl
          have hfz : wr.frozen? ⟨g, q, none⟩ = false := HO.out.frozenAt q
          clear hlen
          go_wp2
          go_still_tail 14, (by kernel_rfl)
          change wpList _ _ _ _ _ wr.drew
          have hnew : (wr.setCell ⟨g, q, none⟩ (.string d)).ownsRow w2.heap.size 9 1 (.slice (some ⟨g, 0, none⟩) s.length cap) s.length ((u.set q d).map Value.string) := own_set HO.out
          have hbl : Below w2.heap.size w2 (wr.setCell ⟨g, q, none⟩ (.string d)) := HBr.out.setCell hg _
          have HN := Lib.hid hnew; clear hnew
          have HL := Lib.hid hbl; clear hbl
          go_wp2
          go_roundw
          case rel => exact ⟨k + 1, by omega, by go_num, by rw [HS.out]; exact HN.out, HL.out.drew⟩
          case measure => simp [intOf]; omega
        | false =>
          rw [hv] at hg hc2
          have hs := kept_no (c := c) hg
          have HS := Lib.hid hs; clear hs
          clear hg hv hc1 hd1
          go_wp2
          go_roundw
          case rel => exact ⟨k + 1, by omega, by go_num, by rw [HS.out]; exact HO.out, HBr.out⟩
          case measure => simp [intOf]; omega
      · have hs := kept_over c l c.length (by omega)
        have hs2 := kept_over c l k (by omega)
        rw [hs2, ← hs] at HO
        have k2 := (B2.out.below HBr.out).cell
        have z2 := (B2.out.below HBr.out).frozen
        clear hs hs2
        generalize hu : layL s (keptL c l c.length) = u at *
        have HUL := Lib.hid (show u.length = s.length by rw [← hu, lay_length])
        clear hu
        go_wp2
        have hown2 := own4 HO.out HT.out.2 (.slice A' s.length cap) (.slice none 0 0) (.int .i64 0) (.bool false)
        have hul := HUL.out
        rw [← hul] at hown2
        obtain ⟨hA2, hes⟩ := own_es2 hown2
        refine bodyPost_ret (v := .agg #[.slice A' u.length cap, .slice none 0 0, .int .i64 0, .bool false]) (by simp [results, Try.results20, go_sem, k2, hul]) rfl
          ⟨A', none, cap, 0, rfl, ⟨?_, ws_nil _ _ _, hA2, fun _ => rfl⟩, ?_⟩
        · rw [← hul]; exact hes
        · exact below4 (ext HB.out HBr.out) (by omega) _ _ _ _
    · obtain rfl : k = c.length := by omega
      have k2 := (B2.out.below HBr.out).cell
      have z2 := (B2.out.below HBr.out).frozen
      generalize hu : layL s (keptL c l c.length) = u at *
      have HUL := Lib.hid (show u.length = s.length by rw [← hu, lay_length])
      clear hu
      go_wp2
      have hown2 := own4 HO.out HT.out.2 (.slice A' s.length cap) (.slice none 0 0) (.int .i64 0) (.bool false)
      have hul := HUL.out
      rw [← hul] at hown2
      obtain ⟨hA2, hes⟩ := own_es2 hown2
      refine bodyPost_ret (v := .agg #[.slice A' u.length cap, .slice none 0 0, .int .i64 0, .bool false]) (by simp [results, Try.results20, go_sem, k2, hul]) rfl
        ⟨A', none, cap, 0, rfl, ⟨?_, ws_nil _ _ _, hA2, fun _ => rfl⟩, ?_⟩
      · rw [← hul]; exact hes
      · exact below4 (ext HB.out HBr.out) (by omega) _ _ _ _
end Go.Proofs.Ytlgfinomkpingaa
