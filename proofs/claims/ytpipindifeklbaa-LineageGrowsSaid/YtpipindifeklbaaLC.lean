/- Lineage: the parents as a map, and a generation's line, on both sides, for every list of mints within their types, of up to a thousand. No other condition but that the list lies in memory. -/
import Derived.Test.YtpipindifeklbaaLB
namespace Go.Proofs.Ytpipindifeklbaa
open Go.RowKit

/-- Has it been minted so far? -/
def hasP (l : List Mnt) (k : Nat) (x : Int) : Bool := decide (x ∈ (l.take k).map Mnt.g)

theorem par_not {l : List Mnt} {x : Int} (h : x ∉ l.map Mnt.g) : par l x = 0 := by
  by_cases e : par l x = 0
  · exact e
  · exact absurd (par_in e) h
theorem par_snoc (l : List Mnt) (m : Mnt) (x : Int) : par (l ++ [m]) x = if x ∈ l.map Mnt.g then par l x else if m.g = x then m.p else 0 := by
  induction l with
  | nil => simp [par]
  | cons y t ih =>
    simp only [List.cons_append, par, ih, List.map_cons, List.mem_cons]
    by_cases e : y.g = x
    · rw [if_pos e, if_pos e, if_pos (Or.inl e.symm)]
    · rw [if_neg e, if_neg e]
      by_cases e2 : x ∈ t.map Mnt.g
      · rw [if_pos e2, if_pos (Or.inr e2)]
      · have e3 : ¬ (x = y.g ∨ x ∈ t.map Mnt.g) := fun q => q.elim (fun q => e q.symm) e2
        rw [if_neg e2, if_neg e3]

theorem has_skip {l : List Mnt} {k : Nat} (h : k < l.length) (hq : hasP l k l[k].g = true) : (∀ x, par (l.take k) x = par (l.take (k + 1)) x) ∧ ∀ x, hasP l k x = hasP l (k + 1) x := by
  have hm : l[k].g ∈ (l.take k).map Mnt.g := by unfold hasP at hq; simpa only [decide_eq_true_eq] using hq
  refine ⟨fun x => ?_, fun x => ?_⟩
  · rw [take_snoc l k h, par_snoc]
    by_cases e : x ∈ (l.take k).map Mnt.g
    · rw [if_pos e]
    · rw [if_neg e, if_neg (fun (q : l[k].g = x) => e (q ▸ hm)), par_not e]
  · unfold hasP
    rw [take_snoc l k h, List.map_append, List.map_singleton, decide_eq_decide, List.mem_append, List.mem_singleton]
    exact ⟨Or.inl, fun q => q.elim id fun q => q ▸ hm⟩

theorem has_new {l : List Mnt} {k : Nat} (h : k < l.length) (hq : hasP l k l[k].g = false) : (∀ x, (if x = l[k].g then l[k].p else par (l.take k) x) = par (l.take (k + 1)) x) ∧ ∀ x, (if x = l[k].g then true else hasP l k x) = hasP l (k + 1) x := by
  have hm : l[k].g ∉ (l.take k).map Mnt.g := by unfold hasP at hq; simpa only [decide_eq_false_iff_not] using hq
  refine ⟨fun x => ?_, fun x => ?_⟩
  · rw [take_snoc l k h, par_snoc]
    by_cases e : x = l[k].g
    · rw [if_pos e, if_neg (fun q => hm (e ▸ q)), if_pos e.symm]
    · rw [if_neg e]
      by_cases e2 : x ∈ (l.take k).map Mnt.g
      · rw [if_pos e2]
      · rw [if_neg e2, if_neg (fun q => e q.symm), par_not e2]
  · unfold hasP
    rw [take_snoc l k h, List.map_append, List.map_singleton]
    by_cases e : x = l[k].g
    · rw [if_pos e]; exact (decide_eq_true (List.mem_append.2 (Or.inr (List.mem_singleton.2 e)))).symm
    · rw [if_neg e, decide_eq_decide, List.mem_append, List.mem_singleton]
      exact ⟨Or.inl, fun q => q.resolve_right e⟩

theorem MU.like {w : World} {b n n' : Nat} {f f' : Int → Int} {g g' : Int → Bool} (h : MU w b n f g) (hn : n ≤ n') (e : ∀ k, f k = f' k) (e2 : ∀ k, g k = g' k) : MU w b n' f' g' := by
  obtain ⟨D, h, r, s⟩ := h
  exact ⟨D, h.mono hn, fun k => by rw [r, e], fun k => by rw [s, e2]⟩

/-- A map of its own that answers each generation's parent. -/
def GivesP (l : List Mnt) (w : World) (e : Ending) (w' : World) : Prop :=
  ∃ b, e = .returned (.map (some b)) ∧ w.heap.size ≤ b ∧ MU w' b l.length (par l) (hasP l l.length) ∧ Below w.heap.size w w'

set_option maxHeartbeats 1000000 in
theorem parents_any (A : Option Addr) (c : Nat) (l : List Mnt) (w : World) (h : Ms w w.heap.size A l) (hu : Wide l) (hm : l.length ≤ 1000) :
    Calls Try.prog 18 #[.slice A l.length c] w (GivesP l w) := by
  have hmm := run_makeN
  have H1 := Lib.hid h; clear h
  have HU := Lib.hid hu; clear hu
  have HM0 := Lib.hid ((mu_made w).like (n' := 0) (f' := par (l.take 0)) (g' := hasP l 0) (Nat.le_refl _) (fun x => by simp [par]) (fun x => by simp [hasP]))
  have HB0 := Lib.hid (below1 (w := w) (o := .map #[] 0))
  go_enter Try.func18, Try.ntmps18
  go_wp2
  go_loopw [5, 6, 7, 13] (fun _ _ _ i wr => ∃ k : Nat, k ≤ l.length ∧ i = .int .i64 k ∧ Hid (MU wr w.heap.size k (par (l.take k)) (hasP l k)) ∧ Hid (Below w.heap.size w wr)) (fun _ _ _ i _ => l.length - (intOf i).toNat)
  case atStart => exact ⟨0, by omega, rfl, HM0, HB0⟩
  case round =>
    obtain ⟨k, hk, rfl, HM, HB⟩ := hrel
    clear HM0 HB0 hmm
    by_cases hlt : k < l.length
    · obtain ⟨a1, rfl, hb1, hc1, hd1, he1⟩ := (H1.out.below HB.out HB.out.size) k l[k] (List.getElem?_eq_getElem hlt)
      have HW := Lib.hid (HU.out _ (List.getElem_mem hlt))
      have hs := has_skip hlt
      have hn := has_new hlt
      have HS := Lib.hid hs; clear hs
      have HN := Lib.hid hn; clear hn
      generalize l[k] = x at *
      obtain ⟨xg, xp, xk⟩ := x
      dsimp only at hc1 hd1 he1 HW HS HN
      cases hq : hasP l k xg with
      | true =>
        have HQ := Lib.hid hq; clear hq
        go_wp2_with (refine look_ok _ rfl _ _ rfl rfl (HM.out.lay _) rfl HW.out.1 rfl HQ.out ?_)
        go_roundw
        case rel => exact ⟨k + 1, by omega, by go_num, (HM.out.lay _).like (Nat.le_succ _) (HS.out HQ.out).1 (HS.out HQ.out).2, HB.out.alloc HB.out.size _⟩
        case measure => simp [intOf]; omega
      | false =>
        have HQ := Lib.hid hq; clear hq
        go_wp2_with (first | (at_lookup; refine look_ok _ rfl _ _ rfl rfl (HM.out.lay _) rfl HW.out.1 rfl HQ.out ?_) | (at_mapUpdate; refine put_u _ rfl _ _ _ rfl rfl (HM.out.lay _) (by unfold maxLen; omega) rfl rfl HW.out.1 HW.out.2 ?_; intro w2 hm2 hg2))
        have hb2 := (HB.out.alloc HB.out.size (.cells #[.int .u64 xg, .int .u64 xp, .int .i64 xk] 32)).grown hg2 (by simp; have := HB.out.size; omega) (by intro g hg; cases hg; exact Nat.le_refl _)
        have HB2 := Lib.hid hb2; clear hb2 hg2
        have HM2 := Lib.hid (hm2.like (Nat.le_refl _) (HN.out HQ.out).1 (HN.out HQ.out).2); clear hm2
        go_wp2
        go_roundw
        case rel => exact ⟨k + 1, by omega, by go_num, HM2, HB2⟩
        case measure => simp [intOf]; omega
    · obtain rfl : k = l.length := by omega
      have hm2 := HM.out
      rw [List.take_length] at hm2
      have HM2 := Lib.hid hm2; clear hm2 HM
      go_wp2
      go_ret
      exact ⟨_, rfl, Nat.le_refl _, HM2.out, HB.out⟩
end Go.Proofs.Ytpipindifeklbaa
