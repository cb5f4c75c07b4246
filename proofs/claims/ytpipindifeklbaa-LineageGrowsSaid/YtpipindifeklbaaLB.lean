/- Lineage: may the mints be? What both sides answer, for every list of mints within their types, of up to a thousand. No other condition but that the list lies in memory. -/
import Derived.Test.YtpipindifeklbaaLA
namespace Go.Proofs.Ytpipindifeklbaa
open Go.RowKit

theorem right_iff (l : List Mnt) : rightL l = true ↔ (∀ m ∈ l, m.g ≠ 0) ∧ (l.map Mnt.g).Nodup := by
  induction l with
  | nil => simp [rightL]
  | cons m t ih =>
    simp only [rightL, Bool.and_eq_true, Bool.not_eq_true', decide_eq_false_iff_not, ih, List.mem_cons, forall_eq_or_imp, List.map_cons, List.nodup_cons]
    constructor
    · rintro ⟨⟨a, b⟩, c, d⟩; exact ⟨⟨a, c⟩, b, d⟩
    · rintro ⟨⟨a, c⟩, b, d⟩; exact ⟨⟨a, b⟩, c, d⟩

/-- So far they may. -/
def RP (l : List Mnt) (k : Nat) : Prop := (∀ m ∈ l.take k, m.g ≠ 0) ∧ ((l.take k).map Mnt.g).Nodup

theorem rp_zero (l : List Mnt) : RP l 0 := by unfold RP; simp
theorem rp_end {l : List Mnt} (h : RP l l.length) : rightL l = true := by
  unfold RP at h
  rw [List.take_length] at h
  exact (right_iff l).2 h
theorem rp_on {l : List Mnt} {k : Nat} (h : k < l.length) (hp : RP l k) (h0 : ¬ l[k].g = 0) (h1 : l[k].g ∉ (l.take k).map Mnt.g) : RP l (k + 1) := by
  unfold RP at hp ⊢
  have e := take_snoc l k h
  rw [e]
  refine ⟨fun m hm => ?_, ?_⟩
  · rcases List.mem_append.1 hm with hm | hm
    · exact hp.1 m hm
    · rw [List.mem_singleton.1 hm]; exact h0
  · rw [List.map_append, List.nodup_append]
    refine ⟨hp.2, by simp, fun a ha b hb q => ?_⟩
    rw [List.map_singleton, List.mem_singleton] at hb
    subst hb; subst q
    exact h1 ha
theorem rp_bad {l : List Mnt} {k : Nat} (h : k < l.length) (hb : l[k].g = 0 ∨ l[k].g ∈ (l.take k).map Mnt.g) : rightL l = false := by
  rw [← Bool.not_eq_true, right_iff]
  rintro ⟨h0, h1⟩
  rcases hb with hb | hb
  · exact h0 _ (List.getElem_mem h) hb
  · rw [← List.take_append_drop (k + 1) l, take_snoc l k h, List.map_append, List.map_append] at h1
    have h2 := (List.nodup_append.1 h1).1
    exact (List.nodup_append.1 h2).2.2 _ hb _ (by simp) rfl

/-- The generations so far, and 0. -/
def seen (l : List Mnt) (k : Nat) (x : Int) : Bool := decide (x = 0) || decide (x ∈ (l.take k).map Mnt.g)
theorem seen_on {l : List Mnt} {k : Nat} (h : k < l.length) (x : Int) : (if x = l[k].g then true else seen l k x) = seen l (k + 1) x := by
  unfold seen
  rw [take_snoc l k h, List.map_append, List.map_singleton]
  by_cases e : x = l[k].g
  · rw [if_pos e]; simp [e]
  · rw [if_neg e]
    congr 1
    rw [decide_eq_decide, List.mem_append, List.mem_singleton]
    exact ⟨Or.inl, fun q => q.resolve_right e⟩

set_option maxHeartbeats 1000000 in
theorem right_any (A : Option Addr) (c : Nat) (l : List Mnt) (w : World) (h : Ms w w.heap.size A l) (hu : Wide l) (hm : l.length ≤ 1000) :
    Calls Try.prog 7 #[.slice A l.length c] w fun e w' => e = .returned (.bool (rightL l)) ∧ Below w.heap.size w w' := by
  have hmm := @run_makeMap Try.prog
  have H1 := Lib.hid h; clear h
  have HU := Lib.hid hu; clear hu
  have HM0 := Lib.hid (mb_made w)
  go_enter Try.func7, Try.ntmps7
  go_wp2_with (refine lit_b _ rfl _ _ _ rfl rfl HM0.out (by unfold maxLen; omega) rfl rfl u64_zero ?_; intro w1 hm1 hg1)
  have hb1 : Below w.heap.size w w1 := (below1 (o := .map #[] 0)).grown hg1 (by simp) (by intro g hg; cases hg; exact Nat.le_refl _)
  have HM1 := Lib.hid (hm1.like (f' := seen l 0) (by intro x; unfold seen; by_cases e : x = 0 <;> simp [e])); clear hm1 hg1 HM0 hmm
  have HB1 := Lib.hid hb1; clear hb1
  go_wp2
  go_loopw [5, 10] (fun _ i wr => ∃ k : Nat, k ≤ l.length ∧ i = .int .i64 k ∧ Hid (RP l k) ∧ Hid (MB wr w.heap.size (0 + 1 + k) (seen l k)) ∧ Hid (Below w.heap.size w wr)) (fun _ i _ => l.length - (intOf i).toNat)
  case atStart => exact ⟨0, by omega, rfl, rp_zero l, HM1, HB1⟩
  case round =>
    obtain ⟨k, hk, rfl, HP, HM, HB⟩ := hrel
    clear HM1 HB1
    by_cases hlt : k < l.length
    · obtain ⟨a1, rfl, hb1, hc1, hd1, he1⟩ := (H1.out.below HB.out HB.out.size) k l[k] (List.getElem?_eq_getElem hlt)
      have hw := (HU.out _ (List.getElem_mem hlt)).1
      have hs := fun x => seen_on hlt x
      have hr := rp_bad hlt
      have hp := rp_on hlt HP.out
      have hbad : seen l k l[k].g = (decide (l[k].g = 0) || decide (l[k].g ∈ (l.take k).map Mnt.g)) := rfl
      have HR := Lib.hid hr; clear hr
      have HPP := Lib.hid hp; clear hp
      have HW := Lib.hid hw; clear hw
      have HS := Lib.hid hs; clear hs
      have HF := Lib.hid hbad; clear hbad HP
      generalize l[k] = x at *
      obtain ⟨xg, xp, xk⟩ := x
      dsimp only at hc1 hd1 he1 HR HPP HW HS HF
      cases hq : seen l k xg with
      | true =>
        have HQ := Lib.hid hq; clear hq
        go_wp2_with (refine look_b _ rfl _ _ rfl rfl (HM.out.lay _) rfl HW.out HQ.out ?_)
        go_ret
        refine ⟨ret_bool (HR.out ?_).symm, ?_⟩
        · have := HF.out
          rw [HQ.out] at this
          simpa using this.symm
        · exact HB.out.alloc HB.out.size _
      | false =>
        have HQ := Lib.hid hq; clear hq
        go_wp2_with (first | (at_lookup; refine look_b _ rfl _ _ rfl rfl (HM.out.lay _) rfl HW.out HQ.out ?_) | (at_mapUpdate; refine put_b _ rfl _ _ _ rfl rfl (HM.out.lay _) (by unfold maxLen; omega) rfl rfl HW.out ?_; intro w2 hm2 hg2))
        have hb2 := (HB.out.alloc HB.out.size (.cells #[.int .u64 xg, .int .u64 xp, .int .i64 xk] 32)).grown hg2 (by simp; have := HB.out.size; omega) (by intro g hg; cases hg; exact Nat.le_refl _)
        have HB2 := Lib.hid hb2; clear hb2 hg2
        have HM2 := Lib.hid (hm2.like HS.out); clear hm2
        go_wp2
        go_roundw
        case rel =>
          have := HF.out
          rw [HQ.out] at this
          have h2 := (Bool.or_eq_false_iff.1 this.symm)
          exact ⟨k + 1, by omega, by go_num, HPP.out (by simpa using h2.1) (by simpa using h2.2), HM2, HB2⟩
        case measure => simp [intOf]; omega
    · obtain rfl : k = l.length := by omega
      have hr := rp_end HP.out
      have HR := Lib.hid hr; clear hr HP
      go_wp2
      go_ret
      exact ⟨ret_bool HR.out.symm, HB.out⟩

theorem gen_in {l : List Mnt} {j k : Nat} (h : j < l.length) (hjk : j < k) {g : Int} (hx : l[j].g = g) : g ∈ (l.take k).map Mnt.g := by
  have hj : j < (l.take k).length := by rw [List.length_take]; omega
  have : (l.take k)[j] = l[j] := List.getElem_take
  exact List.mem_map.2 ⟨l[j], this ▸ List.getElem_mem hj, hx⟩
theorem gen_on {l : List Mnt} {j : Nat} (h : j < l.length) {g : Int} (h0 : g ∉ (l.take j).map Mnt.g) (hx : ¬ l[j].g = g) : g ∉ (l.take (j + 1)).map Mnt.g := by
  rw [take_snoc l j h, List.map_append, List.map_singleton, List.mem_append, List.mem_singleton]
  rintro (q | q)
  · exact h0 q
  · exact hx q.symm

set_option maxHeartbeats 1000000 in
theorem rright_any (A : Option Addr) (c : Nat) (l : List Mnt) (w : World) (h : Ms w w.heap.size A l) (hm : l.length ≤ 1000) :
    Calls Try.prog 8 #[.slice A l.length c] w fun e w' => e = .returned (.bool (rightL l)) ∧ Below w.heap.size w w' := by
  have H1 := Lib.hid h; clear h
  go_enter Try.func8, Try.ntmps8
  go_wp2
  go_loopw [3, 4] (fun i _ wr => ∃ k n : Nat, k ≤ l.length ∧ i = .int .i64 k ∧ Hid (RP l k) ∧ wr = w.drewN n) (fun i _ _ => l.length - (intOf i).toNat)
  case atStart => exact ⟨0, 0, by omega, rfl, rp_zero l, rfl⟩
  case round =>
    obtain ⟨k, n, hk, rfl, HP, rfl⟩ := hrel
    by_cases hlt : k < l.length
    · obtain ⟨a1, rfl, hb1, hc1, hd1, he1⟩ := H1.out k l[k] (List.getElem?_eq_getElem hlt)
      have hr := rp_bad hlt
      have hp := rp_on hlt HP.out
      have HR := Lib.hid hr; clear hr
      have HPP := Lib.hid hp; clear hp HP
      generalize l[k] = x at *
      obtain ⟨xg, xp, xk⟩ := x
      dsimp only at hc1 hd1 he1 HR HPP
      by_cases h0 : xg = 0
      · subst h0
        go_wp2
        go_ret
        exact ⟨ret_bool (HR.out (Or.inl trivial)).symm, below_drewN (Below.refl _ _) _⟩
      · have hq : (xg == 0) = false := beq_eq_false_iff_ne.2 h0
        have H0 := Lib.hid h0; clear h0
        go_wp2
        go_loopw [4] (fun i wr => ∃ j m : Nat, j ≤ k ∧ i = .int .i64 j ∧ Hid (xg ∉ (l.take j).map Mnt.g) ∧ wr = w.drewN m) (fun i _ => k - (intOf i).toNat)
        case atStart => exact ⟨0, n, by omega, rfl, by unfold Hid; simp, rfl⟩
        case round =>
          obtain ⟨j, m, hj, rfl, HJ, rfl⟩ := hrel
          by_cases hjk : j < k
          · have hjl : j < l.length := by omega
            obtain ⟨a2, q2, hb2, hc2, hd2, he2⟩ := H1.out j l[j] (List.getElem?_eq_getElem hjl)
            injection q2 with q2
            subst q2
            have hi := fun q => HR.out (Or.inr (gen_in hjl hjk q))
            have ho := fun q => gen_on hjl HJ.out q
            have HI := Lib.hid hi; clear hi
            have HO := Lib.hid ho; clear ho
            generalize l[j] = y at *
            obtain ⟨yg, yp, yk⟩ := y
            dsimp only at hc2 hd2 he2 HI HO
            by_cases hx : yg = xg
            · subst hx
              go_wp2
              go_quiet (fail)
              go_wp2
              go_ret
              exact ⟨ret_bool (HI.out trivial).symm, below_drewN (below_drewN (Below.refl _ _) _) _⟩
            · have hq2 : (yg == xg) = false := beq_eq_false_iff_ne.2 hx
              have HX := Lib.hid hx; clear hx
              go_wp2
              go_quiet (fail)
              go_wp2
              go_roundw
              case rel => exact ⟨j + 1, _, by omega, by go_num, HO.out HX.out, rfl⟩
              case measure => simp [intOf]; omega
          · obtain rfl : j = k := by omega
            go_wp2
            go_roundw
            case rel => exact ⟨j + 1, _, by omega, by go_num, HPP.out H0.out HJ.out, rfl⟩
            case measure => simp [intOf]; omega
    · obtain rfl : k = l.length := by omega
      have hr := rp_end HP.out
      have HR := Lib.hid hr; clear hr HP
      go_wp2
      go_ret
      exact ⟨ret_bool HR.out.symm, below_drewN (Below.refl _ _) _⟩
end Go.Proofs.Ytpipindifeklbaa
