/- Lineage: a generation's line, on both sides, for every list of mints within their types, of up to a thousand. No other condition but that the list lies in memory. -/
import Derived.Test.YtpipindifeklbaaLC
namespace Go.Proofs.Ytpipindifeklbaa
open Go.RowKit

theorem info23 : (Try.prog.info? 23).map (fun i => (i.zero, i.size, i.bytes)) = some (some (.int .u64 0), 1, 8) := by kernel_rfl

/-- It hands back a list of numbers of its own, and leaves what was there as it was. -/
def GivesU (l : List Int) (w : World) (e : Ending) (w' : World) : Prop :=
  ∃ A c, e = .returned (.slice A l.length c) ∧ Es (Value.int .u64) w' w'.heap.size A l ∧ ((A = none → c = 0) ∧ ∀ a, A = some a → w.heap.size ≤ a.block) ∧ Below w.heap.size w w'

/-- A line under way. -/
structure Way (l : List Mnt) (g : Int) (out : List Int) (x : Int) : Prop where
  u : U64 x
  eq : lineF l (l.length + 2 - out.length) out x = lineL l g
  under : x = 0 ∨ Under l out
  few : out.length ≤ l.length + 1

theorem way_start (l : List Mnt) {g : Int} (h : U64 g) : Way l g [] g := ⟨h, rfl, Or.inr (under_nil l), by simp⟩
theorem way_end {l : List Mnt} {g : Int} {out : List Int} {x : Int} (h : Way l g out x) (hx : x = 0 ∨ x ∈ out) : lineL l g = out := by
  rw [← h.eq]
  cases l.length + 2 - out.length with
  | zero => rfl
  | succ f => unfold lineF; rw [if_pos hx]
theorem way_on {l : List Mnt} (hu : Wide l) {g : Int} {out : List Int} {x : Int} (h : Way l g out x) (hx : ¬ (x = 0 ∨ x ∈ out)) : Way l g (out ++ [x]) (par l x) ∧ out.length ≤ l.length := by
  have h0 : Under l out := h.under.resolve_left fun q => hx (Or.inl q)
  have hf := under_few h0
  refine ⟨⟨u64_par hu x, ?_, ?_, by simp; omega⟩, hf⟩
  · rw [← h.eq, show l.length + 2 - out.length = (l.length + 2 - (out ++ [x]).length) + 1 from by simp; omega]
    conv => rhs; unfold lineF
    rw [if_neg hx]
  · by_cases e : par l x = 0
    · exact Or.inl e
    · exact Or.inr (under_step h0 (fun q => hx (Or.inr q)) e)

theorem MB.more {w : World} {b n n' : Nat} {f : Int → Bool} (h : MB w b n f) (hn : n ≤ n') : MB w b n' f := by
  obtain ⟨D, h, r⟩ := h
  exact ⟨D, h.mono hn, r⟩

/-- What stands in a line, and 0. -/
def inW (out : List Int) (x : Int) : Bool := decide (x = 0) || decide (x ∈ out)
theorem inW_iff {out : List Int} {x : Int} : inW out x = true ↔ x = 0 ∨ x ∈ out := by unfold inW; simp
theorem inW_on (out : List Int) (y x : Int) : (if x = y then true else inW out x) = inW (out ++ [y]) x := by
  unfold inW
  by_cases e : x = y
  · rw [if_pos e]; simp [e]
  · rw [if_neg e]
    congr 1
    rw [decide_eq_decide, List.mem_append, List.mem_singleton]
    exact ⟨Or.inl, fun q => q.resolve_right e⟩

/-- How many a slice has. -/
def lenV : Value → Nat
  | .slice _ n _ => n
  | _ => 0

theorem own_u {w wr : World} {A : Option Addr} {c base : Nat} {l : List Int} (h : wr.ownsRow base 23 1 (.slice A l.length c) l.length (l.map (Value.int .u64))) (hb : Below w.heap.size w wr) (hbase : w.heap.size ≤ base) :
    GivesU l w (.returned (.slice A l.length c)) wr := by
  obtain ⟨A', c', hv, hA, hc⟩ := own_slice h
  injection hv with e1 e2 e3
  subst e1; subst e3
  refine ⟨A, c, rfl, fun j x hj => hc j (.int .u64 x) (by simp [hj]), ⟨hA, fun a ha => ?_⟩, hb⟩
  subst ha
  rcases h.2 with ⟨hv, _⟩ | ⟨g, cap, cur, hv, hbg, _⟩
  · injection hv with q; cases q
  · injection hv with q
    injection q with q
    subst q
    exact Nat.le_trans hbase hbg

set_option maxHeartbeats 2000000 in
theorem line_any (A : Option Addr) (c : Nat) (l : List Mnt) (g : Int) (w : World) (h : Ms w w.heap.size A l) (hu : Wide l) (hg : U64 g) (hm : l.length ≤ 1000) :
    Calls Try.prog 10 #[.slice A l.length c, .int .u64 g] w (GivesU (lineL l g) w) := by
  obtain ⟨i0, hi, hz0, hz1, hz2⟩ := info_parts info23
  have hmm := @run_makeMap Try.prog
  have hp := parents_any A c l w h hu hm
  have HU := Lib.hid hu; clear hu
  have HW0 := Lib.hid (way_start l hg); clear hg
  clear h
  generalize hL : lineL l g = L at *
  have HL := Lib.hid hL; clear hL
  go_enter Try.func10, Try.ntmps10
  go_wp2_with fail
  refine hp.mono ?_
  rintro e w1 ⟨bp, rfl, hbp, hmu, hb1⟩
  clear hp
  have HLT := Lib.hid hmu.lt
  have HMU := Lib.hid (hmu.lay (.map #[] 0)); clear hmu
  have HBP := Lib.hid hbp; clear hbp
  have HB1 := Lib.hid hb1; clear hb1
  have HM0 := Lib.hid (mb_made w1)
  go_wp2_with (refine lit_b _ rfl _ _ _ rfl rfl HM0.out (by unfold maxLen; omega) rfl rfl u64_zero ?_; intro w2 hm2 hg2)
  have hb2 : Below w.heap.size w w2 := (HB1.out.alloc HB1.out.size (.map #[] 0)).grown hg2 (by simp; have := HB1.out.size; omega) (by intro g hg; cases hg; exact HB1.out.size)
  have hmu2 := HMU.out.grown hg2 (by intro q; injection q with q; have := HLT.out; omega)
  have hs2 : w1.heap.size < w2.heap.size := by have := hg2.size; simp at this; omega
  have HM2 := Lib.hid (hm2.like (f' := inW []) (by intro x; unfold inW; by_cases e : x = 0 <;> simp [e])); clear hm2 HM0
  have HMU2 := Lib.hid hmu2; clear hmu2 HMU hg2
  have HB2 := Lib.hid hb2; clear hb2
  have HS2 := Lib.hid hs2; clear hs2
  clear hmm
  go_wp2
  go_loopw [1, 6] (fun g' v wr => ∃ (out : List Int) (x : Int) (B' : Option Addr) (c' : Nat), g' = .int .u64 x ∧ v = .slice B' out.length c' ∧ Hid (Way l g out x) ∧
    Hid (wr.ownsRow w2.heap.size 23 1 (.slice B' out.length c') out.length (out.map (Value.int .u64))) ∧ Hid (MU wr bp l.length (par l) (hasP l l.length)) ∧ Hid (MB wr w1.heap.size (0 + 1 + out.length) (inW out)) ∧
    Hid (Below w.heap.size w wr) ∧ Hid (w2.heap.size ≤ wr.heap.size)) (fun _ v _ => l.length + 2 - lenV v)
  case atStart => exact ⟨[], g, none, 0, rfl, rfl, HW0, World.ownsRow_nil _ _ _ _, HMU2, HM2, HB2, Nat.le_refl _⟩
  case round =>
    obtain ⟨out, x, B', c', rfl, rfl, HW, HO, HMU, HM, HB, HS⟩ := hrel
    clear HM2 HMU2 HB2 HW0
    cases hq : inW out x with
    | true =>
      have HQ := Lib.hid hq; clear hq
      have hl := HL.out.symm.trans (way_end HW.out (inW_iff.1 HQ.out))
      subst hl
      have HG := Lib.hid (own_u HO.out HB.out (by have := HB1.out.size; have := HS2.out; omega))
      clear HO
      go_wp2_with (refine look_b _ rfl _ _ rfl rfl HM.out rfl HW.out.u HQ.out ?_)
      go_ret
      exact HG.out
    | false =>
      have HQ := Lib.hid hq; clear hq
      have hn := way_on HU.out HW.out (x := x) (fun q => by have := inW_iff.2 q; rw [HQ.out] at this; cases this)
      have hlen := hn.2
      have HWN := Lib.hid hn.1; clear hn
      go_wp2_with (first | (at_lookup; refine look_b _ rfl _ _ rfl rfl HM.out rfl HW.out.u HQ.out ?_) | (at_builtin; refine wpList_append_own _ rfl _ _ 27 rfl w2.heap.size 23 i0 (.int .u64 0) 1 8 Try.underlying27 hi hz0 hz1 hz2 rfl (by decide) _ _ _ rfl (HO.out.alloc _) ⟨wr.heap.size, 0, none⟩ 1 1 [.int .u64 x] rfl rfl ?c1 ?c2 ?c3 ?c4 ?c5 ?_))
      case c1 => exact cell_new1 wr _ 23
      case c2 => intro u hu; simp at hu; subst hu; rfl
      case c3 => unfold maxLen; omega
      case c4 => omega
      case c5 => simp; have := HS.out; omega
      intro v' w3 hown' hgrow _
      have hlow := own_low HO.out
      have hb3 := (HB.out.alloc HB.out.size (.cells #[.int .u64 x] 23)).grown hgrow (by simp; have := HB.out.size; omega) (by intro g hg; have := hlow g hg; have := HS2.out; have := HB1.out.size; omega)
      have hm3 := (HM.out.lay (.cells #[.int .u64 x] 23)).grown hgrow (by intro q; have := hlow _ q.symm; have := HS2.out; omega)
      have hmu3 := (HMU.out.lay (.cells #[.int .u64 x] 23)).grown hgrow (by intro q; have := hlow _ q.symm; have := HS2.out; have := HLT.out; omega)
      have hs3 : w2.heap.size ≤ w3.heap.size := by have := hgrow.size; simp at this; have := HS.out; omega
      rw [← List.map_singleton (f := Value.int .u64), ← List.map_append, show out.length + 1 = (out ++ [x]).length from by simp] at hown'
      have hlow' := own_low hown'
      obtain ⟨B3, c3, rfl, _, _⟩ := own_slice hown'
      have HO3 := Lib.hid hown'; clear hown'
      have HM3 := Lib.hid hm3; clear hm3 HM
      have HMU3 := Lib.hid hmu3; clear hmu3 HMU
      have HB3 := Lib.hid hb3; clear hb3 HB
      have HS3 := Lib.hid hs3; clear hs3
      have HLOW := Lib.hid hlow'; clear hlow' hlow hgrow HO
      go_wp2_with (refine put_b _ rfl _ _ _ rfl rfl HM3.out (by unfold maxLen; omega) rfl rfl HW.out.u ?_)
      intro w4 hm4 hg4
      have hb4 := HB3.out.grown hg4 HB3.out.size (by intro g hg; cases hg; exact HB1.out.size)
      have hmu4 := HMU3.out.grown hg4 (by intro q; injection q with q; have := HLT.out; omega)
      have ho4 := HO3.out.kept hg4 (Or.inr (by intro q; have := HLOW.out _ q; have := HS2.out; omega))
      have hs4 : w2.heap.size ≤ w4.heap.size := Nat.le_trans HS3.out hg4.size
      have HO4 := Lib.hid ho4; clear ho4 HO3
      have HM4 : Hid (MB w4 w1.heap.size (0 + 1 + (out ++ [x]).length) (inW (out ++ [x]))) := MB.more (hm4.like (f' := inW (out ++ [x])) (fun z => by rw [← inW_on out x z]; by_cases e : z = x <;> simp [e])) (by simp; omega); clear hm4 HM3
      have HMU4 := Lib.hid hmu4; clear hmu4 HMU3 hg4
      have HB4 := Lib.hid hb4; clear hb4 HB3
      have HS4 := Lib.hid hs4; clear hs4
      go_wp2_with (refine look_u _ rfl _ _ rfl rfl HMU4.out rfl HW.out.u rfl ?_)
      go_roundw
      case rel => exact ⟨out ++ [x], par l x, B3, c3, rfl, by simp, HWN, HO4, HMU4, HM4, HB4, HS4⟩
      case measure => simp [lenV]; omega
end Go.Proofs.Ytpipindifeklbaa
