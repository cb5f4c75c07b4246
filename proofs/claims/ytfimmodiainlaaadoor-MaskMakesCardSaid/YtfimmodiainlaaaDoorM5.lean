/- Masks: lists made, and what counts them: what both sides answer, for every argument within its type; no other condition but that the table of the lowest bits lies as its initialiser lays it. -/
import Derived.Test.YtfimmodiainlaaaDoorM4
namespace Go.Proofs.YtfimmodiainlaaaDoor
open Go.RowKit

theorem info3 : (Tryd.prog.info? 3).map (fun i => (i.zero, i.size, i.bytes)) = some (some (.int .i64 0), 1, 8) := by kernel_rfl

theorem below_drewN {B : Nat} {a w : World} (h : Below B a w) (n : Nat) : Below B a (w.drewN n) := ⟨h.os, h.tape, h.output, h.size, h.block⟩

/-- It hands back a list of its own, and leaves what was there as it was. -/
def Gives (l : List Int) (w : World) (e : Ending) (w' : World) : Prop :=
  ∃ A c, e = .returned (.slice A l.length c) ∧ l.length ≤ maxLen ∧ Cs .i64 w' w'.heap.size A l ∧ Below w.heap.size w w'

theorem ret_sl {A : Option Addr} {n m c : Nat} (h : n = m) : Ending.returned (.slice A n c) = .returned (.slice A m c) := by rw [h]

theorem cell_new1 (w : World) (v : Value) (t : TypeId) : ∀ (j : Nat) (u : Value), [v][j]? = some u → (w.alloc (.cells #[v] t)).cell? ((⟨w.heap.size, 0, none⟩ : Addr).add j) = some u := by
  intro j u hj
  match j, hj with
  | 0, hj =>
    have : (⟨w.heap.size, 0, none⟩ : Addr).add 0 = ⟨w.heap.size, 0, none⟩ := by unfold Addr.add; split <;> simp_all
    rw [this, World.cell?_alloc_mark w _ t (0, 0)]
    simpa using hj

theorem own_low {w : World} {base size n : Nat} {e : TypeId} {v : Value} {xs : List Value} (h : w.ownsRow base e size v n xs) : ∀ g, v.ownBlock = some g → base ≤ g := by
  intro g hg
  rcases h.2 with ⟨rfl, _⟩ | ⟨g', cap, cur, rfl, hb, _⟩
  · simp [Value.ownBlock] at hg
  · simp [Value.ownBlock] at hg; omega

theorem own_cs {base n : Nat} {wr : World} {A : Option Addr} {c : Nat} {k : IntKind} {e : TypeId} {l : List Int} (h : wr.ownsRow base e 1 (.slice A n c) l.length (l.map (Value.int k))) : n = l.length ∧ Cs k wr wr.heap.size A l := by
  rcases h.2 with ⟨hv, h0⟩ | ⟨g, cap, cur, hv, hbg, hh, hn, hm, _, _⟩
  · injection hv with e1 e2 e3
    refine ⟨by omega, ?_⟩
    have : l = [] := List.eq_nil_of_length_eq_zero h0
    subst this
    exact cs_nil _ _ _ _
  · injection hv with e1 e2 e3
    subst e1; subst e2; subst e3
    refine ⟨rfl, ?_⟩
    intro j x hj
    have hlt : g < wr.heap.size := by
      rcases Nat.lt_or_ge g wr.heap.size with h | h
      · exact h
      · rw [Array.getElem?_eq_none h] at hh; cases hh
    exact ⟨_, rfl, hlt, h.cells (g := g) rfl j (.int k x) (by simp [hj])⟩

theorem own_gives {w wr : World} {v : Value} {l : List Int} (hl : l.length ≤ maxLen) (h : wr.ownsRow w.heap.size 3 1 v l.length (l.map (Value.int .i64))) (hb : Below w.heap.size w wr) : Gives l w (.returned v) wr := by
  have h' := h
  rcases h.2 with ⟨rfl, h0⟩ | ⟨g, cap, cur, rfl, _⟩
  · exact ⟨none, 0, ret_sl h0.symm, hl, (own_cs h').2, hb⟩
  · exact ⟨some ⟨g, 0, none⟩, cap, rfl, hl, (own_cs h').2, hb⟩

theorem hasB_bit (m k : Nat) (hk : k < 32) : hasB m (k : Int) = m.testBit k := by
  unfold hasB
  have h0 : (0 : Int) ≤ k := by omega
  have h1 : (k : Int) < 32 := by omega
  simp [h1]

set_option maxHeartbeats 1000000 in
theorem rlist_any (m : Nat) (w : World) : Calls Tryd.prog 19 #[.int .u32 m] w (Gives (bl 32 m) w) := by
  obtain ⟨i0, hi, hz0, hz1, hz2⟩ := info_parts info3
  go_enter Tryd.func19, Tryd.ntmps19
  go_wp2
  go_loopw [3, 4] (fun v i wr => ∃ k : Nat, k ≤ 32 ∧ i = .int .i64 k ∧ wr.ownsRow w.heap.size 3 1 v (bl k m).length ((bl k m).map (Value.int .i64)) ∧ Below w.heap.size w wr) (fun _ i _ => 32 - (intOf i).toNat)
  case atStart => exact ⟨0, by omega, rfl, World.ownsRow_nil _ _ _ _, Below.refl _ _⟩
  case round =>
    obtain ⟨k, hk, rfl, hown, hbel⟩ := hrel
    by_cases hlt : k < 32
    · have hh := fun w => rhas_any m k w
      rw [hasB_bit m k hlt] at hh
      have hs := bl_succ k m
      have hle := bl_length_le k m
      generalize bl k m = l at *
      have HO := Lib.hid hown; clear hown
      have HB := Lib.hid hbel; clear hbel
      cases hx : m.testBit k with
      | false =>
        rw [hx] at hs
        have hs2 : bl (k + 1) m = l := by rw [hs]; simp
        have HS := Lib.hid hs2; clear hs hs2
        go_wp2_with fail
        refine (hh _).mono ?_
        rintro e w1 ⟨rfl, rfl⟩
        rw [hx]
        go_wp2_with fail
        go_roundw
        case rel => exact ⟨k + 1, by omega, by go_num, by rw [HS.out]; exact HO.out, HB.out⟩
        case measure => simp [intOf]; omega
      | true =>
        rw [hx] at hs
        have hs2 : bl (k + 1) m = l ++ [(k : Int)] := by rw [hs]; simp
        have HS := Lib.hid hs2; clear hs hs2
        go_wp2_with fail
        refine (hh _).mono ?_
        rintro e w1 ⟨rfl, rfl⟩
        rw [hx]
        go_wp2_with (at_builtin; refine wpList_append_own _ rfl _ _ 30 rfl w.heap.size 3 i0 (.int .i64 0) 1 8 Tryd.underlying30 hi hz0 hz1 hz2 rfl (by decide) _ _ _ rfl (HO.out.alloc _) ⟨w1.heap.size, 0, none⟩ 1 1 [.int .i64 (k : Int)] rfl rfl ?c1 ?c2 ?c3 ?c4 ?c5 ?_)
        case c1 => exact cell_new1 w1 _ 3
        case c2 => intro u hu; simp at hu; subst hu; rfl
        case c3 => unfold maxLen; omega
        case c4 => omega
        case c5 => simp; have := HB.out.size; omega
        intro v' w2 hown' hgrow _
        have hb' := (HB.out.alloc HB.out.size (.cells #[.int .i64 (k : Int)] 3)).grown hgrow (by simp; have := HB.out.size; omega) (own_low HO.out)
        rw [← List.map_singleton (f := Value.int .i64), ← List.map_append, ← HS.out, show l.length + 1 = (bl (k + 1) m).length from by rw [HS.out]; simp] at hown'
        have HO' := Lib.hid hown'; clear hown'
        have HB' := Lib.hid hb'; clear hb'
        clear hgrow
        go_wp2
        go_roundw
        case rel => exact ⟨k + 1, by omega, by go_num, HO'.out, HB'.out⟩
        case measure => simp [intOf]; omega
    · obtain rfl : k = 32 := by omega
      have hle := bl_length_le 32 m
      have hg := own_gives (l := bl 32 m) (by unfold maxLen; omega) hown hbel
      have HG := Lib.hid hg; clear hg hown hbel
      go_wp2
      go_ret
      exact HG.out

set_option maxHeartbeats 400000 in
theorem rcount_any (m : Nat) (w : World) : Calls Tryd.prog 16 #[.int .u32 m] w fun e w' => e = .returned (.int .i64 (pc 32 m)) ∧ Below w.heap.size w w' := by
  have hle := bl_length_le 32 m
  have hl := fun w => rlist_any m w
  rw [show pc 32 m = (bl 32 m).length from rfl]
  generalize bl 32 m = l at *
  go_enter Tryd.func16, Tryd.ntmps16
  go_wp2_with fail
  refine (hl _).mono ?_
  rintro e w1 ⟨A, c, rfl, hm, hc, hb⟩
  clear hc hm
  go_wp2
  go_ret
  exact ⟨rfl, hb⟩

set_option maxHeartbeats 400000 in
theorem count_any (m : Nat) (w : World) (hm : m < 4294967296) : Calls Tryd.prog 15 #[.int .u32 m] w fun e w' => e = .returned (.int .i64 (pc 32 m)) ∧ ∃ n, w' = w.drewN n := by
  have hle := pc_le 32 m
  have ho := ones_any m w hm
  generalize pc 32 m = n at *
  go_enter Tryd.func15, Tryd.ntmps15
  go_wp2_with fail
  refine ho.mono ?_
  rintro e w1 ⟨rfl, n1, rfl⟩
  go_wp2
  go_ret
  exact ⟨rfl, _, rfl⟩

theorem make_ints (n : Nat) (h : n ≤ 32) (w : World) :
    (Instr.makeSlice 30 (.int .i64 0) (.int .i64 (n : Int))).run Tryd.prog w = .ok (.slice (some ⟨w.heap.size, 0, none⟩) 0 n) (w.alloc (.cells (Array.replicate n (.int .i64 0)) 3)) := by
  obtain ⟨i0, hi, hz0, hz1, hz2⟩ := info_parts info3
  have := run_make (P := Tryd.prog) w 30 3 i0 (.int .i64 0) Tryd.underlying30 hi hz0 .i64 .i64 0 n (by omega) (by omega) (by rw [hz2]; omega) (by omega)
  rw [this]
  simp only [Int.toNat_natCast, hz1, Nat.mul_one, madeCells]
  congr 4
  apply Array.ext
  · simp
  · intro j h1 h2
    simp [Value.cells, Nat.mod_one]

theorem own_made (n : Nat) (h : n ≤ 32) (w : World) (base : Nat) (hb : base ≤ w.heap.size) :
    (w.alloc (.cells (Array.replicate n (.int .i64 0)) 3)).ownsRow base 3 1 (.slice (some ⟨w.heap.size, 0, none⟩) 0 n) (bl 0 0).length ((bl 0 0).map (Value.int .i64)) :=
  ⟨rfl, Or.inr ⟨w.heap.size, n, _, rfl, hb, heap_alloc_new w _, Nat.zero_le _, by unfold maxLen; omega, by simp, by simp [bl]⟩⟩

set_option maxHeartbeats 1000000 in
theorem list_any (m : Nat) (w : World) (hm : m < 4294967296) (hT : Tab w) : Calls Tryd.prog 18 #[.int .u32 m] w (Gives (bl 32 m) w) := by
  obtain ⟨i0, hi, hz0, hz1, hz2⟩ := info_parts info3
  have hle := pc_le 32 m
  have hcount := count_any m w hm
  generalize pc 32 m = n at *
  have hmk := make_ints n hle
  have hpos := hT.size
  have HT := Lib.hid hT; clear hT
  go_enter Tryd.func18, Tryd.ntmps18
  go_wp2_with fail
  refine hcount.mono ?_
  rintro e w1 ⟨rfl, n1, rfl⟩
  go_wp2_with fail
  have hb0 : Below w.heap.size w ((w.drewN n1).alloc (.cells (Array.replicate n (.int .i64 0)) 3)) := (below_drewN (Below.refl _ _) n1).alloc (Nat.le_refl _) _
  have hb0' := Lib.hid hb0
  refine (next_any m 0 _ hm (HT.out.below hb0 hpos)).mono ?_
  unfold nxE
  rintro e w1 ⟨rfl, rfl⟩
  clear hb0
  go_wp2_with fail
  go_loopw [3, 4, 5] (fun v i ok wr => ∃ j : Nat, j ≤ 32 ∧ ok = .bool (nx m j).isSome ∧ i = .int .i64 (((nx m j).getD 0 : Nat) : Int) ∧ wr.ownsRow w.heap.size 3 1 v (bl j m).length ((bl j m).map (Value.int .i64)) ∧ Below w.heap.size w wr)
    (fun _ i ok _ => match ok with | .bool true => 33 - (intOf i).toNat | _ => 0)
  case atStart => exact ⟨0, by omega, rfl, rfl, own_made n hle _ _ (Nat.le_refl _), hb0'.out⟩
  case round =>
    obtain ⟨j, hj, rfl, rfl, hown, hbel⟩ := hrel
    cases hx : nx m (j : Int) with
    | none =>
      have hl := bl_last hj hx
      rw [← hl] at hown
      have hle2 := bl_length_le 32 m
      have hg := own_gives (l := bl 32 m) (by unfold maxLen; omega) hown hbel
      have HG := Lib.hid hg; clear hg hown hbel
      clear hl
      go_wp2
      go_ret
      exact HG.out
    | some x =>
      obtain ⟨q1, q2, q3⟩ := bl_next hx
      have hle2 := bl_length_le j m
      generalize bl j m = l at *
      have HO := Lib.hid hown; clear hown
      have HB := Lib.hid hbel; clear hbel
      have HS := Lib.hid q3; clear q3
      clear hx
      simp only [Option.getD_some, Option.isSome_some]
      go_wp2_with (at_builtin; refine wpList_append_own _ rfl _ _ 30 rfl w.heap.size 3 i0 (.int .i64 0) 1 8 Tryd.underlying30 hi hz0 hz1 hz2 rfl (by decide) _ _ _ rfl (HO.out.alloc _) ⟨wr.heap.size, 0, none⟩ 1 1 [.int .i64 (x : Int)] rfl rfl ?c1 ?c2 ?c3 ?c4 ?c5 ?_)
      case c1 => exact cell_new1 wr _ 3
      case c2 => intro u hu; simp at hu; subst hu; rfl
      case c3 => unfold maxLen; omega
      case c4 => omega
      case c5 => simp; have := HB.out.size; omega
      intro v' w2 hown' hgrow _
      have hb' := (HB.out.alloc HB.out.size (.cells #[.int .i64 (x : Int)] 3)).grown hgrow (by simp; have := HB.out.size; omega) (own_low HO.out)
      rw [← List.map_singleton (f := Value.int .i64), ← List.map_append, ← HS.out, show l.length + 1 = (bl (x + 1) m).length from by rw [HS.out]; simp] at hown'
      have HO' := Lib.hid hown'; clear hown'
      have HB' := Lib.hid hb'; clear hb'
      clear hgrow
      go_wp2_with fail
      have hT2 := HT.out.below HB'.out hpos
      refine (next_any m ((x : Int) + 1) _ hm hT2).mono ?_
      clear hT2
      have hcast : (x : Int) + 1 = ((x + 1 : Nat) : Int) := by omega
      have HC := Lib.hid hcast; clear hcast
      have hmeas : (match Value.bool (nx m ((x : Int) + 1)).isSome with | .bool true => 33 - (intOf (.int .i64 (((nx m ((x : Int) + 1)).getD 0 : Nat) : Int))).toNat | _ => 0) < 33 - x := by
        cases hy : nx m ((x : Int) + 1) with
        | none => simp; omega
        | some y =>
          rw [HC.out] at hy
          obtain ⟨r1, r2, _⟩ := bl_next hy
          show 33 - ((y : Int)).toNat < 33 - x
          rw [Int.toNat_natCast]
          exact Nat.sub_lt_sub_left (by omega) (by omega)
      have HM := Lib.hid hmeas; clear hmeas
      unfold nxE
      rintro e w1 ⟨rfl, rfl⟩
      go_wp2_with fail
      go_roundw
      case rel => exact ⟨x + 1, by omega, by rw [← HC.out], by rw [← HC.out], HO'.out, HB'.out⟩
      case measure => simpa [intOf] using HM.out
end Go.Proofs.YtfimmodiainlaaaDoor
