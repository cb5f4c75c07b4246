/- Masks: lists made, and what counts them: what both sides answer, for every argument within its type; no other condition but that the table of the lowest bits lies as its initialiser lays it. -/
import Derived.Test.YtjdcpcfjekfdeaaM4
namespace Go.Proofs.Ytjdcpcfjekfdeaa
open Go.RowKit

theorem info3 : (Try.prog.info? 3).map (fun i => (i.zero, i.size, i.bytes)) = some (some (.int .i64 0), 1, 8) := by kernel_rfl

/-- It hands back a list of its own, and leaves what was there as it was. -/
def Gives (l : List Int) (w : World) (e : Ending) (w' : World) : Prop :=
  ∃ A c, e = .returned (.slice A l.length c) ∧ l.length ≤ maxLen ∧ Cs .i64 w' w'.heap.size A l ∧ Below w.heap.size w w'

theorem own_cs {base n : Nat} {wr : World} {A : Option Addr} {c : Nat} {k : IntKind} {e : TypeId} {l : List Int} (h : wr.ownsRow base e 1 (.slice A n c) l.length (l.map (Value.int k))) : n = l.length ∧ Cs k wr wr.heap.size A l := by
  rcases h.2 with ⟨hv, h0⟩ | ⟨g, cap, cur, hv, hbg, hh, hn, hm, _, _⟩
  · injection hv with e1 e2 e3
    refine ⟨by omega, ?_⟩
    have : l = [] := List.eq_nil_of_length_eq_zero h0
    subst this
    exact cs_nil _ _ _ _
  · injection hv with e1 e2 e3
    subst e1; subst e2; subst e3
    refine ⟨rfl, ?_⟩
    intro j x hj
    have hlt : g < wr.heap.size := by
      rcases Nat.lt_or_ge g wr.heap.size with h | h
      · exact h
      · rw [Array.getElem?_eq_none h] at hh; cases hh
    exact ⟨_, rfl, hlt, h.cells (g := g) rfl j (.int k x) (by simp [hj])⟩

theorem own_gives {w wr : World} {v : Value} {l : List Int} (hl : l.length ≤ maxLen) (h : wr.ownsRow w.heap.size 3 1 v l.length (l.map (Value.int .i64))) (hb : Below w.heap.size w wr) : Gives l w (.returned v) wr := by
  have h' := h
  rcases h.2 with ⟨rfl, h0⟩ | ⟨g, cap, cur, rfl, _⟩
  · exact ⟨none, 0, ret_sl h0.symm, hl, (own_cs h').2, hb⟩
  · exact ⟨some ⟨g, 0, none⟩, cap, rfl, hl, (own_cs h').2, hb⟩

theorem hasB_bit (m k : Nat) (hk : k < 32) : hasB m (k : Int) = m.testBit k := by
  unfold hasB
  have h0 : (0 : Int) ≤ k := by omega
  have h1 : (k : Int) < 32 := by omega
  simp [h1]

set_option maxRecDepth 100000 in
set_option maxHeartbeats 1000000 in
theorem rlist_any (m : Nat) (w : World) : Calls Try.prog 37 #[.int .u32 m] w (Gives (bl 32 m) w) := by
  obtain ⟨i0, hi, hz0, hz1, hz2⟩ := info_parts info3
  go_enter Try.func37, Try.ntmps37
  go_wp2
  go_loopw [3, 4] (fun v i wr => ∃ k : Nat, k ≤ 32 ∧ i = .int .i64 k ∧ wr.ownsRow w.heap.size 3 1 v (bl k m).length ((bl k m).map (Value.int .i64)) ∧ Below w.heap.size w wr) (fun _ i _ => 32 - (intOf i).toNat)
  case atStart => exact ⟨0, by omega, rfl, World.ownsRow_nil _ _ _ _, Below.refl _ _⟩
  case round =>
    obtain ⟨k, hk, rfl, hown, hbel⟩ := hrel
    by_cases hlt : k < 32
    · have hh := fun w => rhas_any m k w
      rw [hasB_bit m k hlt] at hh
      have hs := bl_succ k m
      have hle := bl_length_le k m
      generalize bl k m = l at *
      have HO := Lib.hid hown; clear hown
      have HB := Lib.hid hbel; clear hbel
      cases hx : m.testBit k with
      | false =>
        rw [hx] at hs
        have hs2 : bl (k + 1) m = l := by rw [hs]; simp
        have HS := Lib.hid hs2; clear hs hs2
        go_wp2_with fail
        refine (hh _).mono ?_
        rintro e w1 ⟨rfl, rfl⟩
        rw [hx]
        go_wp2_with fail
        go_roundw
        case rel => exact ⟨k + 1, by omega, by go_num, by rw [HS.out]; exact HO.out, HB.out⟩
        case measure => simp [intOf]; omega
      | true =>
        rw [hx] at hs
        have hs2 : bl (k + 1) m = l ++ [(k : Int)] := by rw [hs]; simp
        have HS := Lib.hid hs2; clear hs hs2
        go_wp2_with fail
        refine (hh _).mono ?_
        rintro e w1 ⟨rfl, rfl⟩
        rw [hx]
        go_wp2_with (at_builtin; refine wpList_append_own _ rfl _ _ 55 rfl w.heap.size 3 i0 (.int .i64 0) 1 8 Try.underlying55 hi hz0 hz1 hz2 rfl (by decide) _ _ _ rfl (HO.out.alloc _) ⟨w1.heap.size, 0, none⟩ 1 1 [.int .i64 (k : Int)] rfl rfl ?c1 ?c2 ?c3 ?c4 ?c5 ?_)
        case c1 => exact cell_new1 w1 _ 3
        case c2 => intro u hu; simp at hu; subst hu; rfl
        case c3 => unfold maxLen; omega
        case c4 => omega
        case c5 => simp; have := HB.out.size; omega
        intro v' w2 hown' hgrow _
        have hb' := (HB.out.alloc HB.out.size (.cells #[.int .i64 (k : Int)] 3)).grown hgrow (by simp; have := HB.out.size; omega) (own_low HO.out)
        rw [← List.map_singleton (f := Value.int .i64), ← List.map_append, ← HS.out, show l.length + 1 = (bl (k + 1) m).length from by rw [HS.out]; simp] at hown'
        have HO' := Lib.hid hown'; clear hown'
        have HB' := Lib.hid hb'; clear hb'
        clear hgrow
        go_wp2
        go_roundw
        case rel => exact ⟨k + 1, by omega, by go_num, HO'.out, HB'.out⟩
        case measure => simp [intOf]; omega
    · obtain rfl : k = 32 := by omega
      have hle := bl_length_le 32 m
      have hg := own_gives (l := bl 32 m) (by unfold maxLen; omega) hown hbel
      have HG := Lib.hid hg; clear hg hown hbel
      go_wp2
      go_ret
      exact HG.out

set_option maxRecDepth 100000 in
theorem make_ints (n : Nat) (h : n ≤ 32) (w : World) :
    (Instr.makeSlice 55 (.int .i64 0) (.int .i64 (n : Int))).run Try.prog w = .ok (.slice (some ⟨w.heap.size, 0, none⟩) 0 n) (w.alloc (.cells (Array.replicate n (.int .i64 0)) 3)) := by
  obtain ⟨i0, hi, hz0, hz1, hz2⟩ := info_parts info3
  have := run_make (P := Try.prog) w 55 3 i0 (.int .i64 0) Try.underlying55 hi hz0 .i64 .i64 0 n (by omega) (by omega) (by rw [hz2]; omega) (by omega)
  rw [this]
  simp only [Int.toNat_natCast, hz1, Nat.mul_one, madeCells]
  congr 4
  apply Array.ext
  · simp
  · intro j h1 h2
    simp [Value.cells, Nat.mod_one]

theorem own_made (n : Nat) (h : n ≤ 32) (w : World) (base : Nat) (hb : base ≤ w.heap.size) :
    (w.alloc (.cells (Array.replicate n (.int .i64 0)) 3)).ownsRow base 3 1 (.slice (some ⟨w.heap.size, 0, none⟩) 0 n) (bl 0 0).length ((bl 0 0).map (Value.int .i64)) :=
  ⟨rfl, Or.inr ⟨w.heap.size, n, _, rfl, hb, heap_alloc_new w _, Nat.zero_le _, by unfold maxLen; omega, by simp, by simp [bl]⟩⟩
end Go.Proofs.Ytjdcpcfjekfdeaa
