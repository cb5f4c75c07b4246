/- Lineage: whether one stands in another one's line, whether two are apart, what is common to them, on both sides. No other condition but that the list lies in memory. -/
import Derived.Test.YtpipindifeklbaaLE
namespace Go.Proofs.Ytpipindifeklbaa
open Go.RowKit

theorem lineF_len (l : List Mnt) : ∀ (f : Nat) (out : List Int) (g : Int), (lineF l f out g).length ≤ out.length + f
  | 0, _, _ => Nat.le_refl _
  | f + 1, out, g => by
    unfold lineF
    by_cases e : g = 0 ∨ g ∈ out
    · rw [if_pos e]; omega
    · rw [if_neg e]
      have := lineF_len l f (out ++ [g]) (par l g)
      simp at this
      omega
theorem line_len (l : List Mnt) (g : Int) : (lineL l g).length ≤ l.length + 2 := by
  have := lineF_len l (l.length + 2) [] g
  simpa [lineL] using this

theorem line_u {l : List Mnt} (hu : Wide l) {g : Int} (hg : U64 g) : ∀ x ∈ lineL l g, U64 x := by
  have key : ∀ (f : Nat) (out : List Int) (y : Int), U64 y → (∀ x ∈ out, U64 x) → ∀ x ∈ lineF l f out y, U64 x := by
    intro f
    induction f with
    | zero => intro out y _ h; exact h
    | succ f ih =>
      intro out y hy h
      unfold lineF
      by_cases e : y = 0 ∨ y ∈ out
      · rw [if_pos e]; exact h
      · rw [if_neg e]
        refine ih _ _ (u64_par hu y) fun x hx => ?_
        rcases List.mem_append.1 hx with hx | hx
        · exact h x hx
        · rw [List.mem_singleton.1 hx]; exact hy
  exact key _ _ _ hg (by simp)

section
variable (A : Option Addr) (c : Nat) (l : List Mnt) (w : World) (h : Ms w w.heap.size A l) (hu : Wide l) (hm : l.length ≤ 1000)
include h hu hm

set_option maxHeartbeats 1000000 in
theorem in_any (old g : Int) (hg : U64 g) :
    Calls Try.prog 12 #[.slice A l.length c, .int .u64 old, .int .u64 g] w fun e w' => e = .returned (.bool (decide (old ∈ lineL l g))) ∧ Below w.heap.size w w' := by
  have hl := line_any A c l g w h hu hg hm
  have hn := line_len l g
  clear h
  generalize lineL l g = L at *
  go_enter Try.func12, Try.ntmps12
  go_wp2_with fail
  refine hl.mono ?_
  rintro e w1 ⟨B, c1, rfl, hes, _, hb⟩
  have hc := conn_any B c1 L old w1 _ hes (by unfold maxLen; omega)
  have HB := Lib.hid hb; clear hb hes hl
  go_wp2_with fail
  refine hc.mono ?_
  rintro e w2 ⟨rfl, rfl⟩
  clear hc
  go_wp2_with fail
  go_ret
  exact ⟨rfl, HB.out⟩

set_option maxHeartbeats 1000000 in
theorem rin_any (old g : Int) (hg : U64 g) :
    Calls Try.prog 13 #[.slice A l.length c, .int .u64 old, .int .u64 g] w fun e w' => e = .returned (.bool (decide (old ∈ lineL l g))) ∧ Below w.heap.size w w' := by
  have hl := rline_any A c l g w h hu hg hm
  have hn := line_len l g
  clear h
  generalize lineL l g = L at *
  go_enter Try.func13, Try.ntmps13
  go_wp2_with fail
  refine hl.mono ?_
  rintro e w1 ⟨B, c1, rfl, hes, _, hb⟩
  have hc := rhasn_any B c1 L old w1 _ hes (by unfold maxLen; omega)
  have HB := Lib.hid hb; clear hb hes hl
  go_wp2_with fail
  refine hc.mono ?_
  rintro e w2 ⟨rfl, rfl⟩
  clear hc
  go_wp2_with fail
  go_ret
  exact ⟨rfl, HB.out⟩

set_option maxHeartbeats 1000000 in
theorem apart_any (a b : Int) (ha : U64 a) (hb : U64 b) :
    Calls Try.prog 14 #[.slice A l.length c, .int .u64 a, .int .u64 b] w fun e w' => e = .returned (.bool (apartB l a b)) ∧ Below w.heap.size w w' := by
  have h1 := in_any A c l w h hu hm a b hb
  have h2 := fun w2 (q : Below w.heap.size w w2) => in_any A c l w2 (h.up q) hu hm b a ha
  unfold apartB
  generalize decide (a ∈ lineL l b) = x at *
  generalize decide (b ∈ lineL l a) = y at *
  clear h ha hb
  go_enter Try.func14, Try.ntmps14
  go_wp2_with fail
  refine h1.mono ?_
  rintro e w1 ⟨rfl, hb1⟩
  clear h1
  have hc := h2 w1 hb1
  have HB := Lib.hid hb1; clear hb1 h2
  cases x with
  | true =>
    clear hc
    go_wp2_with fail
    go_ret
    exact ⟨rfl, HB.out⟩
  | false =>
    go_wp2_with fail
    refine hc.mono ?_
    rintro e w2 ⟨rfl, hb2⟩
    clear hc
    have HB2 := Lib.hid hb2; clear hb2
    go_wp2_with fail
    go_ret
    exact ⟨ret_bool (by simp), ext HB.out HB2.out⟩

set_option maxHeartbeats 1000000 in
theorem rapart_any (a b : Int) (ha : U64 a) (hb : U64 b) :
    Calls Try.prog 15 #[.slice A l.length c, .int .u64 a, .int .u64 b] w fun e w' => e = .returned (.bool (apartB l a b)) ∧ Below w.heap.size w w' := by
  have h1 := rin_any A c l w h hu hm a b hb
  have h2 := fun w2 (q : Below w.heap.size w w2) => rin_any A c l w2 (h.up q) hu hm b a ha
  unfold apartB
  generalize decide (a ∈ lineL l b) = x at *
  generalize decide (b ∈ lineL l a) = y at *
  clear h ha hb
  go_enter Try.func15, Try.ntmps15
  go_wp2_with fail
  refine h1.mono ?_
  rintro e w1 ⟨rfl, hb1⟩
  clear h1
  have hc := h2 w1 hb1
  have HB := Lib.hid hb1; clear hb1 h2
  cases x with
  | true =>
    clear hc
    go_wp2_with fail
    go_ret
    exact ⟨rfl, HB.out⟩
  | false =>
    go_wp2_with fail
    refine hc.mono ?_
    rintro e w2 ⟨rfl, hb2⟩
    clear hc
    have HB2 := Lib.hid hb2; clear hb2
    go_wp2_with fail
    go_ret
    exact ⟨ret_bool (by simp), ext HB.out HB2.out⟩
end

theorem cell_map {w : World} {b : Nat} {es : Array MapEntry} {t : Nat} (h : w.heap[b]? = some (.map es t)) {a : Addr} {v : Value} (hc : w.cell? a = some v) : a.block ≠ b := by
  intro e
  unfold World.cell? at hc
  rw [e, h] at hc
  simp at hc

theorem MB.block {w : World} {b n : Nat} {f : Int → Bool} (h : MB w b n f) : ∃ es t, w.heap[b]? = some (.map es t) := by
  obtain ⟨D, ⟨es, t, hb, _⟩, _⟩ := h
  exact ⟨es, t, hb⟩

/-- A list stays where a map is written. -/
theorem Es.by_map {α : Type} {enc : α → Value} {w w' : World} {b n : Nat} {f : Int → Bool} {A : Option Addr} {l : List α} (h : Es enc w w.heap.size A l) (hm : MB w b n f) (hg : w.grownBy w' (some b)) : Es enc w' w'.heap.size A l := by
  obtain ⟨es, t, hb⟩ := hm.block
  intro j x hj
  obtain ⟨a, ha, hlt, hc⟩ := h j x hj
  have hne := cell_map hb hc
  refine ⟨a, ha, Nat.lt_of_lt_of_le hlt hg.size, ?_⟩
  rw [World.cell?_of_block (a := a.add j) (hg.block _ (by rw [add_block]; exact hlt) (by intro q; injection q with q; exact hne q))]
  exact hc
end Go.Proofs.Ytpipindifeklbaa
