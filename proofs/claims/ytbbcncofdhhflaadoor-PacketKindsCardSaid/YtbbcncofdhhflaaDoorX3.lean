/- A byte as flags, and whether two lists are alike: what these functions answer, for every argument within its type; no other condition. -/
import Derived.Test.YtbbcncofdhhflaaDoorX2
namespace Go.Proofs.YtbbcncofdhhflaaDoor
open Go.RowKit

theorem info4 : (Tryd.prog.info? 4).map (fun i => (i.zero, i.size, i.bytes)) = some (some (.bool false), 1, 1) := by kernel_rfl

set_option maxRecDepth 100000 in
theorem make_bools (n : Nat) (h : n ≤ 8) (w : World) :
    (Instr.makeSlice 70 (.int .i64 (n : Int)) (.int .i64 (n : Int))).run Tryd.prog w = .ok (.slice (some ⟨w.heap.size, 0, none⟩) n n) (w.alloc (.cells (Array.replicate n (.bool false)) 4)) := by
  obtain ⟨i0, hi, hz0, hz1, hz2⟩ := info_parts info4
  have := run_make (P := Tryd.prog) w 70 4 i0 (.bool false) Tryd.underlying70 hi hz0 .i64 .i64 n n (by omega) (by omega) (by rw [hz2]; omega) (by omega)
  rw [this]
  simp only [Int.toNat_natCast, hz1, Nat.mul_one, madeCells]
  congr 4
  apply Array.ext
  · simp
  · intro j h1 h2
    simp [Value.cells, Nat.mod_one]

/-- A block's cells, none frozen. -/
def Row (w : World) (g : Nat) (l : List Bool) : Prop := w.heap[g]? = some (.cells (l.map Value.bool).toArray 4 (0, 0))

theorem Row.cell {w : World} {g : Nat} {l : List Bool} (h : Row w g l) (k : Nat) (b : Bool) (hb : l[k]? = some b) : w.cell? ⟨g, k, none⟩ = some (.bool b) := by
  unfold Row at h
  simp [World.cell?, h, hb]
theorem Row.free {w : World} {g : Nat} {l : List Bool} (h : Row w g l) (k : Nat) : w.frozen? ⟨g, k, none⟩ = false := by
  unfold Row at h
  simp [World.frozen?, h]
theorem Row.store {w : World} {g : Nat} {l : List Bool} (h : Row w g l) (k : Nat) (b : Bool) : Row (w.setCell ⟨g, k, none⟩ (.bool b)) g (l.set k b) := by
  unfold Row at h ⊢
  simp [World.setCell, Array.getElem?_modify, h]
theorem Row.bs {w : World} {g : Nat} {l : List Bool} (h : Row w g l) (hg : g < w.heap.size) : Bs w w.heap.size (some ⟨g, 0, none⟩) l := by
  intro k b hb
  refine ⟨_, rfl, hg, ?_⟩
  have : (⟨g, 0, none⟩ : Addr).add k = ⟨g, k, none⟩ := by unfold Addr.add; split <;> simp_all
  rw [this]
  exact h.cell k b hb

theorem ret_slb {A : Option Addr} {n m c : Nat} {x : Bool} (h : n = m) : Ending.returned (.tuple #[.slice A n c, .bool x]) = .returned (.tuple #[.slice A m c, .bool x]) := by rw [h]

def GivesBools (l : List Bool) (w : World) (e : Ending) (w' : World) : Prop :=
  ∃ A c, e = .returned (.tuple #[.slice A l.length c, .bool true]) ∧ l.length ≤ c ∧ c ≤ maxLen ∧ Bs w' w'.heap.size A l ∧ Below w.heap.size w w'

theorem half_at (k n b : Nat) (h : k < n) : (unfl k b ++ List.replicate (n - k) false)[k]? = some false := by
  rw [List.getElem?_append_right (by rw [unfl_length]; exact Nat.le_refl _), unfl_length, Nat.sub_self, List.getElem?_replicate, if_pos (by omega)]

theorem half_set (k n b : Nat) (h : k < n) : (unfl k b ++ List.replicate (n - k) false).set k (decide (b / 2 ^ k % 2 = 1)) = unfl (k + 1) b ++ List.replicate (n - (k + 1)) false := by
  obtain ⟨m, hm⟩ : ∃ m, n - k = m + 1 := ⟨n - k - 1, by omega⟩
  rw [hm, List.replicate_succ, List.set_append_right _ _ (by rw [unfl_length]; exact Nat.le_refl _), unfl_length, Nat.sub_self, List.set_cons_zero, unfl_snoc, List.append_assoc, show n - (k + 1) = m by omega]
  rfl

theorem bit_of (b : Int) (k : Nat) (h0 : 0 ≤ b) (h1 : b < 256) : (bits .and .u8 (b / 2 ^ k) 1 == 1) = decide (b.toNat / 2 ^ k % 2 = 1) := by
  obtain ⟨m, rfl⟩ := Int.eq_ofNat_of_zero_le h0
  have e : ((m : Int) / 2 ^ k) = ((m / 2 ^ k : Nat) : Int) := by
    have : ((2 : Int) ^ k) = ((2 ^ k : Nat) : Int) := by simp
    rw [this]; rfl
  have hle : m / 2 ^ k ≤ m := Nat.div_le_self _ _
  rw [e, show (1 : Int) = ((1 : Nat) : Int) from rfl, u8_and_nat _ _ (by omega) (by omega), nat_mask1, Int.toNat_natCast]
  by_cases h : m / 2 ^ k % 2 = 1
  · simp [h]
  · have : m / 2 ^ k % 2 = 0 := by omega
    simp [this]

set_option maxHeartbeats 400000 in
theorem unflag_yes (b : Int) (n : Nat) (w : World) (h0 : 0 ≤ b) (h1 : b < 256) (hn : n ≤ 8) (hb : b.toNat < 2 ^ n) :
    Calls Tryd.prog 61 #[.int .u8 b, .int .i64 n] w (GivesBools (unfl n b.toNat) w) := by
  have hmk := make_bools n hn
  have hz : b / 2 ^ n = 0 := Int.ediv_eq_zero_of_lt h0 (by
    have : ((2 : Int) ^ n) = ((2 ^ n : Nat) : Int) := by simp
    rw [this]; omega)
  have hz2 : (b / 2 ^ n != 0) = false := by rw [bne_eq_false_iff_eq]; exact hz
  go_enter Tryd.func61, Tryd.ntmps61
  go_wp2
  go_loopw [23] (fun i wr => ∃ k : Nat, k ≤ n ∧ i = .int .i64 k ∧ Row wr w.heap.size (unfl k b.toNat ++ List.replicate (n - k) false) ∧ Below w.heap.size w wr) (fun i _ => n - (intOf i).toNat)
  case atStart => exact ⟨0, by omega, rfl, (heap_alloc_new w _).trans (by simp [unfl]), (Below.refl _ _).alloc (Nat.le_refl _) _⟩
  case round =>
    obtain ⟨k, hk, rfl, hrow, hbel⟩ := hrel
    by_cases hlt : k < n
    · have hc := hrow.cell k false (half_at k n b.toNat hlt)
      have hf := hrow.free k
      have HR := Lib.hid hrow; clear hrow
      go_wp2
      go_roundw
      case rel =>
        have hs := HR.out.store k (decide (b.toNat / 2 ^ k % 2 = 1))
        rw [half_set k n _ hlt] at hs
        exact ⟨k + 1, by omega, by go_num, by rw [bit_of b k h0 h1]; exact hs, hbel.setCell (Nat.le_refl _) _⟩
      case measure => simp [intOf]; omega
    · obtain rfl : k = n := by omega
      have hsz : w.heap.size < wr.heap.size := by
        rcases Nat.lt_or_ge w.heap.size wr.heap.size with h | h
        · exact h
        · unfold Row at hrow; rw [Array.getElem?_eq_none h] at hrow; cases hrow
      rw [Nat.sub_self, List.replicate_zero, List.append_nil] at hrow
      have HR := Lib.hid hrow; clear hrow
      go_wp2
      go_ret2
      exact ⟨some ⟨w.heap.size, 0, none⟩, k, ret_slb (unfl_length _ _).symm, by rw [unfl_length]; exact Nat.le_refl _, by unfold maxLen; omega, HR.out.bs hsz, hbel⟩

set_option maxHeartbeats 400000 in
theorem unflag_low (b n : Int) (w : World) (h : n < 0) :
    Calls Tryd.prog 61 #[.int .u8 b, .int .i64 n] w fun e w' => e = .returned (.tuple #[.slice none 0 0, .bool false]) ∧ w' = w := by
  go_enter Tryd.func61, Tryd.ntmps61
  go_wp2
  go_ret2
  exact ⟨rfl, rfl⟩
set_option maxHeartbeats 400000 in
theorem unflag_high (b n : Int) (w : World) (h : 8 < n) :
    Calls Tryd.prog 61 #[.int .u8 b, .int .i64 n] w fun e w' => e = .returned (.tuple #[.slice none 0 0, .bool false]) ∧ w' = w := by
  have h' : ¬ n < 0 := by omega
  go_enter Tryd.func61, Tryd.ntmps61
  go_wp2
  go_ret2
  exact ⟨rfl, rfl⟩
set_option maxHeartbeats 400000 in
theorem unflag_more (b : Int) (n : Nat) (w : World) (h0 : 0 ≤ b) (h1 : b < 256) (hn : n ≤ 8) (hb : 2 ^ n ≤ b.toNat) :
    Calls Tryd.prog 61 #[.int .u8 b, .int .i64 n] w fun e w' => e = .returned (.tuple #[.slice none 0 0, .bool false]) ∧ w' = w := by
  have hz2 : (b / 2 ^ n != 0) = true := by
    rw [bne_iff_ne]
    obtain ⟨m, rfl⟩ := Int.eq_ofNat_of_zero_le h0
    have e : ((m : Int) / 2 ^ n) = ((m / 2 ^ n : Nat) : Int) := by
      have : ((2 : Int) ^ n) = ((2 ^ n : Nat) : Int) := by simp
      rw [this]; rfl
    have : 0 < m / 2 ^ n := Nat.div_pos (by simpa using hb) (Nat.pow_pos (by decide))
    rw [e]; omega
  clear hb
  go_enter Tryd.func61, Tryd.ntmps61
  go_wp2
  go_ret2
  exact ⟨rfl, rfl⟩

set_option maxHeartbeats 400000 in
theorem runflag_low (b n : Int) (w : World) (h : n < 0) :
    Calls Tryd.prog 47 #[.int .u8 b, .int .i64 n] w fun e w' => e = .returned (.tuple #[.slice none 0 0, .bool false]) ∧ w' = w := by
  go_enter Tryd.func47, Tryd.ntmps47
  go_wp2
  go_ret2
  exact ⟨rfl, rfl⟩
set_option maxHeartbeats 400000 in
theorem runflag_high (b n : Int) (w : World) (h : 8 < n) :
    Calls Tryd.prog 47 #[.int .u8 b, .int .i64 n] w fun e w' => e = .returned (.tuple #[.slice none 0 0, .bool false]) ∧ w' = w := by
  have h' : ¬ n < 0 := by omega
  go_enter Tryd.func47, Tryd.ntmps47
  go_wp2
  go_ret2
  exact ⟨rfl, rfl⟩

/-- The law's own version: what it hands back where the bits above are nought; else none. -/
def GivesOr (yes : Prop) (l : List Bool) (w : World) (e : Ending) (w' : World) : Prop :=
  (yes ∧ GivesBools l w e w') ∨ (¬ yes ∧ e = .returned (.tuple #[.slice none 0 0, .bool false]) ∧ Below w.heap.size w w')

theorem gives_own {w wr : World} {v : Value} {k : Nat} {l : List Bool} (hl : l.length = k) (h : wr.ownsRow w.heap.size 4 1 v k (l.map Value.bool)) (hb : Below w.heap.size w wr) :
    GivesBools l w (.returned (.tuple #[v, .bool true])) wr := by
  subst hl
  rcases h.2 with ⟨rfl, h0⟩ | ⟨g, cap, cur, rfl, hbg, hh, hn, hm, _, _⟩
  · refine ⟨none, 0, ret_slb h0.symm, by omega, by unfold maxLen; omega, ?_, hb⟩
    intro k b hk
    have : l = [] := List.eq_nil_of_length_eq_zero h0
    subst this
    simp at hk
  · refine ⟨some ⟨g, 0, none⟩, cap, rfl, hn, hm, ?_, hb⟩
    intro k b hk
    have hlt : g < wr.heap.size := by
      rcases Nat.lt_or_ge g wr.heap.size with h | h
      · exact h
      · rw [Array.getElem?_eq_none h] at hh; cases hh
    exact ⟨_, rfl, hlt, h.cells (g := g) rfl k (.bool b) (by simp [hk])⟩

set_option maxRecDepth 100000 in
set_option maxHeartbeats 1000000 in
theorem runflag_any (b : Int) (n : Nat) (w : World) (h0 : 0 ≤ b) (h1 : b < 256) (hn : n ≤ 8) :
    Calls Tryd.prog 47 #[.int .u8 b, .int .i64 n] w (GivesOr (b.toNat < 2 ^ n) (unfl n b.toNat) w) := by
  obtain ⟨i0, hi, hz0, hz1, hz2⟩ := info_parts info4
  go_enter Tryd.func47, Tryd.ntmps47
  go_wp2
  go_loopw [0, 6, 7] (fun x v i wr => ∃ k : Nat, k ≤ n ∧ i = .int .i64 k ∧ x = .int .u8 ((b.toNat / 2 ^ k : Nat) : Int) ∧ wr.ownsRow w.heap.size 4 1 v k ((unfl k b.toNat).map Value.bool) ∧ Below w.heap.size w wr) (fun _ _ i _ => n - (intOf i).toNat)
  case atStart => exact ⟨0, by omega, rfl, by simp; omega, World.ownsRow_nil _ _ _ _, Below.refl _ _⟩
  case round =>
    obtain ⟨k, hk, rfl, rfl, hown, hbel⟩ := hrel
    by_cases hlt : k < n
    · have hq : b.toNat / 2 ^ k < 256 := by have : b.toNat / 2 ^ k ≤ b.toNat := Nat.div_le_self _ _; omega
      have hus := unfl_snoc k b.toNat
      have hq2 : b.toNat / 2 ^ (k + 1) = b.toNat / 2 ^ k / 2 := by rw [Nat.pow_succ, ← Nat.div_div_eq_div_mul]
      have HU := Lib.hid hus; clear hus
      have HQ := Lib.hid hq2; clear hq2
      generalize hm : b.toNat / 2 ^ k = m at *
      have HM := Lib.hid hm; clear hm
      have hlen : (unfl k b.toNat).length ≤ 8 := by rw [unfl_length]; omega
      have HO := Lib.hid hown; clear hown
      have HB := Lib.hid hbel; clear hbel
      go_wp2_with (at_builtin; refine wpList_append_own _ rfl _ _ 70 rfl w.heap.size 4 i0 (.bool false) 1 1 Tryd.underlying70 hi hz0 hz1 hz2 rfl (by decide) _ _ _ rfl (HO.out.alloc _) ⟨wr.heap.size, 0, none⟩ 1 1 [.bool ((m : Int) % 2 == 1)] rfl rfl ?c1 ?c2 ?c3 ?c4 ?c5 ?_)
      case c1 => exact cell_new1 wr _ 4
      case c2 => intro u hu; simp at hu; subst hu; rfl
      case c3 => unfold maxLen; omega
      case c4 => omega
      case c5 => simp; have := HB.out.size; omega
      intro v' w1 hown' hgrow _
      have hb' := (HB.out.alloc HB.out.size (.cells #[.bool ((m : Int) % 2 == 1)] 4)).grown hgrow (by simp; have := HB.out.size; omega) (own_low HO.out)
      rw [bit_mod, ← List.map_singleton (f := Value.bool), ← List.map_append, ← HU.out] at hown'
      have HO' := Lib.hid hown'; clear hown'
      have HB' := Lib.hid hb'; clear hb'
      clear hgrow
      go_wp2
      go_roundw
      case rel => exact ⟨k + 1, by omega, by go_num, by rw [HQ.out]; go_num, HO'.out, HB'.out⟩
      case measure => simp [intOf]; omega
    · obtain rfl : k = n := by omega
      have HO := Lib.hid hown; clear hown
      have HB := Lib.hid hbel; clear hbel
      by_cases hz : b.toNat < 2 ^ k
      · have he : b.toNat / 2 ^ k = 0 := Nat.div_eq_of_lt hz
        rw [he]
        have HZ := Lib.hid hz; clear hz
        clear he
        go_wp2
        go_ret2
        refine Or.inl ⟨HZ.out, ?_⟩
        exact gives_own (unfl_length _ _) HO.out HB.out
      · have he : 0 < b.toNat / 2 ^ k := Nat.div_pos (by omega) (Nat.pow_pos (by decide))
        generalize b.toNat / 2 ^ k = m at *
        have HZ := Lib.hid hz; clear hz
        go_wp2
        go_ret2
        exact Or.inr ⟨HZ.out, rfl, HB.out⟩

theorem Bs.below {w w' : World} {B B' : Nat} {A : Option Addr} {l : List Bool} (h : Bs w B A l) (hb : Below B w w') (hB : B ≤ B') : Bs w' B' A l := by
  intro k b hk
  obtain ⟨a, ha, hlt, hc⟩ := h k b hk
  exact ⟨a, ha, by omega, (hb.cell (p := a.add k) (by unfold Addr.add; split <;> simpa using hlt)).trans hc⟩
end Go.Proofs.YtbbcncofdhhflaaDoor
