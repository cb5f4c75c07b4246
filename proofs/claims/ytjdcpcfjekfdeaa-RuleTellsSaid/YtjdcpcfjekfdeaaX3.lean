/- A byte as flags, and whether two lists are alike: what these functions answer, for every argument within its type; no other condition. -/
import Derived.Test.YtjdcpcfjekfdeaaX2
namespace Go.Proofs.Ytjdcpcfjekfdeaa
open Go.RowKit

theorem info4 : (Try.prog.info? 4).map (fun i => (i.zero, i.size, i.bytes)) = some (some (.bool false), 1, 1) := by kernel_rfl

/-- A block's cells, none frozen. -/
def Row (w : World) (g : Nat) (l : List Bool) : Prop := w.heap[g]? = some (.cells (l.map Value.bool).toArray 4 (0, 0))

theorem Row.cell {w : World} {g : Nat} {l : List Bool} (h : Row w g l) (k : Nat) (b : Bool) (hb : l[k]? = some b) : w.cell? ⟨g, k, none⟩ = some (.bool b) := by
  unfold Row at h
  simp [World.cell?, h, hb]
theorem Row.free {w : World} {g : Nat} {l : List Bool} (h : Row w g l) (k : Nat) : w.frozen? ⟨g, k, none⟩ = false := by
  unfold Row at h
  simp [World.frozen?, h]
theorem Row.store {w : World} {g : Nat} {l : List Bool} (h : Row w g l) (k : Nat) (b : Bool) : Row (w.setCell ⟨g, k, none⟩ (.bool b)) g (l.set k b) := by
  unfold Row at h ⊢
  simp [World.setCell, Array.getElem?_modify, h]
theorem Row.bs {w : World} {g : Nat} {l : List Bool} (h : Row w g l) (hg : g < w.heap.size) : Bs w w.heap.size (some ⟨g, 0, none⟩) l := by
  intro k b hb
  refine ⟨_, rfl, hg, ?_⟩
  have : (⟨g, 0, none⟩ : Addr).add k = ⟨g, k, none⟩ := by unfold Addr.add; split <;> simp_all
  rw [this]
  exact h.cell k b hb

theorem ret_slb {A : Option Addr} {n m c : Nat} {x : Bool} (h : n = m) : Ending.returned (.tuple #[.slice A n c, .bool x]) = .returned (.tuple #[.slice A m c, .bool x]) := by rw [h]

def GivesBools (l : List Bool) (w : World) (e : Ending) (w' : World) : Prop :=
  ∃ A c, e = .returned (.tuple #[.slice A l.length c, .bool true]) ∧ l.length ≤ c ∧ c ≤ maxLen ∧ Bs w' w'.heap.size A l ∧ Below w.heap.size w w'

theorem half_at (k n b : Nat) (h : k < n) : (unfl k b ++ List.replicate (n - k) false)[k]? = some false := by
  rw [List.getElem?_append_right (by rw [unfl_length]; exact Nat.le_refl _), unfl_length, Nat.sub_self, List.getElem?_replicate, if_pos (by omega)]

theorem half_set (k n b : Nat) (h : k < n) : (unfl k b ++ List.replicate (n - k) false).set k (decide (b / 2 ^ k % 2 = 1)) = unfl (k + 1) b ++ List.replicate (n - (k + 1)) false := by
  obtain ⟨m, hm⟩ : ∃ m, n - k = m + 1 := ⟨n - k - 1, by omega⟩
  rw [hm, List.replicate_succ, List.set_append_right _ _ (by rw [unfl_length]; exact Nat.le_refl _), unfl_length, Nat.sub_self, List.set_cons_zero, unfl_snoc, List.append_assoc, show n - (k + 1) = m by omega]
  rfl

theorem bit_of (b : Int) (k : Nat) (h0 : 0 ≤ b) (h1 : b < 256) : (bits .and .u8 (b / 2 ^ k) 1 == 1) = decide (b.toNat / 2 ^ k % 2 = 1) := by
  obtain ⟨m, rfl⟩ := Int.eq_ofNat_of_zero_le h0
  have e : ((m : Int) / 2 ^ k) = ((m / 2 ^ k : Nat) : Int) := by
    have : ((2 : Int) ^ k) = ((2 ^ k : Nat) : Int) := by simp
    rw [this]; rfl
  have hle : m / 2 ^ k ≤ m := Nat.div_le_self _ _
  rw [e, show (1 : Int) = ((1 : Nat) : Int) from rfl, u8_and_nat _ _ (by omega) (by omega), nat_mask1, Int.toNat_natCast]
  by_cases h : m / 2 ^ k % 2 = 1
  · simp [h]
  · have : m / 2 ^ k % 2 = 0 := by omega
    simp [this]

/-- The law's own version: what it hands back where the bits above are nought; else none. -/
def GivesOr (yes : Prop) (l : List Bool) (w : World) (e : Ending) (w' : World) : Prop :=
  (yes ∧ GivesBools l w e w') ∨ (¬ yes ∧ e = .returned (.tuple #[.slice none 0 0, .bool false]) ∧ Below w.heap.size w w')

theorem gives_own {w wr : World} {v : Value} {k : Nat} {l : List Bool} (hl : l.length = k) (h : wr.ownsRow w.heap.size 4 1 v k (l.map Value.bool)) (hb : Below w.heap.size w wr) :
    GivesBools l w (.returned (.tuple #[v, .bool true])) wr := by
  subst hl
  rcases h.2 with ⟨rfl, h0⟩ | ⟨g, cap, cur, rfl, hbg, hh, hn, hm, _, _⟩
  · refine ⟨none, 0, ret_slb h0.symm, by omega, by unfold maxLen; omega, ?_, hb⟩
    intro k b hk
    have : l = [] := List.eq_nil_of_length_eq_zero h0
    subst this
    simp at hk
  · refine ⟨some ⟨g, 0, none⟩, cap, rfl, hn, hm, ?_, hb⟩
    intro k b hk
    have hlt : g < wr.heap.size := by
      rcases Nat.lt_or_ge g wr.heap.size with h | h
      · exact h
      · rw [Array.getElem?_eq_none h] at hh; cases hh
    exact ⟨_, rfl, hlt, h.cells (g := g) rfl k (.bool b) (by simp [hk])⟩

theorem Bs.below {w w' : World} {B B' : Nat} {A : Option Addr} {l : List Bool} (h : Bs w B A l) (hb : Below B w w') (hB : B ≤ B') : Bs w' B' A l := by
  intro k b hk
  obtain ⟨a, ha, hlt, hc⟩ := h k b hk
  exact ⟨a, ha, by omega, (hb.cell (p := a.add k) (by unfold Addr.add; split <;> simpa using hlt)).trans hc⟩
end Go.Proofs.Ytjdcpcfjekfdeaa
