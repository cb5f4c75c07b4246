/- What parse answers to bytes that may be a superblock's. Under: both package variables as they are laid. -/
import Derived.Test.YtlgfinomkpingaaS7
namespace Go.Proofs.Ytlgfinomkpingaa
open Go.RowKit

/-- Three flags of a byte. -/
theorem bits3 {w : World} {A : Option Addr} {b0 b1 b2 : Bool} (h : Bs w w.heap.size A [b0, b1, b2]) : ∃ g, A = some g ∧ g.block < w.heap.size ∧ w.cell? g = some (.bool b0) ∧ w.cell? ⟨g.block, g.off + 1, none⟩ = some (.bool b1) ∧ w.cell? ⟨g.block, g.off + 2, none⟩ = some (.bool b2) := by
  obtain ⟨g, rfl, hl, h0⟩ := h 0 b0 rfl
  obtain ⟨g1, e1, _, h1⟩ := h 1 b1 rfl
  obtain ⟨g2, e2, _, h2⟩ := h 2 b2 rfl
  injection e1 with e1
  injection e2 with e2
  subst e1; subst e2
  have a0 : g.add 0 = g := by unfold Addr.add; rw [if_pos rfl]
  have a1 := add_succ g 0
  have a2 := add_succ g 1
  have e3 : (g.add 1).off = g.off + 1 := by unfold Addr.add; rw [if_neg (by decide)]
  rw [add_block, e3] at a2
  rw [a0] at a1 h0
  exact ⟨g, rfl, hl, h0, by rw [a1]; exact h1, by rw [a2]; exact h2⟩

theorem runflag3 (x : Nat) (w : World) (h : x < 8) : Calls Try.prog 70 #[.int .u8 (x : Int), .int .i64 3] w fun e w' =>
    ∃ g c, e = .returned (.tuple #[.slice (some g) 3 c, .bool true]) ∧ 3 ≤ c ∧ g.block < w'.heap.size ∧ w'.cell? g = some (.bool (decide (x % 2 = 1))) ∧ w'.cell? ⟨g.block, g.off + 1, none⟩ = some (.bool (decide (x / 2 % 2 = 1))) ∧ w'.cell? ⟨g.block, g.off + 2, none⟩ = some (.bool (decide (x / 2 / 2 % 2 = 1))) ∧ Below w.heap.size w w' := by
  refine (runflag_any (x : Int) 3 w (by omega) (by omega) (by decide)).mono ?_
  rintro e w' (⟨_, A, c, rfl, hc, _, hbs, hb⟩ | ⟨hn, _⟩)
  · rw [Int.toNat_natCast, unfl3] at *
    obtain ⟨g, rfl, hl, h0, h1, h2⟩ := bits3 hbs
    exact ⟨g, c, rfl, hc, hl, h0, h1, h2, hb⟩
  · exact absurd (by simpa using h) hn

section
variable (s t : ByteArray) (a : Addr) (w : World)

end

end Go.Proofs.Ytlgfinomkpingaa
