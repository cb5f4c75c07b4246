/- Rows of one's own beside blocks of one's own: a row that grows leaves the others; a region that draws its order, begun. No condition. -/
import Derived.Test.YtlgfinomkpingaaGA
namespace Go.Proofs.Ytlgfinomkpingaa
open Go.RowKit

/-- One of a row's blocks is its own, or none. -/
theorem own_block_lt {w : World} {base size n : Nat} {e : TypeId} {v : Value} {xs : List Value} (h : w.ownsRow base e size v n xs) : ∀ g, v.ownBlock = some g → base ≤ g ∧ g < w.heap.size := by
  intro g hg
  refine ⟨own_low h g hg, ?_⟩
  rcases h.2 with ⟨rfl, _⟩ | ⟨g', cap, cur, rfl, hb, hh, _⟩
  · simp [Value.ownBlock] at hg
  · simp [Value.ownBlock] at hg
    subst hg
    rcases Nat.lt_or_ge g' w.heap.size with q | q
    · exact q
    · rw [Array.getElem?_eq_none q] at hh; cases hh

theorem Box.grown {X Y : World} {row : Option Nat} {b : Nat} {vs : List Value} (h : Box X b vs) (hg : X.grownBy Y row) (hn : row ≠ some b) : Box Y b vs := by
  have hl := h.lt
  obtain ⟨t, h⟩ := h
  exact ⟨t, (hg.block b hl fun e => hn e.symm).trans h⟩

/-- A list of texts stays where a row grows that isn't its own. -/
theorem Es.grown {X Y : World} {row : Option Nat} {A : Option Addr} {l : List ByteArray} (h : Es Value.string X X.heap.size A l) (hg : X.grownBy Y row) (hn : ∀ a, A = some a → row ≠ some a.block) : Es Value.string Y Y.heap.size A l := by
  intro j t hj
  obtain ⟨a, ha, hlt, hc⟩ := h j t hj
  refine ⟨a, ha, Nat.lt_of_lt_of_le hlt hg.size, ?_⟩
  rw [World.cell?_of_block (a := a.add j) (hg.block _ (by rw [add_block]; exact hlt) (by rw [add_block]; exact fun e => hn a ha e.symm))]
  exact hc

theorem cell_new8 (w : World) (vs : List Value) (t : TypeId) : ∀ (j : Nat) (u : Value), vs[j]? = some u → (w.alloc (.cells vs.toArray t)).cell? ((⟨w.heap.size, 0, none⟩ : Addr).add j) = some u := by
  intro j u hj
  have : (⟨w.heap.size, 0, none⟩ : Addr).add j = ⟨w.heap.size, j, none⟩ := by unfold Addr.add; split <;> simp_all
  rw [this, (Box.new w vs t).cell, hj]

theorem held_start {P : Program} {ops : Array Oper} {Q : Exit → Act → World → Prop} {S : World → Prop} {w : World} {id : Nat} {a : Act} (hm : P.follows .mixedOrders = true) (hS : S w.drew)
    (H : ∀ v, Below w.heap.size w v → S v → wpAnyH P .any ops Q S ops.size (Array.replicate ops.size false) a v) : (Code.region id ops true).wp P Q a w :=
  wp_region_held_drew hm hS (fun h => H _ (Below.refl _ _).drew h)

theorem Held.grown {W0 w w' : World} {L : List (Nat × List Value)} {M : List (Nat × Nat)} {row : Option Nat} (h : Held W0 L M w) (hg : w.grownBy w' row) (h1 : ∀ g, row = some g → W0.heap.size ≤ g) (h2 : ∀ x ∈ L, row ≠ some x.1) (h3 : ∀ y ∈ M, row ≠ some y.1) : Held W0 L M w' :=
  ⟨h.below.grown hg h.below.size h1, fun x hx => (h.boxs x hx).grown hg (h2 x hx), fun y hy => by
    obtain ⟨vs, hl, hb⟩ := h.owns y hy
    exact ⟨vs, hl, hb.grown hg (h3 y hy)⟩, h.high, h.apart⟩

theorem own_cell0 {w : World} {base g n cap : Nat} {e : TypeId} {u : Value} {xs : List Value} (h : w.ownsRow base e 1 (.slice (some ⟨g, 0, none⟩) n cap) n (u :: xs)) : w.cell? ⟨g, 0, none⟩ = some u := by
  obtain ⟨A, c, hv, _, hc⟩ := own_slice h
  injection hv with q1 q2 q3
  obtain ⟨a, ha, _, hcell⟩ := hc 0 u rfl
  rw [← q1] at ha
  injection ha with ha
  subst ha
  have : (⟨g, 0, none⟩ : Addr).add 0 = ⟨g, 0, none⟩ := by unfold Addr.add; split <;> simp_all
  rw [this] at hcell
  exact hcell

/-- A row of texts is no block whose first cell is a slice. -/
theorem own_apart {w : World} {base n p : Nat} {e : TypeId} {v : Value} {t : ByteArray} {xs vs : List Value} {A : Option Addr} {a b : Nat} (h : w.ownsRow base e 1 v n (.string t :: xs)) (hx : Box w p (.slice A a b :: vs)) : ∀ g, v.ownBlock = some g → g ≠ p := by
  intro g hg e1
  subst e1
  obtain ⟨h0, h2 | ⟨g', cap, cur, rfl, r⟩⟩ := h
  · obtain ⟨rfl, rfl⟩ := h2
    simp [Value.ownBlock] at hg
  · simp [Value.ownBlock] at hg
    subst hg
    have q := own_cell0 (w := w) ⟨h0, Or.inr ⟨_, _, _, rfl, r⟩⟩
    rw [hx.cell 0] at q
    simp at q

theorem own_set_other {w : World} {base size n p : Nat} {e : TypeId} {v : Value} {xs : List Value} (h : w.ownsRow base e size v n xs) (hne : ∀ g, v.ownBlock = some g → g ≠ p) (j : Nat) (u : Value) : (w.setCell ⟨p, j, none⟩ u).ownsRow base e size v n xs := by
  obtain ⟨h1, h2⟩ := h
  refine ⟨h1, ?_⟩
  rcases h2 with h2 | ⟨g, cap, cur, hv, hg, hh, r⟩
  · exact Or.inl h2
  · have := hne g (by rw [hv]; rfl)
    exact Or.inr ⟨g, cap, cur, hv, hg, by rw [heap_setCell_other _ _ _ _ (by exact this)]; exact hh, r⟩

theorem own_set_other4 {w : World} {base size n p : Nat} {e : TypeId} {v : Value} {xs : List Value} (h : w.ownsRow base e size v n xs) (hne : ∀ g, v.ownBlock = some g → g ≠ p) (v0 v1 v2 v3 : Value) :
    ((((w.setCell ⟨p, 0, none⟩ v0).setCell ⟨p, 1, none⟩ v1).setCell ⟨p, 2, none⟩ v2).setCell ⟨p, 3, none⟩ v3).ownsRow base e size v n xs :=
  own_set_other (own_set_other (own_set_other (own_set_other h hne 0 v0) hne 1 v1) hne 2 v2) hne 3 v3

theorem own_two (w : World) (b y : ByteArray) : (w.alloc (.cells #[.string b, .string y] 9)).ownsRow w.heap.size 9 1 (.slice (some ⟨w.heap.size, 0, none⟩) 2 2) 2 [.string b, .string y] :=
  ⟨rfl, Or.inr ⟨w.heap.size, 2, _, rfl, Nat.le_refl _, heap_alloc_new w _, Nat.le_refl _, by decide, rfl, rfl⟩⟩
end Go.Proofs.Ytlgfinomkpingaa
