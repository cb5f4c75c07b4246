/- Links: texts behind an empty list of one's own, one operation, and what else lies meanwhile. No condition. -/
import Derived.Test.YtbjbdlgbppanmaaYH
namespace Go.Proofs.Ytbjbdlgbppanmaa
open Go.RowKit

theorem kown_lift {w w' : World} {base size n : Nat} {e : TypeId} {v : Value} {xs : List Value} (h : w.ownsRow base e size v n xs) (hb : Below w.heap.size w w') : w'.ownsRow base e size v n xs := by
  obtain ⟨h0, h2 | ⟨g, cap, cur, rfl, hbg, hh, r⟩⟩ := h
  · exact ⟨h0, Or.inl h2⟩
  · have hlt : g < w.heap.size := by
      rcases Nat.lt_or_ge g w.heap.size with q | q
      · exact q
      · rw [Array.getElem?_eq_none q] at hh; cases hh
    exact ⟨h0, Or.inr ⟨g, cap, cur, rfl, hbg, (hb.block g hlt).trans hh, r⟩⟩

/-- An empty list of one's own. -/
structure Bare (w : World) (b : Nat) : Prop where
  own : w.ownsRow b 9 1 (.slice (some ⟨b, 0, none⟩) 0 0) 0 []
  box : Box w b []
theorem Bare.new (w : World) : Bare (w.alloc (.cells #[] 9)) w.heap.size := ⟨own_zero w _ (Nat.le_refl _), Box.new w [] 9⟩
theorem Bare.up {w w' : World} {b : Nat} (h : Bare w b) (hb : Below w.heap.size w w') : Bare w' b := ⟨kown_lift h.own hb, h.box.below hb⟩

theorem box_ne {w : World} {b g : Nat} {v : Value} {vs : List Value} (h : Box w b []) (h2 : Box w g (v :: vs)) : some b ≠ some g := by
  intro e
  injection e with e
  subst e
  have h1 := h.cell 0
  rw [h2.cell 0] at h1
  cases h1
theorem Box.gr {w w' : World} {row : Option Nat} {b : Nat} {vs : List Value} (h : Box w b vs) (hg : w.grownBy w' row) (hn : row ≠ some b) : Box w' b vs := by
  have hl := h.lt
  obtain ⟨t, h⟩ := h
  exact ⟨t, (hg.block b hl fun e => hn e.symm).trans h⟩
theorem Bare.gr {w w' : World} {g b : Nat} (h : Bare w g) (hg : w.grownBy w' (some b)) (hn : b ≠ g) : Bare w' g := by
  have hq : some b ≠ some g := fun e => hn (by injection e)
  refine ⟨?_, h.box.gr hg hq⟩
  obtain ⟨h0, h2 | ⟨g', cap, cur, e, hbg, hh, r⟩⟩ := h.own
  · obtain ⟨e, _⟩ := h2
    cases e
  · have hlt : g' < w.heap.size := by
      rcases Nat.lt_or_ge g' w.heap.size with q | q
      · exact q
      · rw [Array.getElem?_eq_none q] at hh; cases hh
    have eg : g = g' := by injection e with e1; injection e1 with e1; injection e1
    subst eg
    exact ⟨h0, Or.inr ⟨g, cap, cur, e, hbg, (hg.block g hlt fun q => hq q.symm).trans hh, r⟩⟩

/-- A list that lies at a block's beginning. -/
structure Row (w : World) (A : Option Addr) (n : Nat) (l : List ByteArray) : Prop where
  es : Es Value.string w w.heap.size A l
  no : A = none → n = 0
  le : l.length ≤ n
  at0 : ∀ ad, A = some ad → ∃ g, ad = ⟨g, 0, none⟩
theorem Row.up {w w' : World} {A : Option Addr} {n : Nat} {l : List ByteArray} (h : Row w A n l) (hb : Below w.heap.size w w') : Row w' A n l := ⟨h.es.up hb, h.no, h.le, h.at0⟩
theorem Row.gr {w w' : World} {A : Option Addr} {n b : Nat} {l : List ByteArray} (h : Row w A n l) (hb : Box w b []) (hg : w.grownBy w' (some b)) : Row w' A n l := by
  refine ⟨?_, h.no, h.le, h.at0⟩
  intro j t hj
  obtain ⟨a, ha, hlt, hc⟩ := h.es j t hj
  refine ⟨a, ha, Nat.lt_of_lt_of_le hlt hg.size, ?_⟩
  obtain ⟨g, rfl⟩ := h.at0 a ha
  have e : (⟨g, 0, none⟩ : Addr).add j = ⟨g, j, none⟩ := by unfold Addr.add; split <;> simp_all
  rw [World.cell?_of_block (a := (⟨g, 0, none⟩ : Addr).add j) (hg.block _ (by rw [add_block]; exact hlt) ?_)]
  · exact hc
  · rw [add_block]
    intro q
    have hq : b = g := by injection q with q; exact q.symm
    subst hq
    rw [e, hb.cell j] at hc
    simp at hc
theorem Held.gr {W0 w w' : World} {g b : Nat} {v : Value} {vs : List Value} (h : Held W0 [(g, v :: vs)] [] w) (hb : Box w b []) (hg : w.grownBy w' (some b)) (hl : W0.heap.size ≤ b) : Held W0 [(g, v :: vs)] [] w' :=
  ⟨h.below.grown hg h.below.size (fun x hx => by injection hx with hx; omega), Boxs.cons (h.b0.gr hg (box_ne hb h.b0)) (Boxs.nil _), by simp, by simp, by simp⟩

set_option maxRecDepth 100000 in
theorem app_bareW {o : Oper} {a : Act} {K : Act → World → Prop} {Q : Exit → Act → World → Prop} (s x : Operand)
    (ho : o.op = .call { callee := .builtin .append, args := #[s, x], argTypes := #[23, 23] }) (w : World) (b : Nat) (hb : Bare w b) (hs : a.eval s = .slice (some ⟨b, 0, none⟩) 0 0)
    (A : Option Addr) (n : Nat) (l : List ByteArray) (hA : A = none → n = 0) (hx : a.eval x = .slice A l.length n) (hc : Es Value.string w w.heap.size A l) (hl : l.length ≤ 1000000)
    (h : ∀ A' c' w', Row w' A' c' l → w.grownBy w' (some b) → K (a.put o.dst (.slice A' l.length c')) w') :
    o.wp Try.prog a w K Q := by
  obtain ⟨i0, hi, hz0, hz1, hz2⟩ := info_three infoStr
  cases A with
  | none =>
    have hl0 : l = [] := by
      cases l with
      | nil => rfl
      | cons y t => obtain ⟨a', ha', _⟩ := hc 0 y rfl; cases ha'
    subst hl0
    rw [hA rfl] at hx
    have hrun := run_append_owned_none (P := Try.prog) (w := w) b 23 o.type 9 i0 1 Try.underlying23 hi _ _ _ hb.own
    unfold Oper.wp
    simp [execOp, ho, resolve, invoke, builtin, hs, hx, hrun, Result.andThen]
    exact h (some ⟨b, 0, none⟩) 0 w ⟨es_nil _ _ _ _, (by intro q; cases q), Nat.le_refl _, (by intro ad e; exact ⟨b, (Option.some.inj e).symm⟩)⟩ ⟨rfl, rfl, rfl, Nat.le_refl _, fun _ _ _ => rfl⟩
  | some ad =>
    refine wp_append_own _ s x 23 ho b 9 i0 (.string ⟨#[]⟩) 1 16 Try.underlying23 hi hz0 hz1 hz2 rfl (by decide) _ _ _ hs hb.own ad l.length n (l.map Value.string) hx (by simp) (es_cells hc)
      (fun u hu => by obtain ⟨y, _, rfl⟩ := List.mem_map.1 hu; rfl) (by unfold maxLen; omega) (by omega) (Nat.le_of_lt hb.box.lt) fun v' w' hown' hgrow _ => ?_
    rw [List.nil_append, Nat.zero_add] at hown'
    obtain ⟨A', c', rfl, _, _⟩ := own_es hown'
    have hq := es_of_own hown'
    refine h A' c' w' ⟨hq.1, hq.2.1, hq.2.2, ?_⟩ hgrow
    intro ad e
    rcases hown'.2 with ⟨q, _⟩ | ⟨g, cap, cur, q, _⟩
    · injection q with q1
      rw [q1] at e; cases e
    · injection q with q1
      rw [q1] at e
      injection e with e
      exact ⟨g, e.symm⟩
end Go.Proofs.Ytbjbdlgbppanmaa
