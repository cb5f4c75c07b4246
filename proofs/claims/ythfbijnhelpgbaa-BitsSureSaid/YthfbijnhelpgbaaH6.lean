/- The mask on a disk, layer 8, in plain words: what is loaded where a mask was saved and another one noted, and the disk crashed. No program in it, no condition. -/
import Derived.Test.YthfbijnhelpgbaaH5
namespace Go.Proofs.Ythfbijnhelpgbaa
open Go.RowKit

theorem lay_second (S : List ByteArray) (y : ByteArray) (h : 2 ≤ S.length) : (layL S [(1, y)])[1]? = some y := by
  show (S.set 1 y)[1]? = some y
  rw [List.getElem?_set_self (by omega)]
theorem getD_of {S : List ByteArray} {y : ByteArray} (h : S[1]? = some y) : S.getD 1 e0 = y := by rw [List.getD_eq_getElem?_getD, h]; rfl

/-- What is loaded where the sector 1 surely holds a mask. -/
theorem load_sure {S : List ByteArray} {k : Nat} (hS : S[1]? = some (bytesM k)) (hk : k < 4294967296) (h : mrightB k ((S.length : Int) - 2) = true) : loadB S [] false = (k, 0) := by
  have h3 := mright_len h
  unfold loadB
  rw [reach_in (by omega) (by omega), if_pos rfl, getD_of hS, holds_nil]
  exact load_mask hk h

/-- What is loaded where a mask was noted. -/
theorem load_noted (S : List ByteArray) {k : Nat} (hk : k < 4294967296) (h : mrightB k ((S.length : Int) - 2) = true) : loadB S [(1, bytesM k)] false = (k, 0) := by
  have h3 := mright_len h
  unfold loadB
  rw [reach_in (by omega) (by omega), if_pos rfl]
  exact load_mask hk h

theorem save_new {N k : Nat} (hr : mrightB k ((N : Int) - 2) = true) : saveB (List.replicate N e0) [] 0 false k = ⟨layL (List.replicate N e0) [(1, bytesM k)], [], 0, false, 0⟩ := by
  unfold saveB
  rw [List.length_replicate, if_pos hr]
  rfl
theorem save_not {N k : Nat} (hr : mrightB k ((N : Int) - 2) = false) : saveB (List.replicate N e0) [] 0 false k = ⟨List.replicate N e0, [], 0, false, 1⟩ := by
  unfold saveB
  rw [List.length_replicate, if_neg (by rw [hr]; simp)]
theorem note_sure {S : List ByteArray} {k : Nat} (hr : mrightB k ((S.length : Int) - 2) = true) : noteB S [] 0 false k = ⟨S, [(1, bytesM k)], 0, false, 0⟩ := by
  unfold noteB
  rw [if_pos hr]
  rfl
theorem note_not {S : List ByteArray} {k : Nat} (hr : mrightB k ((S.length : Int) - 2) = false) : noteB S [] 0 false k = ⟨S, [], 0, false, 1⟩ := by
  unfold noteB
  rw [if_neg (by rw [hr]; simp)]

/-- Behind a crash what was saved, or what was noted. -/
theorem sure_fact {S : List ByteArray} {k0 k1 : Nat} (keeps : List Bool) (hS : S[1]? = some (bytesM k0)) (h0 : k0 < 4294967296) (h1 : k1 < 4294967296) (r0 : mrightB k0 ((S.length : Int) - 2) = true) (r1 : mrightB k1 ((S.length : Int) - 2) = true) :
    ∃ S2 b, layL S (keptL [((1 : Int), bytesM k1)] keeps [((1 : Int), bytesM k1)].length) = S2 ∧ S2.length = S.length ∧ loadB S2 [] false = (b, 0) ∧ (S2.getD 1 e0).size ≤ 64 ∧ (b = k0 ∨ b = k1) := by
  have h3 := mright_len r0
  cases hk : keeps.getD 0 false with
  | true =>
    have e : keptL [((1 : Int), bytesM k1)] keeps 1 = [(1, bytesM k1)] := by rw [kept_yes (by simp) hk]; rfl
    have hs := lay_second S (bytesM k1) (by omega)
    refine ⟨_, k1, rfl, by rw [lay_length], ?_, ?_, .inr rfl⟩
    · show loadB (layL S (keptL [((1 : Int), bytesM k1)] keeps 1)) [] false = _
      rw [e]
      exact load_sure hs h1 (by rw [lay_length]; exact r1)
    · show ((layL S (keptL [((1 : Int), bytesM k1)] keeps 1)).getD 1 e0).size ≤ 64
      rw [e, getD_of hs, bytesM_size]
      decide
  | false =>
    have e : keptL [((1 : Int), bytesM k1)] keeps 1 = [] := by rw [kept_no hk]; rfl
    refine ⟨_, k0, rfl, by rw [lay_length], ?_, ?_, .inl rfl⟩
    · show loadB (layL S (keptL [((1 : Int), bytesM k1)] keeps 1)) [] false = _
      rw [e]
      exact load_sure hS h0 r0
    · show ((layL S (keptL [((1 : Int), bytesM k1)] keeps 1)).getD 1 e0).size ≤ 64
      rw [e, lay_nil, getD_of hS, bytesM_size]
      decide
end Go.Proofs.Ythfbijnhelpgbaa
