/- How a link and a list of texts that come in are opened: each list, nil or not, reads as a list. No condition. -/
import Derived.Test.YtbjbdlgbppanmaaYA
import Derived.OpenShut
import Derived.ProofKit
import Derived.SliceStrings
import Derived.ChangeSlices
import Derived.Lib.SmallJoins
namespace Go.Proofs.Ytbjbdlgbppanmaa
open Go.ChangeShapes Go.WideShapes Go.ChangeAt Go.RowKit

set_option maxRecDepth 100000

section
variable {H : Type} {enc : TypeId × Value → H} {W : World} {r : Reach} {base : Nat}

theorem kblock_add (a : Addr) (j : Nat) : (a.add j).block = a.block := by unfold Addr.add; split <;> rfl
theorem kcells1 : Try.prog.cellsOf 4 = 1 := by kernel_rfl
theorem kcells2 : Try.prog.cellsOf 22 = 1 := by kernel_rfl
theorem kcells3 : Try.prog.cellsOf 23 = 1 := by kernel_rfl
theorem kcells4 : Try.prog.cellsOf 24 = 2 := by kernel_rfl
theorem kcells5 : Try.prog.cellsOf 26 = 4 := by kernel_rfl

theorem open_ks {fuel : Nat} {cs : List Value} {x : DataW H × List MemPlace} (h : DataW.trod enc Try.prog W 0 (fun _ => true) true fuel 23 cs = some x) :
    ∃ A c s, cs = [.slice A (s : List ByteArray).length c] ∧ (A = none → c = 0) ∧ Es Value.string W W.heap.size A s ∧ s.length ≤ c := by
  rcases open_strings Try.underlying23 Try.underlying9 (by kernel_rfl) h with ⟨rfl, _⟩ | ⟨a, len, cap, ss, rfl, _, hl, _, hsl, _, hc, _⟩
  · exact ⟨none, 0, [], rfl, fun _ => rfl, es_nil _ _ _ _, Nat.le_refl _⟩
  · have hsl' : ss.length = cap := by simpa using hsl
    refine ⟨some a, cap, ss.take len, by rw [List.length_take, hsl', Nat.min_eq_left hl], (fun q => by cases q), ?_, by rw [List.length_take, hsl', Nat.min_eq_left hl]; exact hl⟩
    intro j t hj
    obtain ⟨hjl, hjx⟩ := List.getElem?_eq_some_iff.1 hj
    rw [List.length_take, hsl', Nat.min_eq_left hl] at hjl
    have hcell := hc j (by omega)
    have hb := World.block_lt_of_cell? W (a.add j) hcell
    rw [kblock_add] at hb
    refine ⟨a, rfl, hb, ?_⟩
    rw [hcell, List.getD_eq_getElem?_getD, List.getElem?_eq_getElem (by omega)]
    rw [List.getElem_take] at hjx
    rw [← hjx]; rfl

theorem open_texts {v : Value} {d : DataW H} {ps : List MemPlace} (hval : Value.okWide Try.prog W r base 23 v) (h : DataW.Trod enc Try.prog W 0 (fun _ => true) true 23 v d ps) :
    ∃ A c s, v = .slice A (s : List ByteArray).length c ∧ (A = none → c = 0) ∧ Es Value.string W W.heap.size A s ∧ s.length ≤ c := by
  obtain ⟨a0, len, cap, rfl⟩ := okWide_slice Try.underlying23 hval
  obtain ⟨fuel, hf⟩ := h
  obtain ⟨A, c, s, e, h1, hs, h2⟩ := open_ks hf
  have e : (.slice a0 len cap : Value) = .slice A s.length c := by simpa [Value.cells] using e
  exact ⟨A, c, s, e, h1, hs, h2⟩

theorem open_two_k {fuel : Nat} {cs : List Value} {x : DataW H × List MemPlace} (h : DataW.trod enc Try.prog W 0 (fun _ => true) true fuel 24 cs = some x) :
    ∃ A n a B m b, cs = [.slice A (a : List ByteArray).length n, .slice B (b : List ByteArray).length m] ∧ (A = none → n = 0) ∧ (B = none → m = 0) ∧ Es Value.string W W.heap.size A a ∧ Es Value.string W W.heap.size B b ∧ a.length ≤ n ∧ b.length ≤ m := by
  obtain ⟨xs, k, _, _, hlen, hl, hel⟩ := DataW.trod_array Try.underlying24 h
  rw [kcells4] at hlen
  match xs, hl, cs, hlen with
  | [x0, x1], _, [c0, c1], _ =>
    have h0 := hel 0 (by omega)
    have h1 := hel 1 (by omega)
    rw [kcells3] at h0 h1
    obtain ⟨A, n, a, e0, na, ea, la⟩ := open_ks (x := x0) (by simpa using h0)
    obtain ⟨B, m, b, e1, nb, eb, lb⟩ := open_ks (x := x1) (by simpa using h1)
    simp at e0 e1
    subst e0; subst e1
    exact ⟨A, n, a, B, m, b, rfl, na, nb, ea, eb, la, lb⟩

theorem open_lkL {fuel : Nat} {cs : List Value} {x : DataW H × List MemPlace} (h : DataW.trod enc Try.prog W 0 (fun _ => true) true fuel 26 cs = some x) :
    ∃ (l : Lnk) (A : Option Addr) (n : Nat) (B : Option Addr) (m : Nat), cs = lkC l A n B m ∧ Lk W l A n B m := by
  obtain ⟨xs, k, _, _, hlen, hl, hel⟩ := DataW.trod_struct Try.underlying26 h
  rw [kcells5] at hlen
  match xs, hl, cs, hlen with
  | [x0, x1, x2], _, [c0, c1, c2, c3], _ =>
    have h0 : DataW.trod enc Try.prog W 0 (fun _ => true) true k 4 (List.take (Try.prog.cellsOf 4) [c0, c1, c2, c3]) = some x0 := hel 0 _ rfl
    have h1 : DataW.trod enc Try.prog W 0 (fun _ => true) true k 22 (List.take (Try.prog.cellsOf 22) [c1, c2, c3]) = some x1 := hel 1 _ rfl
    have h2 : DataW.trod enc Try.prog W 0 (fun _ => true) true k 24 (List.take (Try.prog.cellsOf 24) [c2, c3]) = some x2 := hel 2 _ rfl
    rw [kcells1] at h0
    rw [kcells2] at h1
    rw [kcells4] at h2
    obtain ⟨u, e0, _⟩ := DataW.trod_bool (by kernel_rfl) (x := x0) (by simpa using h0)
    obtain ⟨s, e1, _⟩ := DataW.trod_int (k := .u64) (by kernel_rfl) (x := x1) (by simpa using h1)
    obtain ⟨A, n, a, B, m, b, e2, na, nb, ea, eb, la, lb⟩ := open_two_k (x := x2) (by simpa using h2)
    simp at e0 e1 e2
    obtain ⟨e2, e3⟩ := e2
    subst e0; subst e1; subst e2; subst e3
    exact ⟨⟨u, s, a, b⟩, A, n, B, m, rfl, ea, eb, na, nb, la, lb⟩

theorem open_lk {v : Value} {d : DataW H} {ps : List MemPlace} (hval : Value.okWide Try.prog W r base 26 v) (h : DataW.Trod enc Try.prog W 0 (fun _ => true) true 26 v d ps) :
    ∃ (l : Lnk) (A : Option Addr) (n : Nat) (B : Option Addr) (m : Nat), v = lkV l A n B m ∧ Lk W l A n B m := by
  obtain ⟨cs, rfl, _⟩ := okWide_struct Try.underlying26 hval
  obtain ⟨fuel, hf⟩ := h
  obtain ⟨l, A, n, B, m, e, hk⟩ := open_lkL hf
  obtain ⟨q⟩ := cs
  have e : q = lkC l A n B m := by simpa [Value.cells] using e
  subst e
  exact ⟨l, A, n, B, m, rfl, hk⟩
end
end Go.Proofs.Ytbjbdlgbppanmaa
