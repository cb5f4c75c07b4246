/- A row of commits, layer 7, in plain words: what a disk holds behind some commits, and what is loaded of it behind the last one, wherever that ended; and a new disk whose sectors are memory of its own. No condition. -/
import Derived.Test.YtphlebbihfcaoaaDoorG6
namespace Go.Proofs.YtphlebbihfcaoaaDoor
open Go.RowKit

/-- What a disk of N sectors surely holds behind the commits of p. -/
def Good (N : Nat) (p : List Sup) (S : List ByteArray) : Prop :=
  S.length = N ∧ ((p = [] ∧ S[0]? = some e0) ∨ ∃ p' q, p = p' ++ [q] ∧ q.wide ∧ q.right = true ∧ ((N : Int) - 2 == q.n) = true ∧ S[0]? = some q.bytes)

theorem lay_first (S : List ByteArray) (y : ByteArray) (h : 1 ≤ S.length) : (layL S [(0, y)])[0]? = some y := by
  show (S.set 0 y)[0]? = some y
  rw [List.getElem?_set_self (by omega)]

theorem good_start (k : Nat) (h : 1 ≤ k) : Good (k + 2) [] (List.replicate k e0 ++ [e0, e0]) := by
  refine ⟨by simp, .inl ⟨rfl, ?_⟩⟩
  rw [List.getElem?_append_left (by simp; omega), List.getElem?_replicate, if_pos (by omega)]

theorem good_more {N : Nat} {p : List Sup} {S : List ByteArray} {b : Sup} (h : Good N p S) (h1 : 1 ≤ N) (hw : b.wide) (hr : b.right = true) (hn : ((N : Int) - 2 == b.n) = true) : Good N (p ++ [b]) (layL S [(0, b.bytes)]) :=
  ⟨by rw [lay_length]; exact h.1, .inr ⟨p, b, rfl, hw, hr, hn, lay_first _ _ (by rw [h.1]; exact h1)⟩⟩

theorem dec_empty : dec e0 = (Sup.zero, 2) := by kernel_rfl

theorem load_of {N : Nat} {S : List ByteArray} {q : Sup} (hl : S.length = N) (hw : q.wide) (hr : q.right = true) (hn : ((N : Int) - 2 == q.n) = true) : loadD S [] false q.bytes = (q, 0) := by
  unfold loadD loadS
  rw [if_neg (by simp), holds_nil, dec_bytes q hw hr, hl]
  dsimp only
  rw [if_pos rfl, if_pos hn]

theorem load_empty (S : List ByteArray) : loadD S [] false e0 = (Sup.zero, 2) := by
  unfold loadD loadS
  rw [if_neg (by simp), holds_nil, dec_empty]
  rfl

theorem good_load {N : Nat} {p : List Sup} {S : List ByteArray} (h : Good N p S) : ∃ t, S[0]? = some t ∧ t.size ≤ 64 ∧ ((p = [] ∧ loadD S [] false t = (Sup.zero, 2)) ∨ ∃ p' q, p = p' ++ [q] ∧ loadD S [] false t = (q, 0)) := by
  obtain ⟨hl, ⟨hp, h0⟩ | ⟨p', q, hp, hw, hr, hn, h0⟩⟩ := h
  · exact ⟨e0, h0, by decide, .inl ⟨hp, load_empty S⟩⟩
  · exact ⟨q.bytes, h0, by rw [bytes_size]; decide, .inr ⟨p', q, hp, load_of hl hw hr hn⟩⟩

/-- Behind the last commit, wherever it ended, the superblock is that one, or the one ahead of it. -/
theorem last_fact {N : Nat} {p : List Sup} {S : List ByteArray} {b : Sup} (F : Int) (keeps : List Bool) (h : Good N p S) (h1 : 1 ≤ N) (hw : b.wide) (hr : b.right = true) (hn : ((N : Int) - 2 == b.n) = true) :
    ∃ s2 c2 f2 x2 e2 t3 R g, commitD S [] F false b = ⟨s2, c2, f2, x2, e2⟩ ∧ s2.length = N ∧ c2.length ≤ 1 ∧ c2.any (misfitW N) = false ∧
      (layL s2 (keptL c2 keeps c2.length))[0]? = some t3 ∧ t3.size ≤ 64 ∧ loadD (layL s2 (keptL c2 keeps c2.length)) [] false t3 = (R, g) ∧ (e2 = 0 ∨ e2 = 6) ∧
      ((R = b ∧ g = 0) ∨ (e2 = 6 ∧ p = [] ∧ R = Sup.zero ∧ g = 2) ∨ (e2 = 6 ∧ R ≠ b ∧ g = 0 ∧ ∃ p', p = p' ++ [R])) := by
  have hl := h.1
  have hnew : (layL S [(0, b.bytes)])[0]? = some b.bytes := lay_first _ _ (by omega)
  have hbl : loadD (layL S [(0, b.bytes)]) [] false b.bytes = (b, 0) := load_of (by rw [lay_length]; exact hl) hw hr hn
  have hbs : b.bytes.size ≤ 64 := by rw [bytes_size]; decide
  have old : ∃ t3 R g, S[0]? = some t3 ∧ t3.size ≤ 64 ∧ loadD S [] false t3 = (R, g) ∧ ((R = b ∧ g = 0) ∨ (p = [] ∧ R = Sup.zero ∧ g = 2) ∨ (R ≠ b ∧ g = 0 ∧ ∃ p', p = p' ++ [R])) := by
    obtain ⟨t, ht, hs, ⟨hp, hd⟩ | ⟨p', q, hp, hd⟩⟩ := good_load h
    · exact ⟨t, _, _, ht, hs, hd, .inr (.inl ⟨hp, rfl, rfl⟩)⟩
    · by_cases e : q = b
      · exact ⟨t, _, _, ht, hs, hd, .inl ⟨e, rfl⟩⟩
      · exact ⟨t, _, _, ht, hs, hd, .inr (.inr ⟨e, rfl, p', hp⟩)⟩
  obtain ⟨t, R, g, o1, o2, o3, o4⟩ := old
  have o5 : (6 : Int) = 6 := rfl
  have dead : ((R = b ∧ g = 0) ∨ ((6 : Int) = 6 ∧ p = [] ∧ R = Sup.zero ∧ g = 2) ∨ ((6 : Int) = 6 ∧ R ≠ b ∧ g = 0 ∧ ∃ p', p = p' ++ [R])) := by
    rcases o4 with q | q | q
    · exact .inl q
    · exact .inr (.inl ⟨rfl, q⟩)
    · exact .inr (.inr ⟨rfl, q⟩)
  have hfit := fit_more (b := b.bytes) (c := []) h1 rfl hbs
  unfold commitD
  rw [hl, hn, hr]
  generalize b.bytes = y at *
  by_cases f1 : F = 1
  · subst f1
    exact ⟨S, [], 0, true, 6, t, R, g, rfl, hl, by simp, rfl, o1, o2, o3, .inr rfl, dead⟩
  · by_cases f2 : F = 2
    · subst f2
      cases hk : keeps.getD 0 false with
      | true =>
        have e : keptL [((0 : Int), y)] keeps 1 = [(0, y)] := by rw [kept_yes (by simp) hk]; rfl
        exact ⟨S, [(0, y)], 0, true, 6, y, b, 0, rfl, hl, by simp, hfit, by show (layL S (keptL [((0 : Int), y)] keeps 1))[0]? = _; rw [e]; exact hnew, hbs, by show loadD (layL S (keptL [((0 : Int), y)] keeps 1)) _ _ _ = _; rw [e]; exact hbl, .inr rfl, .inl ⟨rfl, rfl⟩⟩
      | false =>
        have e : keptL [((0 : Int), y)] keeps 1 = [] := by rw [kept_no hk]; rfl
        exact ⟨S, [(0, y)], 0, true, 6, t, R, g, rfl, hl, by simp, hfit, by show (layL S (keptL [((0 : Int), y)] keeps 1))[0]? = _; rw [e]; exact o1, o2, by show loadD (layL S (keptL [((0 : Int), y)] keeps 1)) _ _ _ = _; rw [e]; exact o3, .inr rfl, dead⟩
    · refine ⟨layL S [(0, y)], [], burnF (burnF F), false, 0, y, b, 0, ?_, by rw [lay_length]; exact hl, by simp, rfl, hnew, hbs, hbl, .inl rfl, .inl ⟨rfl, rfl⟩⟩
      rw [Bool.and_self, if_pos rfl, if_neg (by simp), if_neg f1, if_neg f2]
      rfl

set_option maxRecDepth 100000 in
set_option maxHeartbeats 400000 in
theorem rnew_own (k : Nat) (h0 : 1 ≤ k) (h1 : k ≤ 64) (w : World) : Calls Tryd.prog 15 #[.int .i64 (k : Int)] w fun e w' =>
    e = .returned (.tuple #[.agg #[.slice (some ⟨w.heap.size + 1, 0, none⟩) k k, .slice none 0 0, .int .i64 0, .bool false], .int .i64 0]) ∧
      w'.ownsRow w.heap.size 9 1 (.slice (some ⟨w.heap.size + 1, 0, none⟩) k k) (List.replicate k e0).length ((List.replicate k e0).map Value.string) ∧ Below w.heap.size w w' := by
  have hmk := make_strs k (by omega)
  have g0 : ¬ (k : Int) < 1 := by omega
  have g1 : ¬ 64 < (k : Int) := by omega
  go_enter Tryd.func15, Tryd.ntmps15
  go_wp2
  refine bodyPost_ret (v := .tuple #[.agg #[.slice (some ⟨w.heap.size + 1, 0, none⟩) k k, .slice none 0 0, .int .i64 0, .bool false], .int .i64 0]) (by simp [results, Tryd.results15, go_sem]) rfl
    ⟨rfl, ⟨by simp, .inr ⟨w.heap.size + 1, k, Array.replicate k (.string e0), by simp, by omega, ?_, by simp, by unfold maxLen; omega, by simp, by simp⟩⟩, ext_alloc (ext_alloc (Below.refl _ _) _) _⟩
  have h := heap_alloc_new (w.alloc (.cells #[.slice (some ⟨w.heap.size + 1, 0, none⟩) k k, .slice none 0 0, .int .i64 0, .bool false] 25)) (.cells (Array.replicate k (.string e0)) 9)
  simpa using h
end Go.Proofs.YtphlebbihfcaoaaDoor
