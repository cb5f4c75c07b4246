/- Rows of superblocks in memory, and how one that comes in is opened; what a flush and a commit hand back lies in memory of its own. No other condition but that the lists lie in memory. -/
import Derived.Test.YtphlebbihfcaoaaDoorG5
import Derived.Test.YtphlebbihfcaoaaDoorSOpen
import Derived.Test.YtphlebbihfcaoaaDoorDOpen
import Derived.Laws.AppendOwn
namespace Go.Proofs.YtphlebbihfcaoaaDoor
open Go.ChangeShapes Go.WideShapes Go.ChangeAt Go.RowKit

/-! ### Rows of superblocks -/
def rowS (l : List Sup) : List Value := l.flatMap supC
theorem rowS_append (l k : List Sup) : rowS (l ++ k) = rowS l ++ rowS k := by unfold rowS; rw [List.flatMap_append]
theorem rowS_length (l : List Sup) : (rowS l).length = l.length * 8 := by
  induction l with
  | nil => rfl
  | cons x l ih => show (supC x ++ rowS l).length = (l.length + 1) * 8; rw [List.length_append, ih]; show 8 + _ = _; omega
theorem rowS_at : ∀ (l : List Sup) (j : Nat) (s : Sup), l[j]? = some s → ∀ i v, (supC s)[i]? = some v → (rowS l)[j * 8 + i]? = some v := by
  intro l
  induction l with
  | nil => intro j s h; simp at h
  | cons x l ih =>
    intro j s h i v hv
    show (supC x ++ rowS l)[j * 8 + i]? = some v
    have h8 : (supC x).length = 8 := rfl
    cases j with
    | zero =>
      simp at h
      subst h
      have hi : i < (supC x).length := (List.getElem?_eq_some_iff.1 hv).1
      rw [Nat.zero_mul, Nat.zero_add, List.getElem?_append_left hi]
      exact hv
    | succ j =>
      rw [List.getElem?_append_right (by rw [h8]; omega), h8, show (j + 1) * 8 + i - 8 = j * 8 + i from by omega]
      exact ih j s (by simpa using h) i v hv
theorem rowS_one (l : List Sup) : ∀ u ∈ rowS l, u.oneCell' = true := by
  intro u hu
  obtain ⟨x, _, h⟩ := List.mem_flatMap.1 hu
  simp only [supC, List.mem_cons, List.not_mem_nil, or_false] at h
  rcases h with rfl | rfl | rfl | rfl | rfl | rfl | rfl | rfl <;> rfl

/-- A superblock in memory, cell by cell. -/
structure SupAt (w : World) (p : Addr) (s : Sup) : Prop where
  c0 : w.cell? p = some (.int .i64 s.n)
  c1 : w.cell? ⟨p.block, p.off + 1, none⟩ = some (.int .u64 s.c)
  c2 : w.cell? ⟨p.block, p.off + 2, none⟩ = some (.int .u64 s.b)
  c3 : w.cell? ⟨p.block, p.off + 3, none⟩ = some (.int .u64 s.o)
  c4 : w.cell? ⟨p.block, p.off + 4, none⟩ = some (.int .u64 s.p)
  c5 : w.cell? ⟨p.block, p.off + 5, none⟩ = some (.bool s.i)
  c6 : w.cell? ⟨p.block, p.off + 6, none⟩ = some (.bool s.r)
  c7 : w.cell? ⟨p.block, p.off + 7, none⟩ = some (.bool s.d)

theorem add_more (a : Addr) (m i : Nat) (hi : i ≠ 0) : (⟨(a.add m).block, (a.add m).off + i, none⟩ : Addr) = a.add (m + i) := by
  have e1 : (a.add m).block = a.block := add_block a m
  have e2 : (a.add m).off = a.off + m := by unfold Addr.add; split <;> simp_all
  rw [e1, e2]
  unfold Addr.add
  rw [if_neg (by omega), Nat.add_assoc]

theorem supAt_flat {w : World} {a : Addr} {m : Nat} {s : Sup} (h : ∀ i v, (supC s)[i]? = some v → w.cell? (a.add (m + i)) = some v) : SupAt w (a.add m) s :=
  ⟨h 0 _ rfl, by rw [add_more _ _ _ (by decide)]; exact h 1 _ rfl, by rw [add_more _ _ _ (by decide)]; exact h 2 _ rfl, by rw [add_more _ _ _ (by decide)]; exact h 3 _ rfl, by rw [add_more _ _ _ (by decide)]; exact h 4 _ rfl,
    by rw [add_more _ _ _ (by decide)]; exact h 5 _ rfl, by rw [add_more _ _ _ (by decide)]; exact h 6 _ rfl, by rw [add_more _ _ _ (by decide)]; exact h 7 _ rfl⟩

theorem SupAt.same {w w' : World} {p : Addr} {s : Sup} (h : SupAt w p s) (hb : w'.heap[p.block]? = w.heap[p.block]?) : SupAt w' p s :=
  ⟨(World.cell?_of_block (a := p) hb).trans h.c0, (World.cell?_of_block (a := ⟨p.block, p.off + 1, none⟩) hb).trans h.c1, (World.cell?_of_block (a := ⟨p.block, p.off + 2, none⟩) hb).trans h.c2, (World.cell?_of_block (a := ⟨p.block, p.off + 3, none⟩) hb).trans h.c3,
    (World.cell?_of_block (a := ⟨p.block, p.off + 4, none⟩) hb).trans h.c4, (World.cell?_of_block (a := ⟨p.block, p.off + 5, none⟩) hb).trans h.c5, (World.cell?_of_block (a := ⟨p.block, p.off + 6, none⟩) hb).trans h.c6, (World.cell?_of_block (a := ⟨p.block, p.off + 7, none⟩) hb).trans h.c7⟩

/-- A slice of superblocks that reads as a list. -/
def Ss (w : World) (D : Nat) (A : Option Addr) (l : List Sup) : Prop := ∀ j s, l[j]? = some s → ∃ a, A = some a ∧ a.block < D ∧ SupAt w (a.add (j * 8)) s
theorem ss_nil (w : World) (D : Nat) (A : Option Addr) : Ss w D A [] := by intro j s h; simp at h
theorem Ss.below {w w' : World} {D D' : Nat} {A : Option Addr} {l : List Sup} (h : Ss w D A l) (hb : Below D w w') (hD : D ≤ D') : Ss w' D' A l := by
  intro j s hj
  obtain ⟨a, ha, hlt, hc⟩ := h j s hj
  exact ⟨a, ha, by omega, hc.same (hb.block _ (by rw [add_block]; exact hlt))⟩
theorem Ss.up {w w' : World} {A : Option Addr} {l : List Sup} (h : Ss w w.heap.size A l) (hb : Below w.heap.size w w') : Ss w' w'.heap.size A l := h.below hb hb.size

theorem own_ss {w : World} {base : Nat} {v : Value} {l : List Sup} (h : w.ownsRow base 31 8 v l.length (rowS l)) : ∃ A cap, v = .slice A l.length cap ∧ Ss w w.heap.size A l := by
  obtain ⟨A, cap, hv, _, hc⟩ := own_slice h
  refine ⟨A, cap, hv, fun j s hj => ?_⟩
  obtain ⟨a, ha, hlt, _⟩ := hc _ _ (rowS_at l j s hj 0 _ rfl)
  refine ⟨a, ha, hlt, supAt_flat fun i v hi => ?_⟩
  obtain ⟨a', ha', _, h2⟩ := hc _ _ (rowS_at l j s hj i v hi)
  rw [ha] at ha'
  injection ha' with ha'
  subst ha'
  exact h2

theorem info31 : (Tryd.prog.info? 31).map (fun i => (i.zero, i.size, i.bytes)) = some (some (supV Sup.zero), 8, 48) := by kernel_rfl

/-- One of a row's blocks is its own, or none. -/
theorem own_block_lt {w : World} {base size n : Nat} {e : TypeId} {v : Value} {xs : List Value} (h : w.ownsRow base e size v n xs) : ∀ g, v.ownBlock = some g → base ≤ g ∧ g < w.heap.size := by
  intro g hg
  refine ⟨own_low h g hg, ?_⟩
  rcases h.2 with ⟨rfl, _⟩ | ⟨g', cap, cur, rfl, hb, hh, _⟩
  · simp [Value.ownBlock] at hg
  · simp [Value.ownBlock] at hg
    subst hg
    rcases Nat.lt_or_ge g' w.heap.size with q | q
    · exact q
    · rw [Array.getElem?_eq_none q] at hh; cases hh

theorem Box.grown {X Y : World} {row : Option Nat} {b : Nat} {vs : List Value} (h : Box X b vs) (hg : X.grownBy Y row) (hn : row ≠ some b) : Box Y b vs := by
  have hl := h.lt
  obtain ⟨t, h⟩ := h
  exact ⟨t, (hg.block b hl fun e => hn e.symm).trans h⟩

/-- A list of texts stays where a row grows that isn't its own. -/
theorem Es.grown {X Y : World} {row : Option Nat} {A : Option Addr} {l : List ByteArray} (h : Es Value.string X X.heap.size A l) (hg : X.grownBy Y row) (hn : ∀ a, A = some a → row ≠ some a.block) : Es Value.string Y Y.heap.size A l := by
  intro j t hj
  obtain ⟨a, ha, hlt, hc⟩ := h j t hj
  refine ⟨a, ha, Nat.lt_of_lt_of_le hlt hg.size, ?_⟩
  rw [World.cell?_of_block (a := a.add j) (hg.block _ (by rw [add_block]; exact hlt) (by rw [add_block]; exact fun e => hn a ha e.symm))]
  exact hc

/-! ### A slice of superblocks that comes in -/
section
variable {H : Type} {enc : TypeId × Value → H} {W : World} {r : Reach} {base : Nat}

set_option maxRecDepth 100000 in
theorem open_supL {fuel : Nat} {cs : List Value} {x : DataW H × List MemPlace} (h : DataW.trod enc Tryd.prog W 0 (fun _ => true) true fuel 31 cs = some x) : ∃ s : Sup, cs = supC s ∧ s.wide := by
  obtain ⟨xs, n, _, _, hlen, hl, hel⟩ := DataW.trod_struct Tryd.underlying31 h
  rw [cells27] at hlen
  match xs, hl, cs, hlen with
  | [x0, x1, x2, x3, x4], _, [c0, c1, c2, c3, c4, c5, c6, c7], _ =>
    have h0 : DataW.trod enc Tryd.prog W 0 (fun _ => true) true n 3 (List.take (Tryd.prog.cellsOf 3) [c0, c1, c2, c3, c4, c5, c6, c7]) = some x0 := hel 0 _ rfl
    have h1 : DataW.trod enc Tryd.prog W 0 (fun _ => true) true n 29 (List.take (Tryd.prog.cellsOf 29) [c1, c2, c3, c4, c5, c6, c7]) = some x1 := hel 1 _ rfl
    have h2 : DataW.trod enc Tryd.prog W 0 (fun _ => true) true n 4 (List.take (Tryd.prog.cellsOf 4) [c5, c6, c7]) = some x2 := hel 2 _ rfl
    have h3 : DataW.trod enc Tryd.prog W 0 (fun _ => true) true n 4 (List.take (Tryd.prog.cellsOf 4) [c6, c7]) = some x3 := hel 3 _ rfl
    have h4 : DataW.trod enc Tryd.prog W 0 (fun _ => true) true n 4 (List.take (Tryd.prog.cellsOf 4) [c7]) = some x4 := hel 4 _ rfl
    rw [cells3] at h0
    rw [cells25] at h1
    rw [cells4] at h2 h3 h4
    obtain ⟨k, e0⟩ := open_i64 (x := x0) (by simpa using h0)
    obtain ⟨c, b, o, p, e1, b0, b1, b2, b3⟩ := open_vecL (x := x1) (by simpa using h1)
    obtain ⟨f2, e2⟩ := open_b (x := x2) (by simpa using h2)
    obtain ⟨f3, e3⟩ := open_b (x := x3) (by simpa using h3)
    obtain ⟨f4, e4⟩ := open_b (x := x4) (by simpa using h4)
    simp at e0 e1 e2 e3 e4
    obtain ⟨q1, q2, q3, q4⟩ := e1
    subst e0; subst q1; subst q2; subst q3; subst q4; subst e2; subst e3; subst e4
    exact ⟨⟨k, c, b, o, p, f2, f3, f4⟩, rfl, b0, b1, b2, b3⟩
theorem cellsSup : Tryd.prog.cellsOf 31 = 8 := by kernel_rfl

set_option maxRecDepth 100000 in
theorem open_sups {v : Value} {d : DataW H} {ps : List MemPlace} (hval : Value.okWide Tryd.prog W r base 41 v) (h : DataW.Trod enc Tryd.prog W 0 (fun _ => true) true 41 v d ps) :
    ∃ A c l, v = .slice A (l : List Sup).length c ∧ Ss W W.heap.size A l ∧ ∀ s ∈ l, s.wide := by
  obtain ⟨a0, len, cap, rfl⟩ := okWide_slice Tryd.underlying41 hval
  obtain ⟨fuel, hf⟩ := h
  rcases Go.Deep.open_slice Tryd.underlying41 hf with ⟨h0, _⟩ | ⟨a, len', cap', m, n, D, Pl, h1, _, hl, _, hm, _, hx⟩
  · have h0 : (.slice a0 len cap : Value) = .slice none 0 0 := by simpa [Value.cells] using h0
    exact ⟨none, 0, [], h0, ss_nil _ _ _, by simp⟩
  · have h1 : (.slice a0 len cap : Value) = .slice (some a) len' cap' := by simpa [Value.cells] using h1
    have hm' : m = cap' := by simpa using hm
    subst hm'
    rw [cellsSup] at hx
    have each : ∀ i, i < m → ∃ s : Sup, SupAt W (a.add (i * 8)) s ∧ s.wide := by
      intro i hi
      obtain ⟨cs', g1, g2⟩ := hx i hi
      obtain ⟨s, rfl, hs⟩ := open_supL g2
      obtain ⟨_, _, hcell⟩ := World.cells?_some g1
      refine ⟨s, supAt_flat fun j u hj => ?_, hs⟩
      have hj8 : j < 8 := (List.getElem?_eq_some_iff.1 hj).1
      have := hcell j hj8
      rw [Go.Deep.add_add] at this
      rw [this, hj]
    haveI : Inhabited Sup := ⟨Sup.zero⟩
    obtain ⟨Q, hQ⟩ := Go.Deep.choose_lt (α := Sup) (p := fun i s => SupAt W (a.add (i * 8)) s ∧ s.wide) each
    refine ⟨some a, m, (List.range len').map Q, by rw [h1]; simp, ?_, ?_⟩
    · intro j t hj
      simp only [List.getElem?_map, Option.map_eq_some_iff] at hj
      obtain ⟨i, hi, rfl⟩ := hj
      obtain ⟨hil, rfl⟩ := List.getElem?_eq_some_iff.1 hi
      simp only [List.length_range] at hil
      simp only [List.getElem_range]
      have hq := (hQ j (by omega)).1
      have hb := World.block_lt_of_cell? W (a.add (j * 8)) hq.c0
      rw [add_block] at hb
      exact ⟨a, rfl, hb, hq⟩
    · intro s hs
      obtain ⟨i, hi, rfl⟩ := List.mem_map.1 hs
      exact (hQ i (by have := List.mem_range.1 hi; omega)).2
end

/-! ### What is new -/
/-- It hands back a disk without a cache whose sectors lie in memory of its own, and a number. -/
def GivesN (s : List ByteArray) (f : Int) (x : Bool) (r : Int) (w : World) (e : Ending) (w' : World) : Prop :=
  ∃ A B n m, e = .returned (.tuple #[.agg #[.slice A s.length n, .slice B 0 m, .int .i64 f, .bool x], .int .i64 r]) ∧ Mem w' A n B m s [] ∧ Below w.heap.size w w' ∧ (∀ a, A = some a → w.heap.size ≤ a.block) ∧ B = none

set_option maxRecDepth 100000 in
set_option maxHeartbeats 1000000 in
theorem flush_new (A B : Option Addr) (n m : Nat) (s : List ByteArray) (c : List Wr) (f : Int) (w : World) (hm : Mem w A n B m s c) (hl : s.length ≤ 64) (hc : c.length ≤ maxLen) (hf : f < 9223372036854775808) (hf1 : f ≠ 1) (hx : c.any (misfitW s.length) = false) :
    Calls Tryd.prog 25 #[.agg #[.slice A s.length n, .slice B c.length m, .int .i64 f, .bool false]] w (GivesN (layL s c) (burnF f) false 0 w) := by
  have hfit := fits hx
  have hbu := fun w => burn_any A B s.length n c.length m f false w hf
  have hbd : burnD f false = false := by unfold burnD; rw [if_neg hf1]
  rw [hbd] at hbu
  have HM := Lib.hid hm; clear hm
  have HF := Lib.hid hfit; clear hfit
  have HC := Lib.hid hc; clear hc
  clear hbd hf1 hx
  generalize burnF f = f' at *
  have b1 := Box.new w [.slice A s.length n, .slice B c.length m, .int .i64 f, .bool false] 25
  have b1 := b1.alloc (.cells #[.slice none 0 0, .slice none 0 0, .int .i64 0, .bool false] 25)
  have b2 := Box.new2 w (.cells #[.slice A s.length n, .slice B c.length m, .int .i64 f, .bool false] 25) [.slice none 0 0, .slice none 0 0, .int .i64 0, .bool false] 25
  have B1 := Lib.hid b1
  have B2 := Lib.hid b2
  clear b1 b2
  go_enter Tryd.func25, Tryd.ntmps25
  go_wp2_with fail
  refine (hbu _).mono ?_
  rintro e w1 ⟨rfl, hb1⟩
  have b1 := B1.out.below hb1
  have b2 := B2.out.below hb1
  have k1 := b1.cell
  have z1 := b1.frozen
  have k2 := b2.cell
  have z2 := b2.frozen
  have b1' := b1.four (.slice A s.length n) (.slice B c.length m) (.int .i64 f') (.bool false)
  have b2' := b2.past4 (b := w.heap.size) (by simp) (.slice A s.length n) (.slice B c.length m) (.int .i64 f') (.bool false)
  have hbw := below4 (ext below2 hb1) (Nat.le_refl _) (.slice A s.length n) (.slice B c.length m) (.int .i64 f') (.bool false)
  have B3 := Lib.hid b1'
  have B4 := Lib.hid b2'
  have HB := Lib.hid hbw
  clear b1 b2 b1' b2' hbw hb1 B1 B2 hbu
  go_wp2_with fail
  generalize (((w1.setCell ⟨w.heap.size, 0, none⟩ (.slice A s.length n)).setCell ⟨w.heap.size, 1, none⟩ (.slice B c.length m)).setCell ⟨w.heap.size, 2, none⟩ (.int .i64 f')).setCell ⟨w.heap.size, 3, none⟩ (.bool false) = w2 at *
  clear k1 z1 k2 z2
  have hm2 := HM.out.up HB.out
  refine (lay_any A B n m s c w2 hm2.an hm2.es hm2.ws (by omega) HC.out (fun x hx => by have := HF.out x hx; omega)).mono ?_
  rintro e w3 ⟨v, rfl, hown, hb3⟩
  clear hm2
  obtain ⟨A', cap, rfl, _, _⟩ := own_es hown
  have l1 := B3.out.lt
  have l2 := B4.out.lt
  have b1 := B3.out.below hb3
  have b2 := B4.out.below hb3
  have k1 := b1.cell
  have z1 := b1.frozen
  have k2 := b2.cell
  have z2 := b2.frozen
  have HO := Lib.hid hown; clear hown
  have HB3 := Lib.hid hb3; clear hb3
  have HT := Lib.hid (And.intro l1 l2); clear l1 l2
  clear b1 b2 B3 B4
  generalize layL s c = l at *
  go_wp2_with fail
  have hown2 := own4 (ownsRow_setCell_below (ownsRow_setCell_below HO.out (a := ⟨w.heap.size, 0, none⟩) HT.out.1 (.slice A' l.length cap)) (a := ⟨w.heap.size, 1, none⟩) HT.out.1 (.slice none 0 0)) HT.out.2 (.slice A' l.length cap) (.slice none 0 0) (.int .i64 f') (.bool false)
  obtain ⟨hA2, hes⟩ := own_es2 hown2
  have hlow := own_low hown2
  refine bodyPost_ret (v := .tuple #[.agg #[.slice A' l.length cap, .slice none 0 0, .int .i64 f', .bool false], .int .i64 0]) (by simp [results, Tryd.results25, go_sem, k2]) rfl
    ⟨A', none, cap, 0, rfl, ⟨hes, ws_nil _ _ _, hA2, fun _ => rfl⟩, ?_, fun a h => ?_, rfl⟩
  · exact below4 (((ext HB.out HB3.out).setCell (p := ⟨w.heap.size, 0, none⟩) (Nat.le_refl _) _).setCell (p := ⟨w.heap.size, 1, none⟩) (Nat.le_refl _) _) (by omega) _ _ _ _
  · subst h
    have := hlow a.block rfl
    have := HB.out.size
    omega

set_option maxRecDepth 100000 in
set_option maxHeartbeats 4000000 in
theorem commit_new (A B : Option Addr) (n m : Nat) (s : List ByteArray) (c : List Wr) (f : Int) (x : Bool) (b : Sup) (w : World) (_hm : Mem w A n B m s c) (hl : (s.length : Int) ≤ 1000000) (hn : ((s.length : Int) - 2 == b.n) = true) (t : ByteArray) (he : ∀ v, Calls Tryd.prog 23 #[supV b] v fun e v' => e = .returned (.tuple #[.string t, .int .i64 0]) ∧ Below v.heap.size v v') (s1 : List ByteArray) (c1 : List Wr) (f1 : Int) (x1 : Bool) (hw : ∀ v, Below w.heap.size w v → Calls Tryd.prog 24 #[.agg #[.slice A s.length n, .slice B c.length m, .int .i64 f, .bool x], .int .i64 0, .string t] v (GivesD s1 c1 f1 x1 0 v)) (s2 : List ByteArray) (f2 : Int) (x2 : Bool) (e3 : Int) (hg : ∀ A1 B1 n1 m1 v, Mem v A1 n1 B1 m1 s1 c1 → Calls Tryd.prog 25 #[.agg #[.slice A1 s1.length n1, .slice B1 c1.length m1, .int .i64 f1, .bool x1]] v (GivesN s2 f2 x2 e3 v)) :
    Calls Tryd.prog 10 #[.agg #[.slice A s.length n, .slice B c.length m, .int .i64 f, .bool x], supV b] w (GivesN s2 f2 x2 e3 w) := by
  have hf := fun w => fits_any A B s.length n c.length m f x b w hl
  rw [hn] at hf
  clear hn hl
  obtain ⟨bn, bc, bb, bo, bp, bi, br, bd⟩ := b
  dsimp only [supV] at *
  have HF := Lib.hid hf; clear hf
  have HE := Lib.hid he; clear he
  have HW := Lib.hid hw; clear hw
  have HG := Lib.hid hg; clear hg
  have H0 := Lib.hid ((((Held.refl w).own [.slice A s.length n, .slice B c.length m, .int .i64 f, .bool x] 25 (n := 4) rfl).lay [.int .i64 bn, .int .u64 bc, .int .u64 bb, .int .u64 bo, .int .u64 bp, .bool bi, .bool br, .bool bd] 31).own [.slice none 0 0, .slice none 0 0, .int .i64 0, .bool false] 25 (n := 4) rfl)
  have BD := Lib.hid (((Box.new w [.slice A s.length n, .slice B c.length m, .int .i64 f, .bool x] 25).alloc (.cells #[.int .i64 bn, .int .u64 bc, .int .u64 bb, .int .u64 bo, .int .u64 bp, .bool bi, .bool br, .bool bd] 31)).alloc (.cells #[.slice none 0 0, .slice none 0 0, .int .i64 0, .bool false] 25))
  have BR := Lib.hid (Box.new ((w.alloc (.cells #[.slice A s.length n, .slice B c.length m, .int .i64 f, .bool x] 25)).alloc (.cells #[.int .i64 bn, .int .u64 bc, .int .u64 bb, .int .u64 bo, .int .u64 bp, .bool bi, .bool br, .bool bd] 31)) [.slice none 0 0, .slice none 0 0, .int .i64 0, .bool false] 25)
  go_enter Tryd.func10, Tryd.ntmps10
  go_wp2_with fail
  refine (HF.out _).mono ?_
  rintro e w1 ⟨rfl, hb⟩
  have H1 := Lib.hid (H0.out.up hb)
  have BD1 := Lib.hid (BD.out.below hb)
  have BR1 := Lib.hid (BR.out.below hb)
  clear hb H0 BD BR
  have kd := BD1.out.cell
  have ks := H1.out.b0.cell
  have kr := BR1.out.cell
  have fr := BR1.out.frozen
  have fd := BD1.out.frozen
  simp only [World.size_alloc] at ks kr fr
  go_wp2_with fail
  clear kd ks kr fr fd
  refine (HE.out _).mono ?_
  rintro e w2 ⟨rfl, hb⟩
  have H2 := Lib.hid (H1.out.up hb)
  have BD2 := Lib.hid (BD1.out.below hb)
  have BR2 := Lib.hid (BR1.out.below hb)
  clear hb H1 BD1 BR1
  have kd := BD2.out.cell
  have ks := H2.out.b0.cell
  have kr := BR2.out.cell
  have fr := BR2.out.frozen
  have fd := BD2.out.frozen
  simp only [World.size_alloc] at ks kr fr
  go_wp2_with fail
  clear kd ks kr fr fd
  refine (HW.out _ H2.out.below).mono ?_
  rintro e w3 ⟨A1, B1, n1, m1, rfl, hm1, hb⟩
  have H3 := Lib.hid (H2.out.up hb)
  have BD3 := Lib.hid (BD2.out.below hb)
  have BR3 := Lib.hid (BR2.out.below hb)
  have HM1 := Lib.hid hm1
  clear hb H2 BD2 BR2 hm1 _hm
  have kd := BD3.out.cell
  have ks := H3.out.b0.cell
  have kr := BR3.out.cell
  have fr := BR3.out.frozen
  have fd := BD3.out.frozen
  simp only [World.size_alloc] at ks kr fr
  have hm2 := HM1.out.four BD3.out A1 B1 s1.length n1 c1.length m1 f1 x1
  have br2 := BR3.out.past4 (b := w.heap.size) (by simp; omega) (.slice A1 s1.length n1) (.slice B1 c1.length m1) (.int .i64 f1) (.bool x1)
  have hh2 := H3.out.set4 (b := w.heap.size) ⟨4, by simp⟩ (.slice A1 s1.length n1) (.slice B1 c1.length m1) (.int .i64 f1) (.bool x1)
  simp only [World.size_alloc] at br2 hh2
  go_wp2_with fail
  generalize (((w3.setCell ⟨w.heap.size, 0, none⟩ (.slice A1 s1.length n1)).setCell ⟨w.heap.size, 1, none⟩ (.slice B1 c1.length m1)).setCell ⟨w.heap.size, 2, none⟩ (.int .i64 f1)).setCell ⟨w.heap.size, 3, none⟩ (.bool x1) = w4 at *
  clear kd ks kr fr fd
  have BR4 := Lib.hid br2
  have HM4 := Lib.hid hm2
  have H4 := Lib.hid hh2
  clear br2 hm2 hh2 H3 BD3 BR3 HM1
  refine (HG.out A1 B1 n1 m1 _ HM4.out).mono ?_
  rintro e w5 ⟨A2, B2, n2, m2, rfl, hm5, hb, hnew, rfl⟩
  have HW := Lib.hid (H4.out.below.size)
  have HNEW := Lib.hid hnew
  clear hnew
  have H5 := Lib.hid (H4.out.up hb)
  have BR5 := Lib.hid (BR4.out.below hb)
  have HM5 := Lib.hid hm5
  clear hb hm5 H4 BR4 HM4
  have kr := BR5.out.cell
  have fr := BR5.out.frozen
  go_wp2_with fail
  refine bodyPost_ret (v := .tuple #[.agg #[.slice A2 s2.length n2, .slice none 0 m2, .int .i64 f2, .bool x2], .int .i64 e3]) (by simp [results, Tryd.results10, go_sem, kr]) rfl ⟨A2, none, n2, m2, rfl, ?_, ?_, fun a h => ?_, rfl⟩
  · exact HM5.out.four BR5.out _ _ _ _ _ _ _ _
  · exact (H5.out.set4 (b := w.heap.size + 1 + 1) ⟨4, by simp⟩ _ _ _ _).below
  · have := HNEW.out a h
    have := HW.out
    omega

theorem commit_fresh (A B : Option Addr) (n m : Nat) (s : List ByteArray) (b : Sup) (w : World) (hm : Mem w A n B m s []) (hw : b.wide) (h1 : 1 ≤ s.length) (hl : s.length ≤ 64) (hr : b.right = true) (hn : ((s.length : Int) - 2 == b.n) = true) :
    Calls Tryd.prog 10 #[.agg #[.slice A s.length n, .slice B 0 m, .int .i64 0, .bool false], supV b] w (GivesN (layL s [(0, b.bytes)]) 0 false 0 w) := by
  have he := fun v => encode_any b v hw
  unfold Sup.encT Sup.encE at he
  simp only [hr, if_true] at he
  have hz : ¬ 64 < ((b.bytes).size : Int) := by rw [bytes_size]; decide
  have hx2 := fit_more (b := b.bytes) (c := []) h1 rfl (by rw [bytes_size]; decide)
  generalize b.bytes = y at *
  have hgo := fun v (hb : Below w.heap.size w v) => write_any A B n m s [] 0 0 false y v (hm.up hb) (reach_first h1) hz (by decide) rfl (by simp)
  exact commit_new A B n m s [] 0 false b w hm (by omega) hn _ he s [(0, y)] 0 false hgo (layL s [(0, y)]) 0 false 0 (fun A1 B1 n1 m1 v hv =>
    flush_new A1 B1 n1 m1 s [(0, y)] 0 v hv hl (by unfold maxLen; simp) (by decide) (by decide) hx2)
end Go.Proofs.YtphlebbihfcaoaaDoor
