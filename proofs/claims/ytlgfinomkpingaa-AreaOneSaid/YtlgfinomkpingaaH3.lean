/- The mask on a disk, layer 8: in plain words what is loaded of a disk, and what noting and saving a mask makes of it; and that both sides answer just that, for every disk that may be. No other condition. -/
import Derived.Test.YtlgfinomkpingaaH2
import Derived.Test.YtlgfinomkpingaaCP
import Derived.Test.YtlgfinomkpingaaE4
import Derived.Test.YtlgfinomkpingaaE5
namespace Go.Proofs.Ytlgfinomkpingaa
open Go.RowKit

/-- What is loaded where the sector holds b, on a disk of n sectors. -/
def loadT (n : Nat) (b : ByteArray) : Nat × Int :=
  if openE b = 0 then (if (numL (openT b)).2 = true then (if mrightB (numL (openT b)).1 ((n : Int) - 2) = true then ((numL (openT b)).1, 0) else (0, 2)) else (0, 2)) else (0, openE b)
/-- What is loaded of a disk. -/
def loadB (s : List ByteArray) (c : List Wr) (x : Bool) : Nat × Int := if reachE s.length 1 x = 0 then loadT s.length (holdsL c 1 (s.getD 1 e0)) else (0, reachE s.length 1 x)

/-- A mask's bytes, sealed. -/
def bytesM (k : Nat) : ByteArray := txt (sealed (be 4 k))
theorem bytesM_size (k : Nat) : (bytesM k).size = 8 := by
  unfold bytesM
  rw [txt_size, seal_length, be_length]

/-- What noting a mask makes of a disk. -/
def noteB (s : List ByteArray) (c : List Wr) (f : Int) (x : Bool) (k : Nat) : Ans :=
  if mrightB k ((s.length : Int) - 2) = true then (if x = true then ⟨s, c, f, true, 6⟩ else if f = 1 then ⟨s, c, 0, true, 6⟩ else ⟨s, c ++ [(1, bytesM k)], burnF f, false, 0⟩) else ⟨s, c, f, x, 1⟩
/-- What saving a mask makes of a disk. -/
def saveB (s : List ByteArray) (c : List Wr) (f : Int) (x : Bool) (k : Nat) : Ans :=
  if mrightB k ((s.length : Int) - 2) = true then (if x = true then ⟨s, c, f, true, 6⟩ else if f = 1 then ⟨s, c, 0, true, 6⟩ else if f = 2 then ⟨s, c ++ [(1, bytesM k)], 0, true, 6⟩ else ⟨layL s (c ++ [(1, bytesM k)]), [], burnF (burnF f), false, 0⟩) else ⟨s, c, f, x, 1⟩

theorem mright_len {k n : Nat} (h : mrightB k ((n : Int) - 2) = true) : 3 ≤ n := by
  unfold mrightB at h
  simp only [Bool.and_eq_true, decide_eq_true_eq] at h
  omega

theorem loadB_lt (s : List ByteArray) (c : List Wr) (x : Bool) : (loadB s c x).1 < 4294967296 := by
  unfold loadB loadT
  split
  · split
    · split
      · split
        · exact numL_lt _
        · decide
      · show (0 : Nat) < _
        decide
    · show (0 : Nat) < _
      decide
  · show (0 : Nat) < _
    decide

theorem bput_mask (k : Nat) (hk : k < 4294967296) (w : World) : Calls Try.prog 83 #[.int .u32 (k : Nat)] w fun e w' => e = .returned (.string (txt (be 4 k))) ∧ Below w.heap.size w w' := by
  have := put32_any (k : Int) w (by omega) (by omega)
  rw [Int.toNat_natCast] at this
  exact this
theorem bseal_mask (k : Nat) (w : World) : Calls Try.prog 81 #[.string (txt (be 4 k))] w fun e w' => e = .returned (.string (bytesM k)) ∧ Below w.heap.size w w' :=
  seal_any (txt (be 4 k)) w (by rw [txt_size, be_length]; decide)

set_option maxRecDepth 100000 in
theorem bnote_any (A B : Option Addr) (n m : Nat) (s : List ByteArray) (c : List Wr) (f : Int) (x : Bool) (k : Nat) (w : World) (hm : Mem w A n B m s c) (hk : k < 4294967296) (hl : s.length ≤ 64) (hc : c.length ≤ 900) (hf : f < 9223372036854775808) :
    Calls Try.prog 59 #[.agg #[.slice A s.length n, .slice B c.length m, .int .i64 f, .bool x], .int .u32 (k : Nat)] w (GivesD (noteB s c f x k).s (noteB s c f x k).c (noteB s c f x k).f (noteB s c f x k).x (noteB s c f x k).e w) := by
  have hp := fun v => bput_mask k hk v
  have hs := fun v => bseal_mask k v
  have hz : ¬ 64 < ((bytesM k).size : Int) := by rw [bytesM_size]; decide
  unfold noteB
  generalize bytesM k = y at *
  generalize txt (be 4 k) = t at *
  cases hn : mrightB k ((s.length : Int) - 2) with
  | false =>
    rw [if_neg (by simp)]
    exact bnote_misfit A B n m s c f x k w hm (by omega) hk hn
  | true =>
    have h3 := mright_len hn
    have hrf : reachE s.length 1 false = 0 := reach_in (by omega) (by omega)
    rw [if_pos rfl]
    cases x with
    | true =>
      rw [if_pos rfl]
      exact bnote_goes A B n m s c f true k w (by omega) hk hn t y hp hs s c f true 6 (fun v hb => write_stops A B n m s c f 1 true y v (hm.up hb) (by rw [reach_dead]; decide))
    | false =>
      rw [if_neg (by simp)]
      by_cases hf1 : f = 1
      · subst hf1
        rw [if_pos rfl]
        exact bnote_goes A B n m s c 1 false k w (by omega) hk hn t y hp hs s c 0 true 6 (fun v hb => write_dies A B n m s c 1 1 false y v (hm.up hb) hrf hz (by decide) rfl)
      · rw [if_neg hf1]
        have hbd : burnD f false = false := by unfold burnD; rw [if_neg hf1]
        exact bnote_goes A B n m s c f false k w (by omega) hk hn t y hp hs s (c ++ [(1, y)]) (burnF f) false 0 (fun v hb => write_any A B n m s c f 1 false y v (hm.up hb) hrf hz hf hbd (by omega))

set_option maxRecDepth 100000 in
theorem bsave_any (A B : Option Addr) (n m : Nat) (s : List ByteArray) (c : List Wr) (f : Int) (x : Bool) (k : Nat) (w : World) (hm : Mem w A n B m s c) (hk : k < 4294967296) (hl : s.length ≤ 64) (hc : c.length ≤ 900) (hf : f < 9223372036854775808) (hx : c.any (misfitW s.length) = false) :
    Calls Try.prog 38 #[.agg #[.slice A s.length n, .slice B c.length m, .int .i64 f, .bool x], .int .u32 (k : Nat)] w (GivesD (saveB s c f x k).s (saveB s c f x k).c (saveB s c f x k).f (saveB s c f x k).x (saveB s c f x k).e w) := by
  have hno := fun v (hb : Below w.heap.size w v) => bnote_any A B n m s c f x k v (hm.up hb) hk hl hc hf
  unfold noteB at hno
  unfold saveB
  have hz := bytesM_size k
  generalize bytesM k = y at *
  cases hn : mrightB k ((s.length : Int) - 2) with
  | false =>
    simp only [hn, Bool.false_eq_true, if_false] at hno ⊢
    exact bsave_stops A B n m s c f x k w s c f x 1 hno (by decide)
  | true =>
    have h3 := mright_len hn
    simp only [hn, if_true] at hno ⊢
    cases x with
    | true =>
      simp only [if_true] at hno ⊢
      exact bsave_stops A B n m s c f true k w s c f true 6 hno (by decide)
    | false =>
      simp only [Bool.false_eq_true, if_false] at hno ⊢
      by_cases hf1 : f = 1
      · subst hf1
        simp only [if_true] at hno ⊢
        exact bsave_stops A B n m s c 1 false k w s c 0 true 6 hno (by decide)
      · rw [if_neg hf1] at hno ⊢
        have hx2 := fit_add (i := 1) (b := y) (by omega) (by omega) hx (by omega)
        have hlen : (c ++ [((1 : Int), y)]).length ≤ 1000 := by rw [List.length_append]; simp; omega
        generalize c ++ [((1 : Int), y)] = z at *
        by_cases hf2 : f = 2
        · subst hf2
          rw [if_pos rfl]
          refine bsave_goes A B n m s c 2 false k w s z 1 false hno s z 0 true 6 (fun A1 B1 n1 m1 v hv => ?_)
          refine (flush_dies A1 B1 s.length n1 z.length m1 v).mono ?_
          rintro e v' ⟨rfl, hb⟩
          exact ⟨A1, B1, n1, m1, rfl, hv.up hb, hb⟩
        · rw [if_neg hf2]
          have hb1 : burnF f ≠ 1 := by unfold burnF; split <;> (try split) <;> omega
          have hb2 : burnF f < 9223372036854775808 := by unfold burnF; split <;> (try split) <;> omega
          exact bsave_goes A B n m s c f false k w s z (burnF f) false hno (layL s z) [] (burnF (burnF f)) false 0 (fun A1 B1 n1 m1 v hv =>
            flush_any A1 B1 n1 m1 s z (burnF f) v hv hl (by unfold maxLen; omega) hb2 hb1 hx2)

/-! ### The document -/
set_option maxRecDepth 100000 in
theorem rbload_any (A B : Option Addr) (n m : Nat) (s : List ByteArray) (c : List Wr) (f : Int) (x : Bool) (w : World) (hm : Mem w A n B m s c) (hl : s.length ≤ 64) (hc : c.length ≤ 1000) (hz : ((holdsL c 1 (s.getD 1 e0)).size : Int) ≤ 3000) :
    Calls Try.prog 23 #[.agg #[.slice A s.length n, .slice B c.length m, .int .i64 f, .bool x]] w fun e w' => e = .returned (.tuple #[.int .u32 ((loadB s c x).1 : Nat), .int .i64 (loadB s c x).2]) ∧ Below w.heap.size w w' := by
  unfold loadB
  by_cases h0 : reachE s.length 1 x = 0
  · rw [if_pos h0]
    obtain ⟨hx, _, h1⟩ := reach_zero h0
    subst hx
    have hi : s[1]? = some (s.getD 1 e0) := by rw [List.getD_eq_getElem?_getD, List.getElem?_eq_getElem (by omega)]; rfl
    generalize s.getD 1 e0 = t at *
    have hr : ∀ v, Below w.heap.size w v → Calls Try.prog 29 #[.agg #[.slice A s.length n, .slice B c.length m, .int .i64 f, .bool false], .int .i64 1] v fun e v' => e = .returned (.tuple #[.string (holdsL c 1 t), .int .i64 0]) ∧ Below v.heap.size v v' :=
      fun v hb => rread_any A B n m s c f 1 t v (hm.up hb) hi (by unfold maxLen; omega)
    have ho := fun v => ropen_any (holdsL c 1 t) v hz
    generalize holdsL c 1 t = y at *
    unfold loadT
    by_cases he : openE y = 0
    · rw [if_pos he]
      rw [he] at ho
      have hg := fun v => rget32_any (openT y) v
      have hk := numL_lt (openT y)
      generalize openT y = u at *
      generalize numL u = q at *
      obtain ⟨k, b⟩ := q
      dsimp only at *
      cases b with
      | false =>
        rw [if_neg (by simp)]
        exact rbload_none A B n m s c f false w y u k hr ho hg
      | true =>
        rw [if_pos rfl]
        cases hn : mrightB k ((s.length : Int) - 2) with
        | true =>
          rw [if_pos rfl]
          exact rbload_yes A B n m s c f false w y u k hr ho hg (by omega) hk hn
        | false =>
          rw [if_neg (by simp)]
          exact rbload_misfit A B n m s c f false w y u k hr ho hg (by omega) hk hn
    · rw [if_neg he]
      exact rbload_bad A B n m s c f false w y (openT y) (openE y) hr ho he
  · rw [if_neg h0]
    exact rbload_stops A B n m s c f x w ⟨#[]⟩ (reachE s.length 1 x) (fun v _ => rread_stops A B n m s c f 1 x v h0) h0

theorem rbput_mask (k : Nat) (hk : k < 4294967296) (w : World) : Calls Try.prog 42 #[.int .u32 (k : Nat)] w fun e w' => e = .returned (.string (txt (be 4 k))) ∧ Below w.heap.size w w' := by
  have := rput32_any (k : Int) w (by omega) (by omega)
  rw [Int.toNat_natCast] at this
  exact this
theorem rbseal_mask (k : Nat) (w : World) : Calls Try.prog 41 #[.string (txt (be 4 k))] w fun e w' => e = .returned (.string (bytesM k)) ∧ Below w.heap.size w w' :=
  rseal_any (txt (be 4 k)) w (by rw [txt_size, be_length]; decide)

end Go.Proofs.Ytlgfinomkpingaa
