/- The superblock on a disk, layer 7: in plain words what is loaded of a disk, and what a commit makes of it; and that both sides answer just that, for every disk that may be. Under (the program's alone): both package variables as they are laid. -/
import Derived.Test.YtjkgellkkjjnbaaGreatDoorKI
import Derived.Test.YtjkgellkkjjnbaaGreatDoorT4
import Derived.Test.YtjkgellkkjjnbaaGreatDoorKF
namespace Go.Proofs.YtjkgellkkjjnbaaGreatDoor
open Go.RowKit

/-- What is loaded where the sector holds bytes that are D, on a disk of n sectors. -/
def loadS (n : Nat) (D : Sup × Int) : Sup × Int := if D.2 = 0 then (if ((n : Int) - 2 == D.1.n) = true then D else (Sup.zero, 2)) else (Sup.zero, D.2)
/-- What is loaded of a disk whose sector 0 surely holds t. -/
def loadD (s : List ByteArray) (c : List Wr) (x : Bool) (t : ByteArray) : Sup × Int := if x = true then (Sup.zero, 6) else loadS s.length (dec (holdsL c 0 t))

/-- What a commit makes of a disk. -/
def commitD (s : List ByteArray) (c : List Wr) (f : Int) (x : Bool) (b : Sup) : Ans :=
  if (((s.length : Int) - 2 == b.n) && b.right) = true then
    (if x = true then ⟨s, c, f, true, 6⟩ else if f = 1 then ⟨s, c, 0, true, 6⟩ else if f = 2 then ⟨s, c ++ [(0, b.bytes)], 0, true, 6⟩ else ⟨layL s (c ++ [(0, b.bytes)]), [], burnF (burnF f), false, 0⟩)
  else ⟨s, c, f, x, 1⟩

theorem bytes_size (b : Sup) : b.bytes.size = 41 := by
  unfold Sup.bytes
  rw [txt_size, seal_length, body_length]



/-! ### The code -/
set_option maxRecDepth 100000 in
theorem load_any (A B : Option Addr) (n m : Nat) (s : List ByteArray) (c : List Wr) (f : Int) (x : Bool) (t : ByteArray) (a : Addr) (w : World) (hm : Mem w A n B m s c) (hi : s[0]? = some t) (hl : s.length ≤ 64) (hc : c.length ≤ 1000) (hz : ((holdsL c 0 t).size : Int) ≤ 3000) (hg : Glob w a) :
    Calls Tryz.prog 28 #[.agg #[.slice A s.length n, .slice B c.length m, .int .i64 f, .bool x]] w fun e w' => e = .returned (.tuple #[supV (loadD s c x t).1, .int .i64 (loadD s c x t).2]) ∧ Below w.heap.size w w' := by
  cases x with
  | true => exact load_stops A B n m s c f true w ⟨#[]⟩ 6 (fun v _ => read_stops A B n m s c f 0 true v (by rw [reach_dead]; decide)) (by decide)
  | false =>
    have hr : ∀ v, Below w.heap.size w v → Calls Tryz.prog 54 #[.agg #[.slice A s.length n, .slice B c.length m, .int .i64 f, .bool false], .int .i64 0] v fun e v' => e = .returned (.tuple #[.string (holdsL c 0 t), .int .i64 0]) ∧ Below v.heap.size v v' :=
      fun v hb => read_any A B n m s c f 0 t v (hm.up hb) hi (by omega)
    have hd := fun (v : World) (hb : Below w.heap.size w v) => decode_any (holdsL c 0 t) a v hz (hg.up hb)
    unfold loadD loadS
    rw [if_neg (by simp)]
    generalize dec (holdsL c 0 t) = D at *
    obtain ⟨b, e2⟩ := D
    dsimp only at *
    by_cases h2 : e2 = 0
    · subst h2
      rw [if_pos rfl]
      cases hn : ((s.length : Int) - 2 == b.n) with
      | true =>
        rw [if_pos rfl]
        exact load_yes A B n m s c f false w (holdsL c 0 t) b hr hd (by omega) hn
      | false =>
        rw [if_neg (by simp)]
        exact load_misfit A B n m s c f false w (holdsL c 0 t) b hr hd (by omega) hn
    · rw [if_neg h2]
      exact load_bad A B n m s c f false w (holdsL c 0 t) b e2 hr hd h2

set_option maxRecDepth 100000 in
theorem commit_any (A B : Option Addr) (n m : Nat) (s : List ByteArray) (c : List Wr) (f : Int) (x : Bool) (b : Sup) (w : World) (hm : Mem w A n B m s c) (hw : b.wide) (h1 : 1 ≤ s.length) (hl : s.length ≤ 64) (hc : c.length ≤ 900) (hf : f < 9223372036854775808) (hx : c.any (misfitW s.length) = false) :
    Calls Tryz.prog 51 #[.agg #[.slice A s.length n, .slice B c.length m, .int .i64 f, .bool x], supV b] w (GivesD (commitD s c f x b).s (commitD s c f x b).c (commitD s c f x b).f (commitD s c f x b).x (commitD s c f x b).e w) := by
  have he := fun v => encode_any b v hw
  unfold Sup.encT Sup.encE at he
  have hz : ¬ 64 < ((b.bytes).size : Int) := by rw [bytes_size]; decide
  have hx2 := fit_more (b := b.bytes) h1 hx (by rw [bytes_size]; decide)
  have hl' : (s.length : Int) ≤ 1000000 := by omega
  have hrf := reach_first h1
  unfold commitD
  generalize b.bytes = y at *
  have hlen : (c ++ [((0 : Int), y)]).length ≤ 1000 := by rw [List.length_append]; simp; omega
  cases hr : b.right with
  | false =>
    simp only [hr, Bool.false_eq_true, if_false] at he
    rw [Bool.and_false, if_neg (by simp)]
    cases hn : ((s.length : Int) - 2 == b.n) with
    | false => exact commit_misfit A B n m s c f x b w hm hl' hn
    | true => exact commit_wrong A B n m s c f x b w hm hl' hn 1 _ he (by decide)
  | true =>
    simp only [hr, if_true] at he
    rw [Bool.and_true]
    cases hn : ((s.length : Int) - 2 == b.n) with
    | false =>
      rw [if_neg (by simp)]
      exact commit_misfit A B n m s c f x b w hm hl' hn
    | true =>
      rw [if_pos rfl]
      cases x with
      | true =>
        rw [if_pos rfl]
        exact commit_stops A B n m s c f true b w hm hl' hn _ he 6 s c f true (fun v hb => write_stops A B n m s c f 0 true _ v (hm.up hb) (by rw [reach_dead]; decide)) (by decide)
      | false =>
        rw [if_neg (by simp)]
        by_cases hf1 : f = 1
        · subst hf1
          rw [if_pos rfl]
          exact commit_stops A B n m s c 1 false b w hm hl' hn _ he 6 s c 0 true (fun v hb => write_dies A B n m s c 1 0 false _ v (hm.up hb) hrf hz (by decide) rfl) (by decide)
        · rw [if_neg hf1]
          have hbd : burnD f false = false := by unfold burnD; rw [if_neg hf1]
          have hgo := fun v (hb : Below w.heap.size w v) => write_any A B n m s c f 0 false y v (hm.up hb) hrf hz hf hbd (by omega)
          generalize c ++ [((0 : Int), y)] = k at *
          by_cases hf2 : f = 2
          · subst hf2
            rw [if_pos rfl]
            refine commit_goes A B n m s c 2 false b w hm hl' hn _ he s k 1 false hgo s k 0 true 6 (fun A1 B1 n1 m1 v hv => ?_)
            refine (flush_dies A1 B1 s.length n1 k.length m1 v).mono ?_
            rintro e v' ⟨rfl, hb⟩
            exact ⟨A1, B1, n1, m1, rfl, hv.up hb, hb⟩
          · rw [if_neg hf2]
            have hb1 : burnF f ≠ 1 := by unfold burnF; split <;> (try split) <;> omega
            have hb2 : burnF f < 9223372036854775808 := by unfold burnF; split <;> (try split) <;> omega
            exact commit_goes A B n m s c f false b w hm hl' hn _ he s k (burnF f) false hgo (layL s k) [] (burnF (burnF f)) false 0 (fun A1 B1 n1 m1 v hv =>
              flush_any A1 B1 n1 m1 s k (burnF f) v hv hl (by unfold maxLen; omega) hb2 hb1 hx2)


/-! ### The document -/
set_option maxRecDepth 100000 in
theorem rload_any (A B : Option Addr) (n m : Nat) (s : List ByteArray) (c : List Wr) (f : Int) (x : Bool) (t : ByteArray) (w : World) (hm : Mem w A n B m s c) (hi : s[0]? = some t) (hl : s.length ≤ 64) (hc : c.length ≤ 1000) (hz : ((holdsL c 0 t).size : Int) ≤ 3000) :
    Calls Tryz.prog 31 #[.agg #[.slice A s.length n, .slice B c.length m, .int .i64 f, .bool x]] w fun e w' => e = .returned (.tuple #[supV (loadD s c x t).1, .int .i64 (loadD s c x t).2]) ∧ Below w.heap.size w w' := by
  cases x with
  | true => exact rload_stops A B n m s c f true w ⟨#[]⟩ 6 (fun v _ => rread_stops A B n m s c f 0 true v (by rw [reach_dead]; decide)) (by decide)
  | false =>
    have hr : ∀ v, Below w.heap.size w v → Calls Tryz.prog 61 #[.agg #[.slice A s.length n, .slice B c.length m, .int .i64 f, .bool false], .int .i64 0] v fun e v' => e = .returned (.tuple #[.string (holdsL c 0 t), .int .i64 0]) ∧ Below v.heap.size v v' :=
      fun v hb => rread_any A B n m s c f 0 t v (hm.up hb) hi (by unfold maxLen; omega)
    have hd := fun (v : World) (hb : Below w.heap.size w v) => (fun _ => rdecode_any (holdsL c 0 t) v hz) hb
    unfold loadD loadS
    rw [if_neg (by simp)]
    generalize dec (holdsL c 0 t) = D at *
    obtain ⟨b, e2⟩ := D
    dsimp only at *
    by_cases h2 : e2 = 0
    · subst h2
      rw [if_pos rfl]
      cases hn : ((s.length : Int) - 2 == b.n) with
      | true =>
        rw [if_pos rfl]
        exact rload_yes A B n m s c f false w (holdsL c 0 t) b hr hd (by omega) hn
      | false =>
        rw [if_neg (by simp)]
        exact rload_misfit A B n m s c f false w (holdsL c 0 t) b hr hd (by omega) hn
    · rw [if_neg h2]
      exact rload_bad A B n m s c f false w (holdsL c 0 t) b e2 hr hd h2

set_option maxRecDepth 100000 in
theorem rcommit_any (A B : Option Addr) (n m : Nat) (s : List ByteArray) (c : List Wr) (f : Int) (x : Bool) (b : Sup) (w : World) (hm : Mem w A n B m s c) (hw : b.wide) (h1 : 1 ≤ s.length) (hl : s.length ≤ 64) (hc : c.length ≤ 900) (hf : f < 9223372036854775808) (hx : c.any (misfitW s.length) = false) :
    Calls Tryz.prog 80 #[.agg #[.slice A s.length n, .slice B c.length m, .int .i64 f, .bool x], supV b] w (GivesD (commitD s c f x b).s (commitD s c f x b).c (commitD s c f x b).f (commitD s c f x b).x (commitD s c f x b).e w) := by
  have he := fun v => rencode_any b v hw
  unfold Sup.encT Sup.encE at he
  have hz : ¬ 64 < ((b.bytes).size : Int) := by rw [bytes_size]; decide
  have hx2 := fit_more (b := b.bytes) h1 hx (by rw [bytes_size]; decide)
  have hl' : (s.length : Int) ≤ 1000000 := by omega
  have hrf := reach_first h1
  unfold commitD
  generalize b.bytes = y at *
  have hlen : (c ++ [((0 : Int), y)]).length ≤ 1000 := by rw [List.length_append]; simp; omega
  cases hr : b.right with
  | false =>
    simp only [hr, Bool.false_eq_true, if_false] at he
    rw [Bool.and_false, if_neg (by simp)]
    exact rcommit_wrong A B n m s c f x b w hm 1 _ he (by decide)
  | true =>
    simp only [hr, if_true] at he
    rw [Bool.and_true]
    cases hn : ((s.length : Int) - 2 == b.n) with
    | false =>
      rw [if_neg (by simp)]
      exact rcommit_misfit A B n m s c f x b w hm hl' hn _ he
    | true =>
      rw [if_pos rfl]
      cases x with
      | true =>
        rw [if_pos rfl]
        exact rcommit_stops A B n m s c f true b w hm hl' hn _ he 6 s c f true (fun v hb => rwrite_stops A B n m s c f 0 true _ v (hm.up hb) (by rw [reach_dead]; decide)) (by decide)
      | false =>
        rw [if_neg (by simp)]
        by_cases hf1 : f = 1
        · subst hf1
          rw [if_pos rfl]
          exact rcommit_stops A B n m s c 1 false b w hm hl' hn _ he 6 s c 0 true (fun v hb => rwrite_dies A B n m s c 1 0 false _ v (hm.up hb) hrf hz (by decide) rfl) (by decide)
        · rw [if_neg hf1]
          have hbd : burnD f false = false := by unfold burnD; rw [if_neg hf1]
          have hgo := fun v (hb : Below w.heap.size w v) => rwrite_any A B n m s c f 0 false y v (hm.up hb) hrf hz hf hbd (by omega)
          generalize c ++ [((0 : Int), y)] = k at *
          by_cases hf2 : f = 2
          · subst hf2
            rw [if_pos rfl]
            refine rcommit_goes A B n m s c 2 false b w hm hl' hn _ he s k 1 false hgo s k 0 true 6 (fun A1 B1 n1 m1 v hv => ?_)
            refine (rflush_dies A1 B1 s.length n1 k.length m1 v).mono ?_
            rintro e v' ⟨rfl, hb⟩
            exact ⟨A1, B1, n1, m1, rfl, hv.up hb, hb⟩
          · rw [if_neg hf2]
            have hb1 : burnF f ≠ 1 := by unfold burnF; split <;> (try split) <;> omega
            have hb2 : burnF f < 9223372036854775808 := by unfold burnF; split <;> (try split) <;> omega
            exact rcommit_goes A B n m s c f false b w hm hl' hn _ he s k (burnF f) false hgo (layL s k) [] (burnF (burnF f)) false 0 (fun A1 B1 n1 m1 v hv =>
              rflush_any A1 B1 n1 m1 s k (burnF f) v hv hl (by unfold maxLen; omega) hb2 hb1 hx2)

end Go.Proofs.YtjkgellkkjjnbaaGreatDoor
