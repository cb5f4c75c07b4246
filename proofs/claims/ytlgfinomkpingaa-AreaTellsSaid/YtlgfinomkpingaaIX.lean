/- Blocks on a disk, layer 9: all blocks of a disk, both sides, over what reading one answers; two rows of texts compared. No other condition but that the lists lie in memory. -/
import Derived.Test.YtlgfinomkpingaaI1
import Derived.Test.YtlgfinomkpingaaD5
import Derived.Test.YtlgfinomkpingaaE4
import Derived.Test.YtlgfinomkpingaaE5
namespace Go.Proofs.Ytlgfinomkpingaa
open Go.RowKit

/-- The first refusal of so many reads, or what they all read. -/
def goL (rd : Nat → ByteArray × Int) (N : Nat) : List ByteArray × Int :=
  match (List.range N).find? (fun k => (rd k).2 != 0) with
  | some k => ([], (rd k).2)
  | none => ((List.range N).map (fun k => (rd k).1), 0)

theorem goL_stop {rd : Nat → ByteArray × Int} {N k : Nat} (hk : k < N) (h : ∀ j, j < k → (rd j).2 = 0) (h1 : (rd k).2 ≠ 0) : goL rd N = ([], (rd k).2) := by
  have : (List.range N).find? (fun k => (rd k).2 != 0) = some k := by
    rw [List.find?_range_eq_some]
    refine ⟨by simpa using h1, by simpa using hk, fun j hj => by simp [h j hj]⟩
  unfold goL
  rw [this]

theorem goL_all {rd : Nat → ByteArray × Int} {N : Nat} (h : ∀ j, j < N → (rd j).2 = 0) : goL rd N = ((List.range N).map (fun k => (rd k).1), 0) := by
  have : (List.range N).find? (fun k => (rd k).2 != 0) = none := by
    rw [List.find?_range_eq_none]
    exact fun j hj => by simp [h j hj]
  unfold goL
  rw [this]

theorem range_snoc (rd : Nat → ByteArray × Int) (k : Nat) : (List.range (k + 1)).map (fun k => (rd k).1) = (List.range k).map (fun k => (rd k).1) ++ [(rd k).1] := by
  rw [List.range_succ, List.map_append]; rfl

theorem zero_step {rd : Nat → ByteArray × Int} {k : Nat} (h : ∀ j, j < k → (rd j).2 = 0) (h1 : (rd k).2 = 0) : ∀ j, j < k + 1 → (rd j).2 = 0 := by
  intro j hj
  by_cases e : j = k
  · rw [e]; exact h1
  · exact h j (by omega)

/-- It hands back a row of texts and a number, and leaves what was there as it was. -/
def GivesT (l : List ByteArray) (r : Int) (w : World) (e : Ending) (w' : World) : Prop :=
  ∃ (A : Option Addr) (n : Nat), e = .returned (.tuple #[.slice A l.length n, .int .i64 r]) ∧ Es Value.string w' w'.heap.size A l ∧ Below w.heap.size w w'

theorem gives_none {r : Int} {w w' : World} (h : Below w.heap.size w w') : GivesT [] r w (.returned (.tuple #[.slice none 0 0, .int .i64 r])) w' := ⟨none, 0, rfl, es_nil _ _ _ _, h⟩

set_option maxHeartbeats 1000000 in
theorem texts_any (A1 A2 : Option Addr) (c1 c2 : Nat) (l1 l2 : List ByteArray) (w : World) (h1 : Es Value.string w w.heap.size A1 l1) (h2 : Es Value.string w w.heap.size A2 l2) (m1 : l1.length ≤ 1000000) :
    Calls Try.prog 16 #[.slice A1 l1.length c1, .slice A2 l2.length c2] w fun e w' => e = .returned (.bool (decide (l1 = l2))) ∧ Below w.heap.size w w' := by
  have H1 := Lib.hid h1; clear h1
  have H2 := Lib.hid h2; clear h2
  by_cases hl : l1.length = l2.length
  rotate_left
  · have hli : ((l1.length : Int) == (l2.length : Int)) = false := by rw [beq_eq_false_iff_ne]; omega
    have hnb : ((l1.length : Int) != (l2.length : Int)) = true := by simp [bne, hli]
    rw [decide_eq_false (fun e => hl (by rw [e]))]
    clear hl
    go_enter Try.func16, Try.ntmps16
    go_wp2
    go_ret
    exact ⟨rfl, Below.refl _ _⟩
  have hli : ((l1.length : Int) == (l2.length : Int)) = true := by simp [hl]
  have hnb : ((l1.length : Int) != (l2.length : Int)) = false := by simp [bne, hli]
  have HL := Lib.hid hl; clear hl
  have hy := fun (e : l1 = l2) => (decide_eq_true e).symm
  have hn := fun (e : l1 ≠ l2) => (decide_eq_false e).symm
  generalize decide (l1 = l2) = r at *
  have HY := Lib.hid hy; clear hy
  have HN := Lib.hid hn; clear hn
  go_enter Try.func16, Try.ntmps16
  go_wp2
  go_loopw [5] (fun i wr => ∃ k n : Nat, k ≤ l1.length ∧ i = .int .i64 k ∧ Hid (l1.take k = l2.take k) ∧ wr = w.drewN n) (fun i _ => l1.length - (intOf i).toNat)
  case atStart => exact ⟨0, 0, by omega, rfl, by simp [Hid], rfl⟩
  case round =>
    obtain ⟨k, n, hk, rfl, hp, rfl⟩ := hrel
    by_cases hlt : k < l1.length
    · have hlt2 : k < l2.length := by rw [← HL.out]; exact hlt
      obtain ⟨a1, rfl, hb1, hc1⟩ := H1.out k l1[k] (List.getElem?_eq_getElem hlt)
      obtain ⟨a2, rfl, hb2, hc2⟩ := H2.out k l2[k] (List.getElem?_eq_getElem hlt2)
      have hs := eq_take_step hlt hlt2 hp.out
      have hh := eq_take_no hlt hlt2
      have HS := Lib.hid hs; clear hs
      have HH := Lib.hid hh; clear hh
      clear hp
      generalize l1[k] = x at *
      generalize l2[k] = y at *
      by_cases hxy : x = y
      · have he : (x.toList == y.toList) = true := by rw [text_eq, decide_eq_true hxy]
        have HX := Lib.hid hxy; clear hxy
        go_wp2
        go_quiet (fail)
        go_wp2
        go_roundw
        case rel => exact ⟨k + 1, _, by omega, by go_num, HS.out HX.out, rfl⟩
        case measure => simp [intOf]; omega
      · have he : (x.toList == y.toList) = false := by rw [text_eq, decide_eq_false hxy]
        have hne := HN.out (HH.out hxy)
        have HF := Lib.hid hne; clear hne
        clear hxy HH HS
        go_wp2
        go_quiet (fail)
        go_wp2
        go_ret
        exact ⟨ret_bool HF.out, ext_drewN (ext_drewN (Below.refl _ _) _) _⟩
    · obtain rfl : k = l1.length := by omega
      have hq := HY.out (eq_take_yes HL.out hp.out)
      have HQ := Lib.hid hq; clear hq
      clear hp
      go_wp2
      go_ret
      exact ⟨ret_bool HQ.out, ext_drewN (Below.refl _ _) _⟩

/-! ### The code -/
set_option maxRecDepth 100000 in
set_option maxHeartbeats 4000000 in
theorem aall_go (A B : Option Addr) (n m : Nat) (s : List ByteArray) (c : List Wr) (f : Int) (x : Bool) (w : World) (hl : (s.length : Int) ≤ 1000000) (rd : Nat → ByteArray × Int)
    (hr : ∀ (k : Nat) (v : World), Below w.heap.size w v → Calls Try.prog 9 #[.agg #[.slice A s.length n, .slice B c.length m, .int .i64 f, .bool x], .int .i64 (k : Nat)] v fun e v' => e = .returned (.tuple #[.string (rd k).1, .int .i64 (rd k).2]) ∧ Below v.heap.size v v') :
    Calls Try.prog 13 #[.agg #[.slice A s.length n, .slice B c.length m, .int .i64 f, .bool x]] w (GivesT (goL rd (s.length - 2)).1 (goL rd (s.length - 2)).2 w) := by
  obtain ⟨N, hN⟩ : ∃ N, s.length - 2 = N := ⟨_, rfl⟩
  rw [hN]
  have hst := fun k => @goL_stop rd N k
  have hal := @goL_all rd N
  generalize goL rd N = g at *
  have HST := Lib.hid hst; clear hst
  have HAL := Lib.hid hal; clear hal
  have HR := Lib.hid hr; clear hr
  have HCN := Lib.hid (fun v => count_any A B s.length n c.length m f x v hl)
  have H0 := Lib.hid ((Held.refl w).lay [.slice A s.length n, .slice B c.length m, .int .i64 f, .bool x] 25)
  go_enter Try.func13, Try.ntmps13
  have k0 := H0.out.b0.cell
  go_wp2_with fail
  refine (HCN.out _).mono ?_
  rintro e w1 ⟨rfl, hb⟩
  have H1 := Lib.hid (H0.out.up hb)
  clear hb H0 k0
  go_wp2_with fail
  go_loopw [4, 5, 10] (fun v _ j wr => ∃ k : Nat, k ≤ N ∧ j = .int .i64 k ∧ Hid (wr.ownsRow w1.heap.size 9 1 v ((List.range k).map (fun k => (rd k).1)).length (((List.range k).map (fun k => (rd k).1)).map Value.string)) ∧ Hid (∀ j, j < k → (rd j).2 = 0) ∧ Hid (Held w [(w.heap.size, [.slice A s.length n, .slice B c.length m, .int .i64 f, .bool x])] [] wr) ∧ Hid (Below w1.heap.size w1 wr)) (fun _ _ j _ => N - (intOf j).toNat)
  case atStart => exact ⟨0, by omega, rfl, World.ownsRow_nil _ _ _ _, fun j hj => absurd hj (by omega), H1.out, Below.refl _ _⟩
  case round =>
    obtain ⟨k, hk, rfl, HO, HZ, HH, HB⟩ := hrel
    have k1 := HH.out.b0.cell
    by_cases hlt : k < N
    · have hle : ((List.range k).map (fun k => (rd k).1)).length ≤ 999998 := by rw [List.length_map, List.length_range]; omega
      have HLE := Lib.hid hle; clear hle
      have HS := Lib.hid (range_snoc rd k)
      have hrk := HR.out k
      have hstk := fun h => HST.out k hlt (HZ.out) h
      have hzk := fun h => zero_step HZ.out h
      have HRK := Lib.hid hrk; clear hrk
      have HSK := Lib.hid hstk; clear hstk
      have HZK := Lib.hid hzk; clear hzk
      generalize (List.range k).map (fun k => (rd k).1) = l at *
      generalize rd k = q at *
      obtain ⟨t, e1⟩ := q
      dsimp only at *
      by_cases h1 : e1 = 0
      · subst h1
        go_wp2_with fail
        refine (HRK.out _ HH.out.below).mono ?_
        rintro e w3 ⟨rfl, hb3⟩
        go_wp2_with (at_builtin; refine app_strs rfl _ _ rfl _ w1.heap.size ?c1 _ l rfl ?c2 (some ⟨w3.heap.size, 0, none⟩) 1 [t] ?c3 rfl ?c4 ?c5 ?_)
        case c1 => have := HB.out.size; have := hb3.size; simp; omega
        case c2 => exact (own_up HO.out hb3).alloc _
        case c3 => intro q; cases q
        case c4 => exact es_one w3 t
        case c5 => have := HLE.out; simp; omega
        intro v' w4 hown hgrow
        replace hown : w4.ownsRow w1.heap.size 9 1 v' (l ++ [t]).length ((l ++ [t]).map Value.string) := by simpa using hown
        rw [← HS.out] at hown
        have hlow : ∀ g, _ = some g → w1.heap.size ≤ g := own_low HO.out
        have hb4 := ((HB.out.trans (hb3.mono HB.out.size)).alloc (by have := HB.out.size; have := hb3.size; omega) (.cells #[.string t] 9)).grown hgrow (by have := HB.out.size; have := hb3.size; simp; omega) (own_low HO.out)
        have hh4 := H1.out.up hb4
        have HO' := Lib.hid hown; clear hown
        have HB' := Lib.hid hb4; clear hb4
        have HH' := Lib.hid hh4; clear hh4
        clear hgrow hb3 hlow k1
        go_wp2
        go_roundw
        case rel => exact ⟨k + 1, by omega, by go_num, HO'.out, HZK.out (by trivial), HH'.out, HB'.out⟩
        case measure => simp [intOf]; omega
      · have hnb : ((e1 : Int) != 0) = true := by simp [bne, beq_eq_false_iff_ne.2 h1]
        have hne : ((e1 : Int) == 0) = false := beq_eq_false_iff_ne.2 h1
        have hg := HSK.out h1
        clear h1
        have HG := Lib.hid hg; clear hg
        go_wp2_with fail
        refine (HRK.out _ HH.out.below).mono ?_
        rintro e w3 ⟨rfl, hb3⟩
        have hz := ext HH.out.below hb3
        have HZ3 := Lib.hid hz; clear hz hb3 k1
        go_wp2_with fail
        go_ret2
        rw [HG.out]
        exact gives_none HZ3.out
    · obtain rfl : k = N := by omega
      have hown := HO.out
      obtain ⟨A', cap, rfl, _, hes⟩ := own_es hown
      have hg := HAL.out HZ.out
      have HG := Lib.hid hg; clear hg hown HO
      have HE := Lib.hid hes; clear hes
      generalize (List.range k).map (fun k => (rd k).1) = l at *
      go_wp2_with fail
      go_ret2
      rw [HG.out]
      exact ⟨A', cap, rfl, HE.out, HH.out.below⟩

/-! ### The document -/
set_option maxRecDepth 100000 in
set_option maxHeartbeats 4000000 in
theorem raall_go (A B : Option Addr) (n m : Nat) (s : List ByteArray) (c : List Wr) (f : Int) (x : Bool) (w : World) (hl : (s.length : Int) ≤ 1000000) (rd : Nat → ByteArray × Int)
    (hr : ∀ (k : Nat) (v : World), Below w.heap.size w v → Calls Try.prog 10 #[.agg #[.slice A s.length n, .slice B c.length m, .int .i64 f, .bool x], .int .i64 (k : Nat)] v fun e v' => e = .returned (.tuple #[.string (rd k).1, .int .i64 (rd k).2]) ∧ Below v.heap.size v v') :
    Calls Try.prog 14 #[.agg #[.slice A s.length n, .slice B c.length m, .int .i64 f, .bool x]] w (GivesT (goL rd (s.length - 2)).1 (goL rd (s.length - 2)).2 w) := by
  obtain ⟨N, hN⟩ : ∃ N, s.length - 2 = N := ⟨_, rfl⟩
  rw [hN]
  have hst := fun k => @goL_stop rd N k
  have hal := @goL_all rd N
  generalize goL rd N = g at *
  have HST := Lib.hid hst; clear hst
  have HAL := Lib.hid hal; clear hal
  have HR := Lib.hid hr; clear hr
  have H1 := Lib.hid ((Held.refl w).lay [.slice A s.length n, .slice B c.length m, .int .i64 f, .bool x] 25)
  go_enter Try.func14, Try.ntmps14
  go_wp2_with fail
  generalize w.alloc (.cells #[.slice A s.length n, .slice B c.length m, .int .i64 f, .bool x] 25) = w1 at *
  go_loopw [4, 5] (fun v j wr => ∃ k : Nat, k ≤ N ∧ j = .int .i64 k ∧ Hid (wr.ownsRow w1.heap.size 9 1 v ((List.range k).map (fun k => (rd k).1)).length (((List.range k).map (fun k => (rd k).1)).map Value.string)) ∧ Hid (∀ j, j < k → (rd j).2 = 0) ∧ Hid (Held w [(w.heap.size, [.slice A s.length n, .slice B c.length m, .int .i64 f, .bool x])] [] wr) ∧ Hid (Below w1.heap.size w1 wr)) (fun _ j _ => N - (intOf j).toNat)
  case atStart => exact ⟨0, by omega, rfl, World.ownsRow_nil _ _ _ _, fun j hj => absurd hj (by omega), H1.out, Below.refl _ _⟩
  case round =>
    obtain ⟨k, hk, rfl, HO, HZ, HH, HB⟩ := hrel
    have k1 := HH.out.b0.cell
    by_cases hlt : k < N
    · have hle : ((List.range k).map (fun k => (rd k).1)).length ≤ 999998 := by rw [List.length_map, List.length_range]; omega
      have HLE := Lib.hid hle; clear hle
      have HS := Lib.hid (range_snoc rd k)
      have hrk := HR.out k
      have hstk := fun h => HST.out k hlt (HZ.out) h
      have hzk := fun h => zero_step HZ.out h
      have HRK := Lib.hid hrk; clear hrk
      have HSK := Lib.hid hstk; clear hstk
      have HZK := Lib.hid hzk; clear hzk
      generalize (List.range k).map (fun k => (rd k).1) = l at *
      generalize rd k = q at *
      obtain ⟨t, e1⟩ := q
      dsimp only at *
      by_cases h1 : e1 = 0
      · subst h1
        go_wp2_with fail
        refine (HRK.out _ HH.out.below).mono ?_
        rintro e w3 ⟨rfl, hb3⟩
        go_wp2_with (at_builtin; refine app_strs rfl _ _ rfl _ w1.heap.size ?c1 _ l rfl ?c2 (some ⟨w3.heap.size, 0, none⟩) 1 [t] ?c3 rfl ?c4 ?c5 ?_)
        case c1 => have := HB.out.size; have := hb3.size; simp; omega
        case c2 => exact (own_up HO.out hb3).alloc _
        case c3 => intro q; cases q
        case c4 => exact es_one w3 t
        case c5 => have := HLE.out; simp; omega
        intro v' w4 hown hgrow
        replace hown : w4.ownsRow w1.heap.size 9 1 v' (l ++ [t]).length ((l ++ [t]).map Value.string) := by simpa using hown
        rw [← HS.out] at hown
        have hlow : ∀ g, _ = some g → w1.heap.size ≤ g := own_low HO.out
        have hb4 := ((HB.out.trans (hb3.mono HB.out.size)).alloc (by have := HB.out.size; have := hb3.size; omega) (.cells #[.string t] 9)).grown hgrow (by have := HB.out.size; have := hb3.size; simp; omega) (own_low HO.out)
        have hh4 := H1.out.up hb4
        have HO' := Lib.hid hown; clear hown
        have HB' := Lib.hid hb4; clear hb4
        have HH' := Lib.hid hh4; clear hh4
        clear hgrow hb3 hlow k1
        go_wp2
        go_roundw
        case rel => exact ⟨k + 1, by omega, by go_num, HO'.out, HZK.out (by trivial), HH'.out, HB'.out⟩
        case measure => simp [intOf]; omega
      · have hnb : ((e1 : Int) != 0) = true := by simp [bne, beq_eq_false_iff_ne.2 h1]
        have hne : ((e1 : Int) == 0) = false := beq_eq_false_iff_ne.2 h1
        have hg := HSK.out h1
        clear h1
        have HG := Lib.hid hg; clear hg
        go_wp2_with fail
        refine (HRK.out _ HH.out.below).mono ?_
        rintro e w3 ⟨rfl, hb3⟩
        have hz := ext HH.out.below hb3
        have HZ3 := Lib.hid hz; clear hz hb3 k1
        go_wp2_with fail
        go_ret2
        rw [HG.out]
        exact gives_none HZ3.out
    · obtain rfl : k = N := by omega
      have hown := HO.out
      obtain ⟨A', cap, rfl, _, hes⟩ := own_es hown
      have hg := HAL.out HZ.out
      have HG := Lib.hid hg; clear hg hown HO
      have HE := Lib.hid hes; clear hes
      generalize (List.range k).map (fun k => (rd k).1) = l at *
      go_wp2_with fail
      go_ret2
      rw [HG.out]
      exact ⟨A', cap, rfl, HE.out, HH.out.below⟩

end Go.Proofs.Ytlgfinomkpingaa

/- Blocks on a disk, layer 9, in plain words: what a block holds, what reading one answers, what putting one makes of a disk, what all of them are; and that both sides answer just that, for every disk that may be. No other condition. -/

namespace Go.Proofs.Ytlgfinomkpingaa
open Go.RowKit

/-- What the sector of the block i holds. -/
def blockA (s : List ByteArray) (c : List Wr) (i : Int) : ByteArray := holdsL c (i + 2) (s.getD (i.toNat + 2) e0)
/-- What reading the block i answers. -/
def readA (s : List ByteArray) (c : List Wr) (x : Bool) (i : Int) : ByteArray × Int :=
  if thereB s.length i = true then (if x = true then (e0, 6) else if (blockA s c i).size = 8 then (blockA s c i, 0) else (e0, 2)) else (e0, 4)
/-- What putting d into the block i makes of a disk. -/
def putA (s : List ByteArray) (c : List Wr) (f : Int) (x : Bool) (i : Int) (d : ByteArray) : Ans :=
  if thereB s.length i = true then (if d.size = 8 then (if x = true then ⟨s, c, f, true, 6⟩ else if f = 1 then ⟨s, c, 0, true, 6⟩ else if f = 2 then ⟨s, c ++ [(i + 2, d)], 0, true, 6⟩ else ⟨layL s (c ++ [(i + 2, d)]), [], burnF (burnF f), false, 0⟩) else ⟨s, c, f, x, 5⟩) else ⟨s, c, f, x, 4⟩
/-- What all blocks are. -/
def allA (s : List ByteArray) (c : List Wr) (x : Bool) : List ByteArray × Int := goL (fun k => readA s c x (k : Nat)) (s.length - 2)

theorem eight_yes {d : ByteArray} (h : d.size = 8) : ((d.size : Int) == 8) = true := by rw [h]; rfl
theorem eight_yes' {d : ByteArray} (h : d.size = 8) : ((d.size : Int) != 8) = false := by rw [h]; rfl
theorem eight_no {d : ByteArray} (h : d.size ≠ 8) : ((d.size : Int) == 8) = false := by rw [beq_eq_false_iff_ne]; omega
theorem eight_no' {d : ByteArray} (h : d.size ≠ 8) : ((d.size : Int) != 8) = true := by simp only [bne, eight_no h, Bool.not_false]

theorem getD_some {s : List ByteArray} {i : Nat} (h : i < s.length) : s[i]? = some (s.getD i e0) := by
  rw [List.getD_eq_getElem?_getD, List.getElem?_eq_getElem h]; rfl

/-! ### The code -/
set_option maxRecDepth 100000 in
theorem aread_any (A B : Option Addr) (n m : Nat) (s : List ByteArray) (c : List Wr) (f : Int) (x : Bool) (i : Int) (w : World) (hm : Mem w A n B m s c) (hl : s.length ≤ 64) (hc : c.length ≤ 1000) :
    Calls Try.prog 9 #[.agg #[.slice A s.length n, .slice B c.length m, .int .i64 f, .bool x], .int .i64 i] w fun e w' => e = .returned (.tuple #[.string (readA s c x i).1, .int .i64 (readA s c x i).2]) ∧ Below w.heap.size w w' := by
  unfold readA
  cases ht : thereB s.length i with
  | false =>
    rw [if_neg (by simp)]
    exact aread_out A B n m s c f x i w (by omega) ht
  | true =>
    rw [if_pos rfl]
    obtain ⟨h0, h1⟩ := there_yes ht
    cases x with
    | true =>
      rw [if_pos rfl]
      exact aread_stops A B n m s c f true i w (by omega) h0 (by omega) ht ⟨#[]⟩ 6 (fun v _ => read_stops A B n m s c f (i + 2) true v (by rw [reach_dead]; decide)) (by decide)
    | false =>
      rw [if_neg (by simp)]
      unfold blockA
      obtain ⟨k, rfl⟩ : ∃ k : Nat, i = (k : Int) := ⟨i.toNat, by omega⟩
      have hk : k + 2 < s.length := by omega
      have hr : ∀ v, Below w.heap.size w v → Calls Try.prog 26 #[.agg #[.slice A s.length n, .slice B c.length m, .int .i64 f, .bool false], .int .i64 ((k : Int) + 2)] v fun e v' => e = .returned (.tuple #[.string (holdsL c ((k : Int) + 2) (s.getD (k + 2) e0)), .int .i64 0]) ∧ Below v.heap.size v v' :=
        fun v hb => read_any A B n m s c f (k + 2) _ v (hm.up hb) (getD_some hk) (by omega)
      rw [Int.toNat_natCast]
      generalize holdsL c ((k : Int) + 2) (s.getD (k + 2) e0) = y at *
      by_cases h8 : y.size = 8
      · rw [if_pos h8]
        exact aread_yes A B n m s c f false k w (by omega) h0 (by omega) ht y hr (eight_yes h8)
      · rw [if_neg h8]
        exact aread_form A B n m s c f false k w (by omega) h0 (by omega) ht y hr (eight_no h8)

set_option maxRecDepth 100000 in
theorem aput_any (A B : Option Addr) (n m : Nat) (s : List ByteArray) (c : List Wr) (f : Int) (x : Bool) (i : Int) (d : ByteArray) (w : World) (hm : Mem w A n B m s c) (hl : s.length ≤ 64) (hc : c.length ≤ 900) (hf : f < 9223372036854775808) (hx : c.any (misfitW s.length) = false) :
    Calls Try.prog 11 #[.agg #[.slice A s.length n, .slice B c.length m, .int .i64 f, .bool x], .int .i64 i, .string d] w (GivesD (putA s c f x i d).s (putA s c f x i d).c (putA s c f x i d).f (putA s c f x i d).x (putA s c f x i d).e w) := by
  unfold putA
  cases ht : thereB s.length i with
  | false =>
    rw [if_neg (by simp)]
    exact aput_range A B n m s c f x i d w hm (by omega) ht
  | true =>
    rw [if_pos rfl]
    obtain ⟨h0, h1⟩ := there_yes ht
    by_cases h8 : d.size = 8
    rotate_left
    · rw [if_neg h8]
      exact aput_long A B n m s c f x i d w hm (by omega) ht (eight_no h8)
    have hz : ¬ 64 < (d.size : Int) := by rw [h8]; decide
    have hrf : reachE s.length (i + 2) false = 0 := reach_in (by omega) (by omega)
    rw [if_pos h8]
    cases x with
    | true =>
      rw [if_pos rfl]
      exact aput_stops A B n m s c f true i d w (by omega) h0 (by omega) ht (eight_yes h8) s c f true 6 (fun v hb => write_stops A B n m s c f (i + 2) true d v (hm.up hb) (by rw [reach_dead]; decide)) (by decide)
    | false =>
      rw [if_neg (by simp)]
      by_cases hf1 : f = 1
      · subst hf1
        rw [if_pos rfl]
        exact aput_stops A B n m s c 1 false i d w (by omega) h0 (by omega) ht (eight_yes h8) s c 0 true 6 (fun v hb => write_dies A B n m s c 1 (i + 2) false d v (hm.up hb) hrf hz (by decide) rfl) (by decide)
      · rw [if_neg hf1]
        have hbd : burnD f false = false := by unfold burnD; rw [if_neg hf1]
        have hw := fun v (hb : Below w.heap.size w v) => write_any A B n m s c f (i + 2) false d v (hm.up hb) hrf hz hf hbd (by omega)
        have hx2 := fit_add (i := i + 2) (b := d) (by omega) (by omega) hx (by omega)
        have hlen : (c ++ [((i + 2 : Int), d)]).length ≤ 1000 := by rw [List.length_append]; simp; omega
        generalize c ++ [((i + 2 : Int), d)] = z at *
        by_cases hf2 : f = 2
        · subst hf2
          rw [if_pos rfl]
          refine aput_goes A B n m s c 2 false i d w (by omega) h0 (by omega) ht (eight_yes h8) s z 1 false hw s z 0 true 6 (fun A1 B1 n1 m1 v hv => ?_)
          refine (flush_dies A1 B1 s.length n1 z.length m1 v).mono ?_
          rintro e v' ⟨rfl, hb⟩
          exact ⟨A1, B1, n1, m1, rfl, hv.up hb, hb⟩
        · rw [if_neg hf2]
          have hb1 : burnF f ≠ 1 := by unfold burnF; split <;> (try split) <;> omega
          have hb2 : burnF f < 9223372036854775808 := by unfold burnF; split <;> (try split) <;> omega
          exact aput_goes A B n m s c f false i d w (by omega) h0 (by omega) ht (eight_yes h8) s z (burnF f) false hw (layL s z) [] (burnF (burnF f)) false 0 (fun A1 B1 n1 m1 v hv =>
            flush_any A1 B1 n1 m1 s z (burnF f) v hv hl (by unfold maxLen; omega) hb2 hb1 hx2)

theorem aall_any (A B : Option Addr) (n m : Nat) (s : List ByteArray) (c : List Wr) (f : Int) (x : Bool) (w : World) (hm : Mem w A n B m s c) (hl : s.length ≤ 64) (hc : c.length ≤ 1000) :
    Calls Try.prog 13 #[.agg #[.slice A s.length n, .slice B c.length m, .int .i64 f, .bool x]] w (GivesT (allA s c x).1 (allA s c x).2 w) :=
  aall_go A B n m s c f x w (by omega) (fun k => readA s c x (k : Nat)) fun k v hb => aread_any A B n m s c f x (k : Nat) v (hm.up hb) hl hc

/-! ### The document -/
set_option maxRecDepth 100000 in
theorem raread_any (A B : Option Addr) (n m : Nat) (s : List ByteArray) (c : List Wr) (f : Int) (x : Bool) (i : Int) (w : World) (hm : Mem w A n B m s c) (hl : s.length ≤ 64) (hc : c.length ≤ 1000) :
    Calls Try.prog 10 #[.agg #[.slice A s.length n, .slice B c.length m, .int .i64 f, .bool x], .int .i64 i] w fun e w' => e = .returned (.tuple #[.string (readA s c x i).1, .int .i64 (readA s c x i).2]) ∧ Below w.heap.size w w' := by
  unfold readA
  cases ht : thereB s.length i with
  | false =>
    rw [if_neg (by simp)]
    exact raread_out A B n m s c f x i w (by omega) ht
  | true =>
    rw [if_pos rfl]
    obtain ⟨h0, h1⟩ := there_yes ht
    cases x with
    | true =>
      rw [if_pos rfl]
      exact raread_stops A B n m s c f true i w (by omega) h0 (by omega) ht ⟨#[]⟩ 6 (fun v _ => rread_stops A B n m s c f (i + 2) true v (by rw [reach_dead]; decide)) (by decide)
    | false =>
      rw [if_neg (by simp)]
      unfold blockA
      obtain ⟨k, rfl⟩ : ∃ k : Nat, i = (k : Int) := ⟨i.toNat, by omega⟩
      have hk : k + 2 < s.length := by omega
      have hr : ∀ v, Below w.heap.size w v → Calls Try.prog 29 #[.agg #[.slice A s.length n, .slice B c.length m, .int .i64 f, .bool false], .int .i64 ((k : Int) + 2)] v fun e v' => e = .returned (.tuple #[.string (holdsL c ((k : Int) + 2) (s.getD (k + 2) e0)), .int .i64 0]) ∧ Below v.heap.size v v' :=
        fun v hb => rread_any A B n m s c f (k + 2) _ v (hm.up hb) (getD_some hk) (by unfold maxLen; omega)
      rw [Int.toNat_natCast]
      generalize holdsL c ((k : Int) + 2) (s.getD (k + 2) e0) = y at *
      by_cases h8 : y.size = 8
      · rw [if_pos h8]
        exact raread_yes A B n m s c f false k w (by omega) h0 (by omega) ht y hr (eight_yes' h8)
      · rw [if_neg h8]
        exact raread_form A B n m s c f false k w (by omega) h0 (by omega) ht y hr (eight_no' h8)

set_option maxRecDepth 100000 in
theorem raput_any (A B : Option Addr) (n m : Nat) (s : List ByteArray) (c : List Wr) (f : Int) (x : Bool) (i : Int) (d : ByteArray) (w : World) (hm : Mem w A n B m s c) (hl : s.length ≤ 64) (hc : c.length ≤ 900) (hf : f < 9223372036854775808) (hx : c.any (misfitW s.length) = false) :
    Calls Try.prog 12 #[.agg #[.slice A s.length n, .slice B c.length m, .int .i64 f, .bool x], .int .i64 i, .string d] w (GivesD (putA s c f x i d).s (putA s c f x i d).c (putA s c f x i d).f (putA s c f x i d).x (putA s c f x i d).e w) := by
  unfold putA
  cases ht : thereB s.length i with
  | false =>
    rw [if_neg (by simp)]
    exact raput_range A B n m s c f x i d w hm (by omega) ht
  | true =>
    rw [if_pos rfl]
    obtain ⟨h0, h1⟩ := there_yes ht
    by_cases h8 : d.size = 8
    rotate_left
    · rw [if_neg h8]
      exact raput_long A B n m s c f x i d w hm (by omega) ht (eight_no' h8)
    have hz : ¬ 64 < (d.size : Int) := by rw [h8]; decide
    have hrf : reachE s.length (i + 2) false = 0 := reach_in (by omega) (by omega)
    rw [if_pos h8]
    cases x with
    | true =>
      rw [if_pos rfl]
      exact raput_stops A B n m s c f true i d w (by omega) h0 (by omega) ht (eight_yes' h8) s c f true 6 (fun v hb => rwrite_stops A B n m s c f (i + 2) true d v (hm.up hb) (by rw [reach_dead]; decide)) (by decide)
    | false =>
      rw [if_neg (by simp)]
      by_cases hf1 : f = 1
      · subst hf1
        rw [if_pos rfl]
        exact raput_stops A B n m s c 1 false i d w (by omega) h0 (by omega) ht (eight_yes' h8) s c 0 true 6 (fun v hb => rwrite_dies A B n m s c 1 (i + 2) false d v (hm.up hb) hrf hz (by decide) rfl) (by decide)
      · rw [if_neg hf1]
        have hbd : burnD f false = false := by unfold burnD; rw [if_neg hf1]
        have hw := fun v (hb : Below w.heap.size w v) => rwrite_any A B n m s c f (i + 2) false d v (hm.up hb) hrf hz hf hbd (by omega)
        have hx2 := fit_add (i := i + 2) (b := d) (by omega) (by omega) hx (by omega)
        have hlen : (c ++ [((i + 2 : Int), d)]).length ≤ 1000 := by rw [List.length_append]; simp; omega
        generalize c ++ [((i + 2 : Int), d)] = z at *
        by_cases hf2 : f = 2
        · subst hf2
          rw [if_pos rfl]
          refine raput_goes A B n m s c 2 false i d w (by omega) h0 (by omega) ht (eight_yes' h8) s z 1 false hw s z 0 true 6 (fun A1 B1 n1 m1 v hv => ?_)
          refine (rflush_dies A1 B1 s.length n1 z.length m1 v).mono ?_
          rintro e v' ⟨rfl, hb⟩
          exact ⟨A1, B1, n1, m1, rfl, hv.up hb, hb⟩
        · rw [if_neg hf2]
          have hb1 : burnF f ≠ 1 := by unfold burnF; split <;> (try split) <;> omega
          have hb2 : burnF f < 9223372036854775808 := by unfold burnF; split <;> (try split) <;> omega
          exact raput_goes A B n m s c f false i d w (by omega) h0 (by omega) ht (eight_yes' h8) s z (burnF f) false hw (layL s z) [] (burnF (burnF f)) false 0 (fun A1 B1 n1 m1 v hv =>
            rflush_any A1 B1 n1 m1 s z (burnF f) v hv hl (by unfold maxLen; omega) hb2 hb1 hx2)

theorem raall_any (A B : Option Addr) (n m : Nat) (s : List ByteArray) (c : List Wr) (f : Int) (x : Bool) (w : World) (hm : Mem w A n B m s c) (hl : s.length ≤ 64) (hc : c.length ≤ 1000) :
    Calls Try.prog 14 #[.agg #[.slice A s.length n, .slice B c.length m, .int .i64 f, .bool x]] w (GivesT (allA s c x).1 (allA s c x).2 w) :=
  raall_go A B n m s c f x w (by omega) (fun k => readA s c x (k : Nat)) fun k v hb => raread_any A B n m s c f x (k : Nat) v (hm.up hb) hl hc

end Go.Proofs.Ytlgfinomkpingaa
