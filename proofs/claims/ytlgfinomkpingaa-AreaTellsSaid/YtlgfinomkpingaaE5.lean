/- Disks: what is read, as both sides do it: the walk from the end of the cache. No other condition but that the lists lie in memory. -/
import Derived.Test.YtlgfinomkpingaaE4
import Derived.RangeFuncNested
import Derived.RangeFuncBound
import Derived.RangeFuncCalls
import Derived.RangeFuncLeaves
import Derived.Shelf.Abstract
import Derived.Shelf.RegionOpen
import Derived.OwnWalkIn
import Derived.TacticsInMore
import Derived.LoopNIn
import Derived.LoopIn
namespace Go.Proofs.Ytlgfinomkpingaa
open Go.RowKit Go.Shelf

attribute [local go_sem] Oper.semAt_some

set_option maxRecDepth 100000 in
set_option maxHeartbeats 1000000 in
theorem rread_stops (A B : Option Addr) (n m : Nat) (s : List ByteArray) (c : List Wr) (f i : Int) (x : Bool) (w : World) (hr : reachE s.length i x ≠ 0) :
    Calls Try.prog 29 #[.agg #[.slice A s.length n, .slice B c.length m, .int .i64 f, .bool x], .int .i64 i] w fun e w' => e = .returned (.tuple #[.string ⟨#[]⟩, .int .i64 (reachE s.length i x)]) ∧ Below w.heap.size w w' := by
  cases x with
  | true =>
    have e : reachE s.length i true = 6 := rfl
    rw [e]
    clear hr e
    go_enter Try.func29, Try.ntmps29
    go_wp2
    go_ret2
    exact ⟨rfl, below1⟩
  | false =>
    by_cases h0 : i < 0
    · have e : reachE s.length i false = 4 := by unfold reachE; rw [if_neg (by simp), if_pos h0]
      rw [e]
      clear hr e
      go_enter Try.func29, Try.ntmps29
      go_wp2
      go_ret2
      exact ⟨rfl, below1⟩
    · by_cases h1 : (s.length : Int) ≤ i
      · have e : reachE s.length i false = 4 := by unfold reachE; rw [if_neg (by simp), if_neg h0, if_pos h1]
        rw [e]
        clear hr e
        go_enter Try.func29, Try.ntmps29
        go_wp2
        go_ret2
        exact ⟨rfl, below1⟩
      · exact absurd (by unfold reachE; rw [if_neg (by simp), if_neg h0, if_neg h1]) hr

set_option maxRecDepth 100000 in
set_option maxHeartbeats 1000000 in
theorem rread_any (A B : Option Addr) (n m : Nat) (s : List ByteArray) (c : List Wr) (f : Int) (i : Nat) (t : ByteArray) (w : World) (hm : Mem w A n B m s c) (hi : s[i]? = some t) (hc : c.length ≤ maxLen) :
    Calls Try.prog 29 #[.agg #[.slice A s.length n, .slice B c.length m, .int .i64 f, .bool false], .int .i64 i] w fun e w' => e = .returned (.tuple #[.string (holdsL c i t), .int .i64 0]) ∧ Below w.heap.size w w' := by
  have hh := fun w hm => holds_any A B n m s c f false i t w hm hi hc
  have hlt := (List.getElem?_eq_some_iff.1 hi).1
  have h0 : ¬ (i : Int) < 0 := by omega
  have h1 : (i : Int) < (s.length : Int) := by omega
  have HM := Lib.hid hm; clear hm
  clear hi hlt hc
  generalize holdsL c i t = u at *
  go_enter Try.func29, Try.ntmps29
  go_wp2_with fail
  refine (hh _ (HM.out.up below1)).mono ?_
  rintro e w1 ⟨rfl, hb1⟩
  have HB := Lib.hid hb1; clear hb1
  go_wp2_with fail
  go_ret2
  exact ⟨rfl, ext below1 HB.out⟩

/-- What has come when k rounds are over. -/
def upto {α : Type} (f : Nat → α) (k : Nat) : List α := (List.range k).map f
theorem upto_succ {α : Type} (f : Nat → α) (k : Nat) : upto f (k + 1) = upto f k ++ [f k] := by simp [upto, List.range_succ]
theorem upto_length {α : Type} (f : Nat → α) (k : Nat) : (upto f k).length = k := by simp [upto]
/-- The write that comes in round k: from the end. -/
def bwd (c : List Wr) (k : Nat) : Nat × Wr := (c.length - 1 - k, c.getD (c.length - 1 - k) (0, ⟨#[]⟩))

set_option maxRecDepth 100000 in
set_option maxHeartbeats 2000000 in
theorem back1_in (F : Fence) (n : Nat) (h8 : F.fn 74) (hro : F.round = none) (hn : 1 ≤ n) (l Bs n₀ cap : Nat) (A : Option Addr) (c : List Wr) (hlen : c.length ≤ 1000000) (J Jx : List (Nat × Wr) → World → Prop)
    (hY : ∀ pre x W, J pre W → pre.length < c.length → YieldAt F (n - 1) Try.prog l #[.int .i64 (x.1 : Int), .agg #[.int .i64 x.2.1, .string x.2.2]] W fun e W' =>
      (e = .returned (.bool true) ∧ J (pre ++ [x]) W' ∧ Below n₀ W W') ∨ (e = .returned (.bool false) ∧ Jx (pre ++ [x]) W'))
    (W : World) (hBs : W.cell? ⟨Bs, 0, none⟩ = some (.slice A c.length cap)) (hb : Bs < n₀) (hc : Ws W n₀ A c) (h0 : J [] W) :
    CallsIn F n Try.prog 74 #[.func (.yield l) #[] #[], .pointer (some ⟨Bs, 0, none⟩)] W fun e W' => (∃ v, e = .returned v) ∧
      ((∃ ys, ys = upto (bwd c) c.length ∧ J ys W') ∨ (∃ pre, (∃ k, k ≤ c.length ∧ pre = upto (bwd c) k) ∧ Jx pre W')) := by
  refine callsIn_of_wp Try.func74 rfl h8 ?_ hro
  simp only [Try.ntmps74, List.size_toArray, List.length_cons, List.length_nil, Nat.reduceAdd, Nat.reduceSub, Array.replicate_succ, Array.replicate_zero, List.push_toArray, List.append_toArray, List.nil_append, List.cons_append]
  gi_wp2
  gi_loopw [3] (fun i wr => ∃ k : Nat, k ≤ c.length ∧ i = .int .i64 ((c.length : Int) - 1 - k) ∧ J (upto (bwd c) k) wr ∧ Below n₀ W wr)
    (fun i _ => (intOf i + 1).toNat)
  case atStart => exact ⟨0, Nat.zero_le _, by simp, h0, Below.refl _ _⟩
  case round =>
    obtain ⟨k, hk, rfl, hJs, hnx⟩ := hrel
    have hcb := (hnx.cell (p := ⟨Bs, 0, none⟩) hb).trans hBs
    by_cases hlt : k < c.length
    · obtain ⟨r, hr⟩ : ∃ r, c.length = r + 1 + k := ⟨c.length - 1 - k, by omega⟩
      have hrl : r < c.length := by omega
      have e : (c.length : Int) - 1 - k = (r : Int) := by omega
      have hbw : bwd c k = (r, c[r]) := by
        have : c.length - 1 - k = r := by omega
        unfold bwd
        rw [this, List.getD_eq_getElem?_getD, List.getElem?_eq_getElem hrl]; rfl
      obtain ⟨a1, rfl, hb1, hc1, hd1⟩ := hc r c[r] (List.getElem?_eq_getElem hrl)
      have hc2 := (hnx.cell (p := a1.add (r * 2)) (by rw [add_block]; exact hb1)).trans hc1
      have hd2 := (hnx.cell (p := ⟨(a1.add (r * 2)).block, (a1.add (r * 2)).off + 1, none⟩) (by show (a1.add (r * 2)).block < n₀; rw [add_block]; exact hb1)).trans hd1
      obtain ⟨fn, tmps, assign, body, hy, hR⟩ := hY _ (r, c[r]) wr hJs (by rw [upto_length]; exact hlt)
      have hJn : ∀ W', J (upto (bwd c) k ++ [(r, c[r])]) W' → J (upto (bwd c) (k + 1)) W' := fun W' h => by rw [upto_succ, hbw]; exact h
      have hJx : ∀ W', Jx (upto (bwd c) k ++ [(r, c[r])]) W' → Jx (upto (bwd c) (k + 1)) W' := fun W' h => by rw [upto_succ, hbw]; exact h
      rw [e]
      dsimp only at hy
      have HJn := Lib.hid hJn; clear hJn
      have HJx := Lib.hid hJx; clear hJx
      have HR := Lib.hid hr
      have HC := Lib.hid hc; clear hc
      have HE := Lib.hid e; clear e
      clear hbw hr hc1 hd1 hBs
      generalize c[r] = y at *
      obtain ⟨q, d⟩ := y
      dsimp only at *
      gi_wp2
      refine hR.mono ?_
      rintro e W3 (⟨rfl, hJ3, hk3⟩ | ⟨rfl, hJx3⟩)
      · gi_wp2
        go_roundw
        case rel => exact ⟨k + 1, by omega, by have := HE.out; congr 1; omega, HJn.out _ hJ3, hnx.trans hk3⟩
        case measure => simp [intOf]
      · gi_wp2
        refine bodyPost_ret (results_none rfl _ _ _) rfl ?_
        exact ⟨⟨_, rfl⟩, .inr ⟨_, ⟨k + 1, by omega, rfl⟩, HJx.out _ hJx3⟩⟩
    · obtain rfl : k = c.length := by omega
      have e : (c.length : Int) - 1 - (c.length : Nat) = -1 := by omega
      rw [e]
      gi_wp2
      go_end0
      exact ⟨⟨_, rfl⟩, .inl ⟨_, rfl, hJs⟩⟩

set_option maxRecDepth 100000 in
set_option maxHeartbeats 1000000 in
theorem back_in (F : Fence) (n : Nat) (h : F.fn 49) (hro : F.round = none) (a : Option Addr) (len cap : Nat) (w : World) :
    CallsIn F n Try.prog 49 #[.slice a len cap] w fun e w' => e = .returned (.func (.func 74) #[] #[.pointer (some ⟨w.heap.size, 0, none⟩)]) ∧ w' = w.alloc (.cells #[.slice a len cap] 23) := by
  refine callsIn_of_wp Try.func49 rfl h ?_ hro
  simp only [Try.ntmps49, List.size_toArray, List.length_cons, List.length_nil, Nat.reduceAdd, Nat.reduceSub, Array.replicate_succ, Array.replicate_zero, List.push_toArray, List.append_toArray, List.nil_append, List.cons_append]
  gi_wp2
  go_ret
  exact ⟨rfl, rfl⟩

theorem back_stops (F : Fence) (n : Nat) (h8 : F.fn 74) (hro : F.round = none) (hn : 1 ≤ n) (Bs n₀ cap : Nat) (A : Option Addr) (c : List Wr) (hlen : c.length ≤ 1000000) (w : World) (hBs : Bs < w.heap.size) (hb : Bs < n₀) (hn₀ : n₀ ≤ w.heap.size)
    (hv : w.cell? ⟨Bs, 0, none⟩ = some (.slice A c.length cap)) (hc : Ws w n₀ A c) :
    SeqStopsK F n Try.prog 74 #[.pointer (some ⟨Bs, 0, none⟩)] (fun x : Nat × Wr => #[Value.int .i64 (x.1 : Int), .agg #[.int .i64 x.2.1, .string x.2.2]]) (Below n₀) (fun ys => ys = upto (bwd c) c.length) (fun pre => ∃ k, k ≤ c.length ∧ pre = upto (bwd c) k) c.length w := fun l J Jx W hW _ _ hY h0 =>
  back1_in F n h8 hro hn l Bs n₀ cap A c hlen J Jx hY W ((hW.cell (p := ⟨Bs, 0, none⟩) hBs).trans hv) hb (hc.below (hW.mono hn₀) (Nat.le_refl _)) h0

theorem Box.new3 (w : World) (o p : Obj) (vs : List Value) (t : TypeId) : Box (((w.alloc o).alloc p).alloc (.cells vs.toArray t)) (w.heap.size + 1 + 1) vs := by
  have := Box.new2 (w.alloc o) p vs t
  rwa [World.size_alloc] at this
theorem Box.new4 (w : World) (o p q : Obj) (vs : List Value) (t : TypeId) : Box ((((w.alloc o).alloc p).alloc q).alloc (.cells vs.toArray t)) (w.heap.size + 1 + 1 + 1) vs := by
  have := Box.new3 (w.alloc o) p q vs t
  rwa [World.size_alloc] at this

theorem holds_skip (c : List Wr) (i : Int) (t : ByteArray) : ∀ k, k ≤ c.length → (∀ p ∈ upto (bwd c) k, p.2.1 ≠ i) → holdsL c i t = holdsL (c.take (c.length - k)) i t := by
  intro k
  induction k with
  | zero => intro _ _; rw [Nat.sub_zero, List.take_length]
  | succ k ih =>
    intro hk hp
    rw [ih (by omega) fun p h => hp p (by rw [upto_succ]; exact List.mem_append.2 (.inl h))]
    have hl := hp (bwd c k) (by rw [upto_succ]; exact List.mem_append.2 (.inr (by simp)))
    have e : c.length - k = (c.length - (k + 1)) + 1 := by omega
    have hr : c.length - (k + 1) < c.length := by omega
    rw [e, take_snoc c _ hr, holds_snoc]
    have hb : (bwd c k).2 = c[c.length - (k + 1)] := by
      unfold bwd
      have : c.length - 1 - k = c.length - (k + 1) := by omega
      simp only [this]
      rw [List.getD_eq_getElem?_getD, List.getElem?_eq_getElem hr]; rfl
    rw [hb] at hl
    rw [if_neg hl]
theorem holds_none (c : List Wr) (i : Int) (t : ByteArray) (hp : ∀ p ∈ upto (bwd c) c.length, p.2.1 ≠ i) : holdsL c i t = t := by
  rw [holds_skip c i t c.length (Nat.le_refl _) hp, Nat.sub_self]; rfl
theorem holds_found (c : List Wr) (i : Int) (t : ByteArray) (k : Nat) (hk : k < c.length) (hp : ∀ p ∈ upto (bwd c) k, p.2.1 ≠ i) (hl : (bwd c k).2.1 = i) : holdsL c i t = (bwd c k).2.2 := by
  rw [holds_skip c i t k (by omega) hp]
  have e : c.length - k = (c.length - (k + 1)) + 1 := by omega
  have hr : c.length - (k + 1) < c.length := by omega
  rw [e, take_snoc c _ hr, holds_snoc]
  have hb : (bwd c k).2 = c[c.length - (k + 1)] := by
    unfold bwd
    have : c.length - 1 - k = c.length - (k + 1) := by omega
    simp only [this]
    rw [List.getD_eq_getElem?_getD, List.getElem?_eq_getElem hr]; rfl
  rw [hb] at hl ⊢
  rw [if_pos hl]

theorem box_kept {X Y : World} {row : Option Nat} {b : Nat} {vs : List Value} (h : Box X b vs) (hg : X.grownBy Y row) (hr : ∀ r, row = some r → ∃ o : Obj, X.heap[r]? = some o ∧ o.isCells = false) : Box Y b vs := by
  have hl := h.lt
  obtain ⟨t, h⟩ := h
  refine ⟨t, (hg.block b hl fun e => ?_).trans h⟩
  obtain ⟨o, ho, hc⟩ := hr b e.symm
  rw [h] at ho
  cases ho
  cases hc

set_option maxRecDepth 100000 in
set_option maxHeartbeats 1000000 in
theorem read_stops (A B : Option Addr) (n m : Nat) (s : List ByteArray) (c : List Wr) (f i : Int) (x : Bool) (w : World) (hr : reachE s.length i x ≠ 0) :
    Calls Try.prog 26 #[.agg #[.slice A s.length n, .slice B c.length m, .int .i64 f, .bool x], .int .i64 i] w fun e w' => e = .returned (.tuple #[.string ⟨#[]⟩, .int .i64 (reachE s.length i x)]) ∧ Below w.heap.size w w' := by
  have hre := fun w => reach_any A B s.length n c.length m f i x w
  generalize reachE s.length i x = e at *
  have hne := beq_zero hr
  have hnb : (e != 0) = true := by simp [bne, hne]
  clear hr
  have B3 := Lib.hid ((Box.new3 w (.cells #[.slice A s.length n, .slice B c.length m, .int .i64 f, .bool x] 25) (.cells #[.int .i64 i] 3) [.string ⟨#[]⟩] 9).alloc (.cells #[.int .i64 0] 28))
  have B4 := Lib.hid (Box.new4 w (.cells #[.slice A s.length n, .slice B c.length m, .int .i64 f, .bool x] 25) (.cells #[.int .i64 i] 3) (.cells #[.string ⟨#[]⟩] 9) [.int .i64 0] 28)
  have HB := Lib.hid (ext_alloc (ext_alloc (below2 (w := w) (o := .cells #[.slice A s.length n, .slice B c.length m, .int .i64 f, .bool x] 25) (p := .cells #[.int .i64 i] 3)) (.cells #[.string ⟨#[]⟩] 9)) (.cells #[.int .i64 0] 28))
  go_enter Try.func26, Try.ntmps26
  go_wp2_with fail
  refine (hre _).mono ?_
  rintro e w1 ⟨rfl, hb1⟩
  have k3 := (B3.out.below hb1).cell
  have z3 := (B3.out.below hb1).frozen
  have k4 := (B4.out.below hb1).cell
  have z4 := (B4.out.below hb1).frozen
  have HB1 := Lib.hid (ext HB.out hb1)
  clear hb1
  go_wp2_with fail
  refine bodyPost_ret (v := .tuple #[.string ⟨#[]⟩, .int .i64 _]) (by simp [results, Try.results26, go_sem, k3, k4]) rfl ⟨rfl, ?_⟩
  exact (HB1.out.setCell (p := ⟨w.heap.size + 1 + 1, 0, none⟩) (by show w.heap.size ≤ w.heap.size + 1 + 1; omega) _).setCell (p := ⟨w.heap.size + 1 + 1 + 1, 0, none⟩) (by show w.heap.size ≤ w.heap.size + 1 + 1 + 1; omega) _

set_option maxRecDepth 100000 in
set_option maxHeartbeats 4000000 in
theorem read_any (A B : Option Addr) (n m : Nat) (s : List ByteArray) (c : List Wr) (f : Int) (i : Nat) (t : ByteArray) (w : World) (hm : Mem w A n B m s c) (hi : s[i]? = some t) (hc : c.length ≤ 1000000) :
    Calls Try.prog 26 #[.agg #[.slice A s.length n, .slice B c.length m, .int .i64 f, .bool false], .int .i64 i] w fun e w' => e = .returned (.tuple #[.string (holdsL c i t), .int .i64 0]) ∧ Below w.heap.size w w' := by
  have hlt := (List.getElem?_eq_some_iff.1 hi).1
  have hr : reachE s.length i false = 0 := by unfold reachE; rw [if_neg (by simp), if_neg (by omega), if_neg (by omega)]
  have hre := fun w => callsIn_wide (n := 9).2 (reach_any A B s.length n c.length m f i false w)
  rw [hr] at hre
  clear hr
  have HM := Lib.hid hm; clear hm
  have B1 := Lib.hid ((((Box.new w [.slice A s.length n, .slice B c.length m, .int .i64 f, .bool false] 25).alloc (.cells #[.int .i64 i] 3)).alloc (.cells #[.string ⟨#[]⟩] 9)).alloc (.cells #[.int .i64 0] 28))
  have B2 := Lib.hid (((Box.new2 w (.cells #[.slice A s.length n, .slice B c.length m, .int .i64 f, .bool false] 25) [.int .i64 i] 3).alloc (.cells #[.string ⟨#[]⟩] 9)).alloc (.cells #[.int .i64 0] 28))
  have B3 := Lib.hid ((Box.new3 w (.cells #[.slice A s.length n, .slice B c.length m, .int .i64 f, .bool false] 25) (.cells #[.int .i64 i] 3) [.string ⟨#[]⟩] 9).alloc (.cells #[.int .i64 0] 28))
  have B4 := Lib.hid (Box.new4 w (.cells #[.slice A s.length n, .slice B c.length m, .int .i64 f, .bool false] 25) (.cells #[.int .i64 i] 3) (.cells #[.string ⟨#[]⟩] 9) [.int .i64 0] 28)
  have HB := Lib.hid (ext_alloc (ext_alloc (below2 (w := w) (o := .cells #[.slice A s.length n, .slice B c.length m, .int .i64 f, .bool false] 25) (p := .cells #[.int .i64 i] 3)) (.cells #[.string ⟨#[]⟩] 9)) (.cells #[.int .i64 0] 28))
  refine callsIn_wide (n := 10).1 (callsIn_of_wp_marks Try.func26 rfl trivial ?_ rfl)
  simp only [Try.ntmps26, List.size_toArray, List.length_cons, List.length_nil, Nat.reduceAdd, Nat.reduceSub, Array.replicate_succ, Array.replicate_zero, List.push_toArray, List.append_toArray, List.nil_append, List.cons_append]
  gi_wp2_with first
    | (refine ⟨trivial, ?_⟩; gi_at_call 48; refine (hre _).mono ?_; rintro e w1 ⟨rfl, hb1⟩; have b1 := B1.out.below hb1; have b2 := B2.out.below hb1; have b3 := B3.out.below hb1; have b4 := B4.out.below hb1; have k1 := b1.cell; have HB1 := Lib.hid (ext HB.out hb1); clear hb1)
    | (refine ⟨trivial, ?_⟩; gi_at_call 49; refine (back_in Fence.wide 9 trivial rfl _ _ _ _).mono ?_; rintro e w2 ⟨rfl, rfl⟩)
  have hm1 := HM.out.up (ext_alloc HB1.out (.cells #[.slice B c.length m] 23))
  have b5 := Box.new w1 [.slice B c.length m] 23
  obtain ⟨W0, hW0⟩ : ∃ W0, w1.alloc (.cells #[.slice B c.length m] 23) = W0 := ⟨_, rfl⟩
  have b1 := b1.alloc (.cells #[.slice B c.length m] 23)
  have b2 := b2.alloc (.cells #[.slice B c.length m] 23)
  have b3 := b3.alloc (.cells #[.slice B c.length m] 23)
  have b4 := b4.alloc (.cells #[.slice B c.length m] 23)
  have HB2 := Lib.hid (ext_alloc HB1.out (.cells #[.slice B c.length m] 23))
  rw [hW0] at b1 b2 b3 b4 b5 hm1 HB2 ⊢
  have hsz : w1.heap.size < W0.heap.size := b5.lt
  have hsz2 : W0.heap.size = w1.heap.size + 1 := by rw [← hW0]; simp
  clear hW0 k1
  refine wpIn_rangeFunc_ownH rfl (by omega) (gf := 74) (lb := #[.pointer (some ⟨w1.heap.size, 0, none⟩)]) rfl trivial (enters_of Try.func74 (by kernel_rfl) rfl)
    (back_stops Fence.wide 9 trivial rfl (by omega) w1.heap.size W0.heap.size m B c hc W0 hsz hsz (Nat.le_refl _) (b5.cell 0) hm1.ws) belowK_t (belowK_b (Nat.le_refl _)) (Below.refl _ _) (fun _ => rfl)
    (fun pre W => ((∀ p ∈ pre, p.2.1 ≠ (i : Int)) ∧ Box W w.heap.size [.slice A s.length n, .slice B c.length m, .int .i64 f, .bool false] ∧ Box W (w.heap.size + 1) [.int .i64 i] ∧ Box W (w.heap.size + 1 + 1) [.string ⟨#[]⟩] ∧ Box W (w.heap.size + 1 + 1 + 1) [.int .i64 0] ∧ Box W w1.heap.size [.slice B c.length m]) ∧ Below w.heap.size w W)
    (fun j pre W => (j = .ret ∧ ∃ ini last, pre = ini ++ [last] ∧ (∀ p ∈ ini, p.2.1 ≠ (i : Int)) ∧ last.2.1 = (i : Int) ∧ Box W (w.heap.size + 1 + 1) [.string last.2.2] ∧ Box W (w.heap.size + 1 + 1 + 1) [.int .i64 0]) ∧ Below w.heap.size w W)
    (OwnFrom.and (Own.from (fun s A B row hs hg hr => ⟨hs.1, box_kept hs.2.1 hg hr, box_kept hs.2.2.1 hg hr, box_kept hs.2.2.2.1 hg hr, box_kept hs.2.2.2.2.1 hg hr, box_kept hs.2.2.2.2.2 hg hr⟩) _) (ownFrom_below (Nat.le_refl _) HB2.out.size))
    (fun j => OwnFrom.and (Own.from (fun s A B row hs hg hr => by obtain ⟨hc, ini, last, e1, e2, e3, e4, e5⟩ := hs; exact ⟨hc, ini, last, e1, e2, e3, box_kept e4 hg hr, box_kept e5 hg hr⟩) _) (ownFrom_below (Nat.le_refl _) HB2.out.size))
    ⟨⟨by simp, b1, b2, b3, b4, b5⟩, HB2.out⟩
    (fun x a' W => ∃ Bx, Box W Bx [.int .i64 x.2.1, .string x.2.2] ∧ a' = { tmps := #[.agg #[.slice A s.length n, .slice B c.length m, .int .i64 f, .bool false], .int .i64 i, .pointer (some ⟨w.heap.size, 0, none⟩), .pointer (some ⟨w.heap.size + 1, 0, none⟩), .pointer (some ⟨w.heap.size + 1 + 1, 0, none⟩), .pointer (some ⟨w.heap.size + 1 + 1 + 1, 0, none⟩), .int .i64 0, undef, .pointer (some ⟨Bx, 0, none⟩), .agg #[.slice A s.length n, .slice B c.length m, .int .i64 f, .bool false], .int .i64 i, .int .i64 0, .int .i64 0, .bool false, undef, .pointer (some ⟨w.heap.size, 1, none⟩), .slice B c.length m, .func (.func 74) #[] #[.pointer (some ⟨w1.heap.size, 0, none⟩)], .int .i64 (x.1 : Int), .agg #[.int .i64 x.2.1, .string x.2.2], undef, undef, undef, undef, undef, undef, undef, undef, undef, undef, undef], defers := [] })
    (fun x a' => Own.from (fun _ A B row hs hg hr => by obtain ⟨Bx, h2, h3⟩ := hs; exact ⟨Bx, box_kept h2 hg hr, h3⟩) _)
    ?assign ?body ?done ?stop
  case assign =>
    rintro l pre x W K ⟨⟨hp, c1, c2, c3, c4, c5⟩, hB⟩ hK
    gi_wp2
    exact hK _ _ ((KeepsOthers.alloc _ _).from _) ((Below.refl _ W).alloc (by have := c5.lt; omega) _) ⟨⟨hp, c1.alloc _, c2.alloc _, c3.alloc _, c4.alloc _, c5.alloc _⟩, hB.alloc hB.size _⟩
      ⟨W.heap.size, Box.new W [.int .i64 x.2.1, .string x.2.2] 43, rfl⟩
  case body =>
    rintro l pre ⟨x0, q, d⟩ a' W hl _ ⟨⟨hp, c1, c2, c3, c4, c5⟩, hB⟩ ⟨Bx, cx, rfl⟩ hlt
    dsimp only at cx
    have kx := cx.cell
    have k2 := c2.cell
    have k3 := c3.cell
    have z3 := c3.frozen
    have k4 := c4.cell
    have z4 := c4.frozen
    by_cases hq : q = (i : Int)
    · subst hq
      gi_wp2
      refine ⟨((KeepsOthers.setCell _ _ _).trans (KeepsOthers.setCell _ _ _)).from _, ⟨rfl, pre, (x0, (i : Int), d), rfl, hp, rfl, ?_, ?_⟩, ?_⟩
      · exact (c3.set 0 (.string d)).other (p := ⟨w.heap.size + 1 + 1 + 1, 0, none⟩) (by show w.heap.size + 1 + 1 ≠ w.heap.size + 1 + 1 + 1; omega) _
      · exact (c4.other (p := ⟨w.heap.size + 1 + 1, 0, none⟩) (by show w.heap.size + 1 + 1 + 1 ≠ w.heap.size + 1 + 1; omega) _).set 0 (.int .i64 0)
      · exact (hB.setCell (p := ⟨w.heap.size + 1 + 1, 0, none⟩) (by show w.heap.size ≤ w.heap.size + 1 + 1; omega) _).setCell (p := ⟨w.heap.size + 1 + 1 + 1, 0, none⟩) (by show w.heap.size ≤ w.heap.size + 1 + 1 + 1; omega) _
    · have hqb : (q == (i : Int)) = false := beq_eq_false_iff_ne.2 hq
      have hp' : ∀ p ∈ pre ++ [(x0, q, d)], p.2.1 ≠ (i : Int) := by
        intro p h
        rcases List.mem_append.1 h with h | h
        · exact hp p h
        · rw [List.mem_singleton] at h; subst h; exact hq
      have HP := Lib.hid hp'
      clear hp' hq
      gi_wp2
      exact ⟨KeepsFrom.refl _ _, Below.refl _ _, ⟨HP.out, c1, c2, c3, c4, c5⟩, hB⟩
  case done =>
    rintro D ys W hD rfl ⟨⟨hp, c1, c2, c3, c4, c5⟩, hB⟩ hK
    obtain ⟨a1, rfl, hb1, hc1⟩ := (HM.out.up hB).es i t hi
    have k1 := c1.cell
    have k2 := c2.cell
    have k3 := c3.cell
    have z3 := c3.frozen
    have k4 := c4.cell
    have z4 := c4.frozen
    have hi2 : (i : Int) < (s.length : Int) := by omega
    gi_wp2
    have hK' := ((KeepsOthers.setCell W ⟨w.heap.size + 1 + 1, 0, none⟩ (.string t)).trans (KeepsOthers.setCell _ ⟨w.heap.size + 1 + 1 + 1, 0, none⟩ (.int .i64 0))).same D _ hK rfl
    have d3 := (c3.set 0 (.string t)).other (p := ⟨w.heap.size + 1 + 1 + 1, 0, none⟩) (by show w.heap.size + 1 + 1 ≠ w.heap.size + 1 + 1 + 1; omega) (.int .i64 0)
    have d4 := (c4.other (p := ⟨w.heap.size + 1 + 1, 0, none⟩) (by show w.heap.size + 1 + 1 + 1 ≠ w.heap.size + 1 + 1; omega) (.string t)).set 0 (.int .i64 0)
    have hbw := (hB.setCell (p := ⟨w.heap.size + 1 + 1, 0, none⟩) (by show w.heap.size ≤ w.heap.size + 1 + 1; omega) (.string t)).setCell (p := ⟨w.heap.size + 1 + 1 + 1, 0, none⟩) (by show w.heap.size ≤ w.heap.size + 1 + 1 + 1; omega) (.int .i64 0)
    refine ⟨by simp, .inl ⟨_, _, rfl, run_takeDeferred hK', ?_⟩⟩
    have e3 := (box_kept d3 (grownBy_putObj' _ D (.deferred none)) (fun r e => by cases e; exact ⟨_, hK', rfl⟩)).cell
    have e4 := (box_kept d4 (grownBy_putObj' _ D (.deferred none)) (fun r e => by cases e; exact ⟨_, hK', rfl⟩)).cell
    refine ⟨.tuple #[.string t, .int .i64 0], ?_, by rw [holds_none c i t hp], hbw.trans (belowK_b (w := w) (Nat.le_refl _) _ D _ _ (by have := HB2.out.size; omega) hK' rfl rfl)⟩
    simp [results, Try.f26, go_sem, e3, e4]
  case stop =>
    rintro D j pre W hD ⟨k, hk, rfl⟩ ⟨⟨rfl, ini, last, e1, e2, e3, c3, c4⟩, hB⟩ hK
    gi_wp2
    refine ⟨by simp, .inl ⟨_, _, rfl, run_takeDeferred hK, ?_⟩⟩
    obtain ⟨k', rfl⟩ : ∃ k', k = k' + 1 := by
      cases k with
      | zero => simp [upto] at e1
      | succ k' => exact ⟨k', rfl⟩
    rw [upto_succ] at e1
    obtain ⟨rfl, e5⟩ := List.append_inj' e1 rfl
    obtain rfl : bwd c k' = last := by simpa using e5
    have hf := holds_found c i t k' (by omega) e2 e3
    have e3 := (box_kept c3 (grownBy_putObj' _ D (.deferred none)) (fun r e => by cases e; exact ⟨_, hK, rfl⟩)).cell
    have e4 := (box_kept c4 (grownBy_putObj' _ D (.deferred none)) (fun r e => by cases e; exact ⟨_, hK, rfl⟩)).cell
    refine ⟨.tuple #[.string (bwd c k').2.2, .int .i64 0], ?_, by rw [hf], hB.trans (belowK_b (w := w) (Nat.le_refl _) W D _ _ (by have := HB2.out.size; omega) hK rfl rfl)⟩
    simp [results, Try.f26, go_sem, e3, e4]
end Go.Proofs.Ytlgfinomkpingaa
