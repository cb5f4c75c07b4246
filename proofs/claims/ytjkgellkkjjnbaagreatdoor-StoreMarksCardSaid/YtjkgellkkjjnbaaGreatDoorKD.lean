/- Disks: what the small functions answer, for every argument within its type; no other condition but that the lists lie in memory. -/
import Derived.Test.YtjkgellkkjjnbaaGreatDoorBase
namespace Go.Proofs.YtjkgellkkjjnbaaGreatDoor
open Go.RowKit

/-- A slice of writes (two cells each) that reads as a list. -/
def Ws (w : World) (D : Nat) (A : Option Addr) (l : List (Int × ByteArray)) : Prop :=
  ∀ j x, l[j]? = some x → ∃ a, A = some a ∧ a.block < D ∧ w.cell? (a.add (j * 2)) = some (.int .i64 x.1) ∧ w.cell? ⟨(a.add (j * 2)).block, (a.add (j * 2)).off + 1, none⟩ = some (.string x.2)

theorem ws_nil (w : World) (D : Nat) (A : Option Addr) : Ws w D A [] := by intro j x h; simp at h
theorem Ws.below {w w' : World} {D D' : Nat} {A : Option Addr} {l : List (Int × ByteArray)} (h : Ws w D A l) (hb : Below D w w') (hD : D ≤ D') : Ws w' D' A l := by
  intro j x hj
  obtain ⟨a, ha, hlt, hc, hd⟩ := h j x hj
  exact ⟨a, ha, by omega, (hb.cell (p := a.add (j * 2)) (by rw [add_block]; exact hlt)).trans hc, (hb.cell (p := ⟨(a.add (j * 2)).block, (a.add (j * 2)).off + 1, none⟩) (by show (a.add (j * 2)).block < D; rw [add_block]; exact hlt)).trans hd⟩

theorem tooLong_any (s : ByteArray) (w : World) : Calls Tryz.prog 110 #[.string s] w fun e w' => e = .returned (.bool (decide (64 < (s.size : Int)))) ∧ w' = w := by
  go_enter Tryz.func110, Tryz.ntmps110
  go_wp2
  go_ret
  exact ⟨rfl, rfl⟩

/-- Too long for a sector? -/
def longS (s : ByteArray) : Bool := decide (64 < (s.size : Int))
/-- Of none of n sectors, or too long? -/
def misfitW (n : Nat) (x : Int × ByteArray) : Bool := decide (x.1 < 0) || decide ((n : Int) ≤ x.1) || longS x.2

end Go.Proofs.YtjkgellkkjjnbaaGreatDoor

/- Disks: whether lists are the same ones, as both sides tell it, for every argument within its type; no other condition but that the lists lie in memory. -/

namespace Go.Proofs.YtjkgellkkjjnbaaGreatDoor
open Go.RowKit

theorem toList_inj {x y : ByteArray} (h : x.toList = y.toList) : x = y := by
  rw [ByteArray.toList_eq, ByteArray.toList_eq] at h
  obtain ⟨⟨a⟩⟩ := x
  obtain ⟨⟨b⟩⟩ := y
  simp only at h
  rw [h]
theorem text_eq (x y : ByteArray) : (x.toList == y.toList) = decide (x = y) := by
  by_cases h : x = y
  · subst h; simp
  · rw [decide_eq_false h]
    exact beq_eq_false_iff_ne.2 fun e => h (toList_inj e)

theorem wr_struct : Tryz.prog.underlying 67 = some (.struct (Tryz.prog.fieldsOf 67)) := by kernel_rfl
theorem wr_held : Tryz.prog.stoodInHeld 67 = false := by kernel_rfl
theorem wr_guard : Tryz.prog.eqGuardType Tryz.prog.depth 67 = false := by kernel_rfl

theorem wr_neq (x y : Int × ByteArray) (w : World) : (binOp .neq 67 (.agg #[.int .i64 x.1, .string x.2]) (.agg #[.int .i64 y.1, .string y.2])).run Tryz.prog w = .ok (.bool (!decide (x = y))) w := by
  have u3 := Tryz.underlying3
  have u9 := Tryz.underlying9
  have a3 := Tryz.isAgg3
  have z3 := Tryz.sizeOf3
  have a9 := Tryz.isAgg9
  have z9 := Tryz.sizeOf9
  rw [run_neq_struct, show (10000 : Nat) = 9999 + 1 from rfl, run_equalIn_agg w 9999 67 _ _ wr_struct wr_held]
  simp only [Program.fieldsOf, Tryz.underlying67]
  go_simp
  obtain ⟨a, s⟩ := x
  obtain ⟨b, t⟩ := y
  by_cases h1 : a = b
  · by_cases h2 : s = t
    · simp [h1, h2]
    · have h3 : ¬ s.toList = t.toList := fun e => h2 (toList_inj e)
      simp [h1, h2, h3]
  · simp [h1]

theorem eq_take_step {α : Type} {l1 l2 : List α} {k : Nat} (h1 : k < l1.length) (h2 : k < l2.length) (h : l1.take k = l2.take k) (he : l1[k] = l2[k]) : l1.take (k + 1) = l2.take (k + 1) := by
  rw [take_snoc l1 k h1, take_snoc l2 k h2, h, he]
theorem eq_take_no {α : Type} {l1 l2 : List α} {k : Nat} (h1 : k < l1.length) (h2 : k < l2.length) (he : l1[k] ≠ l2[k]) : l1 ≠ l2 := by
  intro h; subst h; exact he rfl
theorem eq_take_yes {α : Type} {l1 l2 : List α} (hl : l1.length = l2.length) (h : l1.take l1.length = l2.take l1.length) : l1 = l2 := by
  rw [List.take_length, hl, List.take_length] at h; exact h

set_option maxHeartbeats 400000 in
theorem eqStr_any (A1 A2 : Option Addr) (c1 c2 : Nat) (l1 l2 : List ByteArray) (w : World) (D : Nat) (h1 : Es Value.string w D A1 l1) (h2 : Es Value.string w D A2 l2) (m1 : l1.length ≤ maxLen) (_m2 : l2.length ≤ maxLen) :
    Calls Tryz.prog 68 #[.slice A1 l1.length c1, .slice A2 l2.length c2] w fun e w' => e = .returned (.bool (decide (l1 = l2))) ∧ ∃ n, w' = w.drewN n := by
  unfold maxLen at m1 _m2
  have H1 := Lib.hid h1; clear h1
  have H2 := Lib.hid h2; clear h2
  by_cases hl : l1.length = l2.length
  · have HL := Lib.hid hl
    have hli : ((l1.length : Int) == (l2.length : Int)) = true := by simp [hl]
    have hnb : ((l1.length : Int) != (l2.length : Int)) = false := by simp [hl]
    clear hl
    go_enter Tryz.func68, Tryz.ntmps68
    go_wp2
    go_loopw [5, 13] (fun _ i wr => ∃ k n : Nat, k ≤ l1.length ∧ i = .int .i64 k ∧ Hid (l1.take k = l2.take k) ∧ wr = w.drewN n) (fun _ i _ => l1.length - (intOf i).toNat)
    case atStart => exact ⟨0, 0, by omega, rfl, by simp [Hid], rfl⟩
    case round =>
      obtain ⟨k, n, hk, rfl, hp, rfl⟩ := hrel
      by_cases hlt : k < l1.length
      · have hlt2 : k < l2.length := by rw [← HL.out]; exact hlt
        obtain ⟨a1, rfl, hb1, hc1⟩ := H1.out k l1[k] (List.getElem?_eq_getElem hlt)
        obtain ⟨a2, rfl, hb2, hc2⟩ := H2.out k l2[k] (List.getElem?_eq_getElem hlt2)
        have hs := eq_take_step hlt hlt2 hp.out
        have hh := eq_take_no hlt hlt2
        have HS := Lib.hid hs; clear hs
        have HH := Lib.hid hh; clear hh
        clear hp
        generalize l1[k] = x at *
        generalize l2[k] = y at *
        by_cases hxy : x = y
        · have he : (x.toList == y.toList) = true := by rw [text_eq, decide_eq_true hxy]
          have HX := Lib.hid hxy; clear hxy
          go_wp2
          go_quiet (fail)
          go_wp2
          go_roundw
          case rel => exact ⟨k + 1, _, by omega, by go_num, HS.out HX.out, rfl⟩
          case measure => simp [intOf]; omega
        · have he : (x.toList == y.toList) = false := by rw [text_eq, decide_eq_false hxy]
          have hne := HH.out hxy
          have HN := Lib.hid hne; clear hne
          clear hxy HH HS
          go_wp2
          go_quiet (fail)
          go_wp2
          go_ret
          exact ⟨ret_bool (by rw [decide_eq_false HN.out]), _, World.drewN_drewN _ _ _⟩
      · obtain rfl : k = l1.length := by omega
        have hq := eq_take_yes HL.out hp.out
        have HQ := Lib.hid hq; clear hq
        clear hp
        go_wp2
        go_ret
        exact ⟨ret_bool (by rw [decide_eq_true HQ.out]), _, rfl⟩
  · have hne : l1 ≠ l2 := fun e => hl (by rw [e])
    have hli : ((l1.length : Int) == (l2.length : Int)) = false := by rw [beq_eq_false_iff_ne]; omega
    have hnb : ((l1.length : Int) != (l2.length : Int)) = true := by simp [bne, hli]
    have HN := Lib.hid hne; clear hne
    clear hl
    go_enter Tryz.func68, Tryz.ntmps68
    go_wp2
    go_ret
    exact ⟨ret_bool (by rw [decide_eq_false HN.out]), 0, rfl⟩

set_option maxHeartbeats 400000 in
theorem eqWr_any (A1 A2 : Option Addr) (c1 c2 : Nat) (l1 l2 : List (Int × ByteArray)) (w : World) (D : Nat) (h1 : Ws w D A1 l1) (h2 : Ws w D A2 l2) (m1 : l1.length ≤ maxLen) (_m2 : l2.length ≤ maxLen) :
    Calls Tryz.prog 69 #[.slice A1 l1.length c1, .slice A2 l2.length c2] w fun e w' => e = .returned (.bool (decide (l1 = l2))) ∧ ∃ n, w' = w.drewN n := by
  unfold maxLen at m1 _m2
  have hgd := wr_guard
  have H1 := Lib.hid h1; clear h1
  have H2 := Lib.hid h2; clear h2
  by_cases hl : l1.length = l2.length
  · have HL := Lib.hid hl
    have hli : ((l1.length : Int) == (l2.length : Int)) = true := by simp [hl]
    have hnb : ((l1.length : Int) != (l2.length : Int)) = false := by simp [hl]
    clear hl
    go_enter Tryz.func69, Tryz.ntmps69
    go_wp2
    go_loopw [5, 13] (fun _ i wr => ∃ k n : Nat, k ≤ l1.length ∧ i = .int .i64 k ∧ Hid (l1.take k = l2.take k) ∧ wr = w.drewN n) (fun _ i _ => l1.length - (intOf i).toNat)
    case atStart => exact ⟨0, 0, by omega, rfl, by simp [Hid], rfl⟩
    case round =>
      obtain ⟨k, n, hk, rfl, hp, rfl⟩ := hrel
      by_cases hlt : k < l1.length
      · have hlt2 : k < l2.length := by rw [← HL.out]; exact hlt
        obtain ⟨a1, rfl, hb1, hc1, hd1⟩ := H1.out k l1[k] (List.getElem?_eq_getElem hlt)
        obtain ⟨a2, rfl, hb2, hc2, hd2⟩ := H2.out k l2[k] (List.getElem?_eq_getElem hlt2)
        have hs := eq_take_step hlt hlt2 hp.out
        have hh := eq_take_no hlt hlt2
        have HS := Lib.hid hs; clear hs
        have HH := Lib.hid hh; clear hh
        clear hp
        generalize l1[k] = x at *
        generalize l2[k] = y at *
        have hq := wr_neq x y
        by_cases hxy : x = y
        · rw [decide_eq_true hxy] at hq
          have HX := Lib.hid hxy; clear hxy
          go_wp2
          go_quiet (fail)
          go_wp2
          go_roundw
          case rel => exact ⟨k + 1, _, by omega, by go_num, HS.out HX.out, rfl⟩
          case measure => simp [intOf]; omega
        · rw [decide_eq_false hxy] at hq
          have hne := HH.out hxy
          have HN := Lib.hid hne; clear hne
          clear hxy HH HS
          go_wp2
          go_quiet (fail)
          go_wp2
          go_ret
          exact ⟨ret_bool (by rw [decide_eq_false HN.out]), _, World.drewN_drewN _ _ _⟩
      · obtain rfl : k = l1.length := by omega
        have hq := eq_take_yes HL.out hp.out
        have HQ := Lib.hid hq; clear hq
        clear hp
        go_wp2
        go_ret
        exact ⟨ret_bool (by rw [decide_eq_true HQ.out]), _, rfl⟩
  · have hne : l1 ≠ l2 := fun e => hl (by rw [e])
    have hli : ((l1.length : Int) == (l2.length : Int)) = false := by rw [beq_eq_false_iff_ne]; omega
    have hnb : ((l1.length : Int) != (l2.length : Int)) = true := by simp [bne, hli]
    have HN := Lib.hid hne; clear hne
    clear hl
    go_enter Tryz.func69, Tryz.ntmps69
    go_wp2
    go_ret
    exact ⟨ret_bool (by rw [decide_eq_false HN.out]), 0, rfl⟩

end Go.Proofs.YtjkgellkkjjnbaaGreatDoor

/- Disks: what burns the fuse, arms, crashes, makes a disk, and what stands between a call and a sector: for every disk. No other condition. -/

namespace Go.Proofs.YtjkgellkkjjnbaaGreatDoor
open Go.RowKit

/-- The fuse behind an operation; and whether the disk is dead then. -/
def burnF (f : Int) : Int := if 1 < f then f - 1 else if f = 1 then 0 else f
def burnD (f : Int) (x : Bool) : Bool := if f = 1 then true else x

set_option maxHeartbeats 400000 in
theorem crash_any (A B : Option Addr) (n1 n2 m1 m2 : Nat) (f : Int) (x : Bool) (w : World) :
    Calls Tryz.prog 129 #[.agg #[.slice A n1 n2, .slice B m1 m2, .int .i64 f, .bool x]] w fun e w' => e = .returned (.agg #[.slice A n1 n2, .slice B m1 m2, .int .i64 0, .bool true]) ∧ Below w.heap.size w w' := by
  go_enter Tryz.func129, Tryz.ntmps129
  go_wp2
  refine bodyPost_ret (v := .agg #[.slice A n1 n2, .slice B m1 m2, .int .i64 0, .bool true]) (by simp [results, Tryz.results129, go_sem]) rfl ⟨rfl, ?_⟩
  exact ext_alloc (ext_alloc (Below.refl _ _) _) _

set_option maxHeartbeats 400000 in
theorem rcrash_any (A B : Option Addr) (n1 n2 m1 m2 : Nat) (f : Int) (x : Bool) (w : World) :
    Calls Tryz.prog 21 #[.agg #[.slice A n1 n2, .slice B m1 m2, .int .i64 f, .bool x]] w fun e w' => e = .returned (.agg #[.slice A n1 n2, .slice B m1 m2, .int .i64 0, .bool true]) ∧ Below w.heap.size w w' := by
  go_enter Tryz.func21, Tryz.ntmps21
  go_wp2
  refine bodyPost_ret (v := .agg #[.slice A n1 n2, .slice B m1 m2, .int .i64 0, .bool true]) (by simp [results, Tryz.results21, go_sem]) rfl ⟨rfl, ?_⟩
  exact ext_alloc (ext_alloc (Below.refl _ _) _) _

set_option maxHeartbeats 1000000 in
theorem burn_any (A B : Option Addr) (n1 n2 m1 m2 : Nat) (f : Int) (x : Bool) (w : World) (hf : f < 9223372036854775808) :
    Calls Tryz.prog 111 #[.agg #[.slice A n1 n2, .slice B m1 m2, .int .i64 f, .bool x]] w fun e w' => e = .returned (.agg #[.slice A n1 n2, .slice B m1 m2, .int .i64 (burnF f), .bool (burnD f x)]) ∧ Below w.heap.size w w' := by
  unfold burnF burnD
  by_cases h1 : f = 1
  · subst h1
    go_enter Tryz.func111, Tryz.ntmps111
    go_wp2
    refine bodyPost_ret (v := .agg #[.slice A n1 n2, .slice B m1 m2, .int .i64 0, .bool true]) (by simp [results, Tryz.results111, go_sem]) rfl ⟨rfl, ?_⟩
    exact ext_alloc (ext_alloc (ext_alloc (ext_alloc (Below.refl _ _) _) _) _) _
  · by_cases h2 : 1 < f
    · rw [if_neg h1, if_pos h2]
      have hb : (f == 1) = false := beq_eq_false_iff_ne.2 h1
      clear h1
      go_enter Tryz.func111, Tryz.ntmps111
      go_wp2
      refine bodyPost_ret (v := .agg #[.slice A n1 n2, .slice B m1 m2, .int .i64 (f - 1), .bool x]) (by simp [results, Tryz.results111, go_sem]) rfl ⟨rfl, ?_⟩
      exact ext_alloc (ext_alloc (Below.refl _ _) _) _
    · rw [if_neg h1, if_neg h2, if_neg h1]
      have hb : (f == 1) = false := beq_eq_false_iff_ne.2 h1
      clear h1
      go_enter Tryz.func111, Tryz.ntmps111
      go_wp2
      refine bodyPost_ret (v := .agg #[.slice A n1 n2, .slice B m1 m2, .int .i64 f, .bool x]) (by simp [results, Tryz.results111, go_sem]) rfl ⟨rfl, ?_⟩
      exact ext_alloc (ext_alloc (Below.refl _ _) _) _

set_option maxHeartbeats 1000000 in
theorem rburn_any (A B : Option Addr) (n1 n2 m1 m2 : Nat) (f : Int) (x : Bool) (w : World) (hf : f < 9223372036854775808) :
    Calls Tryz.prog 128 #[.agg #[.slice A n1 n2, .slice B m1 m2, .int .i64 f, .bool x]] w fun e w' => e = .returned (.agg #[.slice A n1 n2, .slice B m1 m2, .int .i64 (burnF f), .bool (burnD f x)]) ∧ Below w.heap.size w w' := by
  unfold burnF burnD
  by_cases h1 : f = 1
  · subst h1
    go_enter Tryz.func128, Tryz.ntmps128
    go_wp2
    refine bodyPost_ret (v := .agg #[.slice A n1 n2, .slice B m1 m2, .int .i64 0, .bool true]) (by simp [results, Tryz.results128, go_sem]) rfl ⟨rfl, ?_⟩
    exact ext_alloc (ext_alloc (Below.refl _ _) _) _
  · by_cases h2 : 1 < f
    · rw [if_neg h1, if_pos h2]
      have hb : (f == 1) = false := beq_eq_false_iff_ne.2 h1
      have h0 : 0 < f := by omega
      clear h1
      go_enter Tryz.func128, Tryz.ntmps128
      go_wp2
      refine bodyPost_ret (v := .agg #[.slice A n1 n2, .slice B m1 m2, .int .i64 (f - 1), .bool x]) (by simp [results, Tryz.results128, go_sem]) rfl ⟨rfl, ?_⟩
      exact ext_alloc (ext_alloc (Below.refl _ _) _) _
    · rw [if_neg h1, if_neg h2, if_neg h1]
      have hb : (f == 1) = false := beq_eq_false_iff_ne.2 h1
      have h0 : ¬ 0 < f := by omega
      clear h1
      go_enter Tryz.func128, Tryz.ntmps128
      go_wp2
      refine bodyPost_ret (v := .agg #[.slice A n1 n2, .slice B m1 m2, .int .i64 f, .bool x]) (by simp [results, Tryz.results128, go_sem]) rfl ⟨rfl, ?_⟩
      exact ext_alloc (ext_alloc (Below.refl _ _) _) _

set_option maxHeartbeats 400000 in
theorem rarm_any (A B : Option Addr) (n1 n2 m1 m2 : Nat) (f n : Int) (x : Bool) (w : World) :
    Calls Tryz.prog 16 #[.agg #[.slice A n1 n2, .slice B m1 m2, .int .i64 f, .bool x], .int .i64 n] w fun e w' => e = .returned (.agg #[.slice A n1 n2, .slice B m1 m2, .int .i64 (if n < 0 then 0 else n), .bool x]) ∧ Below w.heap.size w w' := by
  by_cases hn : n < 0
  · rw [if_pos hn]
    go_enter Tryz.func16, Tryz.ntmps16
    go_wp2
    refine bodyPost_ret (v := .agg #[.slice A n1 n2, .slice B m1 m2, .int .i64 0, .bool x]) (by simp [results, Tryz.results16, go_sem]) rfl ⟨rfl, ?_⟩
    exact ext_alloc (ext_alloc (Below.refl _ _) _) _
  · rw [if_neg hn]
    go_enter Tryz.func16, Tryz.ntmps16
    go_wp2
    refine bodyPost_ret (v := .agg #[.slice A n1 n2, .slice B m1 m2, .int .i64 n, .bool x]) (by simp [results, Tryz.results16, go_sem]) rfl ⟨rfl, ?_⟩
    exact ext_alloc (ext_alloc (Below.refl _ _) _) _

/-- What stands between a call and a sector of n. -/
def reachE (n : Nat) (i : Int) (x : Bool) : Int := if x = true then 6 else if i < 0 then 4 else if (n : Int) ≤ i then 4 else 0
set_option maxHeartbeats 400000 in
theorem reach_any (A B : Option Addr) (n1 n2 m1 m2 : Nat) (f i : Int) (x : Bool) (w : World) :
    Calls Tryz.prog 89 #[.agg #[.slice A n1 n2, .slice B m1 m2, .int .i64 f, .bool x], .int .i64 i] w fun e w' => e = .returned (.int .i64 (reachE n1 i x)) ∧ Below w.heap.size w w' := by
  unfold reachE
  cases x with
  | true =>
    rw [if_pos rfl]
    go_enter Tryz.func89, Tryz.ntmps89
    go_wp2
    go_ret
    exact ⟨rfl, ext_alloc (Below.refl _ _) _⟩
  | false =>
    rw [if_neg (by simp)]
    by_cases h0 : i < 0
    · rw [if_pos h0]
      go_enter Tryz.func89, Tryz.ntmps89
      go_wp2
      go_ret
      exact ⟨rfl, ext_alloc (Below.refl _ _) _⟩
    · rw [if_neg h0]
      by_cases h1 : (n1 : Int) ≤ i
      · rw [if_pos h1]
        go_enter Tryz.func89, Tryz.ntmps89
        go_wp2
        go_ret
        exact ⟨rfl, ext_alloc (Below.refl _ _) _⟩
      · rw [if_neg h1]
        go_enter Tryz.func89, Tryz.ntmps89
        go_wp2
        go_ret
        exact ⟨rfl, ext_alloc (Below.refl _ _) _⟩

theorem info9 : (Tryz.prog.info? 9).map (fun i => (i.zero, i.size, i.bytes)) = some (some (.string ⟨#[]⟩), 1, 16) := by kernel_rfl
theorem info45 : (Tryz.prog.info? 67).map (fun i => (i.zero, i.size, i.bytes)) = some (some (.agg #[.int .i64 0, .string ⟨#[]⟩]), 2, 24) := by kernel_rfl

set_option maxRecDepth 100000 in
theorem make_strs (n : Nat) (h : n ≤ 64) (w : World) :
    (Instr.makeSlice 22 (.int .i64 (n : Int)) (.int .i64 (n : Int))).run Tryz.prog w = .ok (.slice (some ⟨w.heap.size, 0, none⟩) n n) (w.alloc (.cells (Array.replicate n (.string ⟨#[]⟩)) 9)) := by
  obtain ⟨i0, hi, hz0, hz1, hz2⟩ := info_parts info9
  have := run_make (P := Tryz.prog) w 22 9 i0 (.string ⟨#[]⟩) Tryz.underlying22 hi hz0 .i64 .i64 n n (by omega) (by omega) (by rw [hz2]; omega) (by omega)
  rw [this]
  simp only [Int.toNat_natCast, hz1, Nat.mul_one, madeCells]
  congr 4
  apply Array.ext
  · simp
  · intro j h1 h2
    simp [Value.cells, Nat.mod_one]

theorem es_made (n : Nat) (w : World) : Es Value.string (w.alloc (.cells (Array.replicate n (.string ⟨#[]⟩)) 9)) (w.heap.size + 1) (some ⟨w.heap.size, 0, none⟩) (List.replicate n ⟨#[]⟩) := by
  intro j x hj
  refine ⟨_, rfl, Nat.lt_succ_self _, ?_⟩
  have : (⟨w.heap.size, 0, none⟩ : Addr).add j = ⟨w.heap.size, j, none⟩ := by unfold Addr.add; split <;> simp_all
  rw [this, World.cell?_alloc_mark w _ 9 (0, 0)]
  rw [List.getElem?_replicate] at hj
  split at hj
  · injection hj with hj
    subst hj
    simp_all
  · cases hj

/-- A disk's two lists, where they lie. -/
structure Mem (w : World) (A : Option Addr) (n : Nat) (B : Option Addr) (m : Nat) (s : List ByteArray) (c : List (Int × ByteArray)) : Prop where
  es : Es Value.string w w.heap.size A s
  ws : Ws w w.heap.size B c
  an : A = none → n = 0
  bn : B = none → m = 0
theorem Mem.up {w w' : World} {A B : Option Addr} {n m : Nat} {s : List ByteArray} {c : List (Int × ByteArray)} (h : Mem w A n B m s c) (hb : Below w.heap.size w w') : Mem w' A n B m s c :=
  ⟨h.es.below hb hb.size, h.ws.below hb hb.size, h.an, h.bn⟩
theorem mem_nil (w : World) : Mem w none 0 none 0 [] [] := ⟨es_nil _ _ _ _, ws_nil _ _ _, fun _ => rfl, fun _ => rfl⟩

/-- It hands back a disk and a number, and leaves what was there as it was. -/
def GivesD (s : List ByteArray) (c : List (Int × ByteArray)) (f : Int) (x : Bool) (r : Int) (w : World) (e : Ending) (w' : World) : Prop :=
  ∃ A B n m, e = .returned (.tuple #[.agg #[.slice A s.length n, .slice B c.length m, .int .i64 f, .bool x], .int .i64 r]) ∧ Mem w' A n B m s c ∧ Below w.heap.size w w'

end Go.Proofs.YtjkgellkkjjnbaaGreatDoor

/- Disks: whether one may be, as both sides tell it, for every disk. No other condition but that its lists lie in memory. -/

namespace Go.Proofs.YtjkgellkkjjnbaaGreatDoor
open Go.RowKit

/-- May it be? -/
def rightB (s : List ByteArray) (c : List (Int × ByteArray)) (f : Int) : Bool :=
  !(decide ((s.length : Int) < 1) || decide (64 < (s.length : Int)) || decide (f < 0) || s.any longS) && !(c.any (misfitW s.length))

theorem right_of {s : List ByteArray} {c : List (Int × ByteArray)} {f : Int} (h : rightB s c f = true) :
    1 ≤ s.length ∧ s.length ≤ 64 ∧ 0 ≤ f ∧ s.any longS = false ∧ c.any (misfitW s.length) = false := by
  unfold rightB at h
  simp only [Bool.and_eq_true, Bool.not_eq_true', Bool.or_eq_false_iff, decide_eq_false_iff_not] at h
  obtain ⟨⟨⟨⟨h1, h2⟩, h3⟩, h4⟩, h5⟩ := h
  exact ⟨by omega, by omega, by omega, h4, h5⟩

theorem Ws.up {w w' : World} {A : Option Addr} {l : List (Int × ByteArray)} (h : Ws w w.heap.size A l) (hb : Below w.heap.size w w') : Ws w' w'.heap.size A l := h.below hb hb.size

theorem misfit_lo {n : Nat} {x : Int × ByteArray} (h : x.1 < 0) : misfitW n x = true := by unfold misfitW; rw [decide_eq_true h]; rfl
theorem misfit_hi {n : Nat} {x : Int × ByteArray} (h : (n : Int) ≤ x.1) : misfitW n x = true := by unfold misfitW; rw [decide_eq_true h]; simp
theorem misfit_long {n : Nat} {x : Int × ByteArray} (h : 64 < (x.2.size : Int)) : misfitW n x = true := by unfold misfitW longS; rw [decide_eq_true h]; simp
theorem misfit_no {n : Nat} {x : Int × ByteArray} (h0 : ¬ x.1 < 0) (h1 : ¬ (n : Int) ≤ x.1) (h2 : ¬ 64 < (x.2.size : Int)) : misfitW n x = false := by
  unfold misfitW longS; rw [decide_eq_false h0, decide_eq_false h1, decide_eq_false h2]; rfl
theorem long_yes {s : ByteArray} (h : 64 < (s.size : Int)) : longS s = true := by unfold longS; rw [decide_eq_true h]
theorem long_no {s : ByteArray} (h : ¬ 64 < (s.size : Int)) : longS s = false := by unfold longS; rw [decide_eq_false h]

theorem right_b1 {s : List ByteArray} {c : List (Int × ByteArray)} {f : Int} (h : (s.length : Int) < 1) : rightB s c f = false := by unfold rightB; rw [decide_eq_true h]; simp
theorem right_b2 {s : List ByteArray} {c : List (Int × ByteArray)} {f : Int} (h : 64 < (s.length : Int)) : rightB s c f = false := by unfold rightB; rw [decide_eq_true h]; simp
theorem right_b3 {s : List ByteArray} {c : List (Int × ByteArray)} {f : Int} (h : f < 0) : rightB s c f = false := by unfold rightB; rw [decide_eq_true h]; simp
theorem right_b4 {s : List ByteArray} {c : List (Int × ByteArray)} {f : Int} (h : s.any longS = true) : rightB s c f = false := by unfold rightB; rw [h]; simp only [Bool.or_true, Bool.not_true, Bool.false_and]
theorem right_b5 {s : List ByteArray} {c : List (Int × ByteArray)} {f : Int} (h : c.any (misfitW s.length) = true) : rightB s c f = false := by unfold rightB; rw [h]; simp only [Bool.not_true, Bool.and_false]
theorem right_b6 {s : List ByteArray} {c : List (Int × ByteArray)} {f : Int} (h0 : ¬ (s.length : Int) < 1) (h1 : ¬ 64 < (s.length : Int)) (h2 : ¬ f < 0) (h3 : s.any longS = false) (h4 : c.any (misfitW s.length) = false) : rightB s c f = true := by
  unfold rightB; rw [decide_eq_false h0, decide_eq_false h1, decide_eq_false h2, h3, h4]; rfl

set_option maxHeartbeats 2000000 in
theorem rright_any (A B : Option Addr) (n2 m2 : Nat) (s : List ByteArray) (c : List (Int × ByteArray)) (f : Int) (x : Bool) (w : World) (hs : Es Value.string w w.heap.size A s) (hc : Ws w w.heap.size B c) (mc : c.length ≤ maxLen) :
    Calls Tryz.prog 9 #[.agg #[.slice A s.length n2, .slice B c.length m2, .int .i64 f, .bool x]] w fun e w' => e = .returned (.bool (rightB s c f)) ∧ Below w.heap.size w w' := by
  unfold maxLen at mc
  have HS := Lib.hid hs; clear hs
  have HC := Lib.hid hc; clear hc
  by_cases h0 : (s.length : Int) < 1
  · rw [right_b1 h0]
    go_enter Tryz.func9, Tryz.ntmps9
    go_wp2
    go_ret
    exact ⟨rfl, below1⟩
  by_cases h1 : 64 < (s.length : Int)
  · rw [right_b2 h1]
    go_enter Tryz.func9, Tryz.ntmps9
    go_wp2
    go_ret
    exact ⟨rfl, below1⟩
  by_cases h2 : f < 0
  · rw [right_b3 h2]
    go_enter Tryz.func9, Tryz.ntmps9
    go_wp2
    go_ret
    exact ⟨rfl, below1⟩
  have hb4 := @right_b4 s c f
  have hb5 := @right_b5 s c f
  have hb6 := @right_b6 s c f h0 h1 h2
  generalize rightB s c f = r at *
  have HB4 := Lib.hid hb4; clear hb4
  have HB5 := Lib.hid hb5; clear hb5
  have HB6 := Lib.hid hb6; clear hb6
  go_enter Tryz.func9, Tryz.ntmps9
  go_wp2
  go_loop [3] (fun i => ∃ k : Nat, k ≤ s.length ∧ i = .int .i64 k ∧ Hid ((s.take k).any longS = false)) (fun i => s.length - (intOf i).toNat)
  case atStart => exact ⟨0, by omega, rfl, by simp [Hid]⟩
  case round =>
    obtain ⟨k, hk, rfl, hp⟩ := hrel
    by_cases hlt : k < s.length
    · obtain ⟨a1, rfl, hb1, hc1⟩ := HS.out k s[k] (List.getElem?_eq_getElem hlt)
      have hc2 := cell_past hc1
      have hs := any_take longS s k hlt hp.out
      have hh := any_hit longS s k hlt
      have HS1 := Lib.hid hs; clear hs
      have HH := Lib.hid hh; clear hh
      clear hp hc1
      generalize s[k] = y at *
      by_cases hl : 64 < (y.size : Int)
      · have hr := HB4.out (HH.out (long_yes hl))
        have HR := Lib.hid hr; clear hr
        go_wp2
        go_ret
        exact ⟨ret_bool HR.out.symm, below1⟩
      · go_wp2
        go_round
        case rel => exact ⟨k + 1, by omega, by go_num, by unfold Hid; rw [HS1.out, long_no hl]⟩
        case measure => simp [intOf]; omega
    · obtain rfl : k = s.length := by omega
      rw [List.take_length] at hp
      go_wp2
      go_loopw [4] (fun i wr => ∃ k n : Nat, k ≤ c.length ∧ i = .int .i64 k ∧ Hid ((c.take k).any (misfitW s.length) = false) ∧ wr = (w.alloc (.cells #[.slice A s.length n2, .slice B c.length m2, .int .i64 f, .bool x] 25)).drewN n) (fun i _ => c.length - (intOf i).toNat)
      case atStart => exact ⟨0, 0, by omega, rfl, by simp [Hid], rfl⟩
      case round =>
        obtain ⟨k, n, hk, rfl, hp2, rfl⟩ := hrel
        by_cases hlt2 : k < c.length
        · obtain ⟨a1, rfl, hb1, hc1, hd1⟩ := HC.out k c[k] (List.getElem?_eq_getElem hlt2)
          have hc2 := cell_past hc1
          have hd2 := cell_past hd1
          have hs := any_take (misfitW s.length) c k hlt2 hp2.out
          have hh := any_hit (misfitW s.length) c k hlt2
          have HS1 := Lib.hid hs; clear hs
          have HH := Lib.hid hh; clear hh
          clear hp2 hc1 hd1
          generalize c[k] = y at *
          obtain ⟨q, t⟩ := y
          dsimp only at *
          by_cases hl0 : q < 0
          · have hr := HB5.out (HH.out (misfit_lo hl0))
            have HR := Lib.hid hr; clear hr
            go_wp2
            go_quiet (fail)
            go_wp2
            go_ret
            exact ⟨ret_bool HR.out.symm, ext_drewN (ext_drewN below1 _) _⟩
          have hm := @misfit_no s.length (q, t) hl0
          have hd0 : decide (q < 0) = false := decide_eq_false hl0
          have hp0 : 0 ≤ q := by omega
          clear hl0
          by_cases hl1 : (s.length : Int) ≤ q
          · have hr := HB5.out (HH.out (misfit_hi hl1))
            clear hm
            have hd1 : decide ((s.length : Int) ≤ q) = true := decide_eq_true hl1
            have HR := Lib.hid hr; clear hr
            go_wp2
            go_quiet (fail)
            go_wp2
            go_ret
            exact ⟨ret_bool HR.out.symm, ext_drewN (ext_drewN below1 _) _⟩
          have hm := hm hl1
          have hd1 : decide ((s.length : Int) ≤ q) = false := decide_eq_false hl1
          have hp1 : q < (s.length : Int) := by omega
          clear hl1
          by_cases hl2 : 64 < (t.size : Int)
          · have hr := HB5.out (HH.out (misfit_long hl2))
            clear hm
            have HR := Lib.hid hr; clear hr
            go_wp2
            go_quiet (fail)
            go_wp2
            go_ret
            exact ⟨ret_bool HR.out.symm, ext_drewN (ext_drewN below1 _) _⟩
          rw [hm hl2] at HS1
          have hd2 : decide (64 < (t.size : Int)) = false := decide_eq_false hl2
          clear hm HH
          go_wp2
          go_quiet (fail)
          go_wp2
          go_roundw
          case rel => exact ⟨k + 1, _, by omega, by go_num, by unfold Hid; rw [HS1.out], rfl⟩
          case measure => simp [intOf]; omega
        · obtain rfl : k = c.length := by omega
          rw [List.take_length] at hp2
          have hr := HB6.out hp.out hp2.out
          have HR := Lib.hid hr; clear hr
          go_wp2
          go_ret
          exact ⟨ret_bool HR.out.symm, ext_drewN below1 _⟩

/-- More than is looked at? -/
def longG (s : ByteArray) : Bool := decide (100 < (s.size : Int))
def greatB (s : List ByteArray) (c : List (Int × ByteArray)) : Bool := decide (70 < (s.length : Int)) || decide (100 < (c.length : Int)) || s.any longG || c.any fun x => longG x.2
theorem great_b1 {s : List ByteArray} {c : List (Int × ByteArray)} (h : 70 < (s.length : Int)) : greatB s c = true := by unfold greatB; rw [decide_eq_true h]; simp
theorem great_b2 {s : List ByteArray} {c : List (Int × ByteArray)} (h : 100 < (c.length : Int)) : greatB s c = true := by unfold greatB; rw [decide_eq_true h]; simp
theorem great_b3 {s : List ByteArray} {c : List (Int × ByteArray)} (h : s.any longG = true) : greatB s c = true := by unfold greatB; rw [h]; simp only [Bool.or_true, Bool.true_or]
theorem great_b4 {s : List ByteArray} {c : List (Int × ByteArray)} (h : (c.any fun x => longG x.2) = true) : greatB s c = true := by unfold greatB; rw [h]; simp only [Bool.or_true]
theorem great_b5 {s : List ByteArray} {c : List (Int × ByteArray)} (h0 : ¬ 70 < (s.length : Int)) (h1 : ¬ 100 < (c.length : Int)) (h2 : s.any longG = false) (h3 : (c.any fun x => longG x.2) = false) : greatB s c = false := by
  unfold greatB; rw [decide_eq_false h0, decide_eq_false h1, h2, h3]; rfl
theorem longG_yes {s : ByteArray} (h : 100 < (s.size : Int)) : longG s = true := by unfold longG; rw [decide_eq_true h]
theorem longG_no {s : ByteArray} (h : ¬ 100 < (s.size : Int)) : longG s = false := by unfold longG; rw [decide_eq_false h]
theorem great_small {s : List ByteArray} {c : List (Int × ByteArray)} (h : greatB s c = false) : (s.length : Int) ≤ 70 ∧ (c.length : Int) ≤ 100 := by
  unfold greatB at h
  simp only [Bool.or_eq_false_iff, decide_eq_false_iff_not] at h
  omega

set_option maxHeartbeats 2000000 in
theorem great_any (A B : Option Addr) (n2 m2 : Nat) (s : List ByteArray) (c : List (Int × ByteArray)) (f : Int) (x : Bool) (w : World) (hs : Es Value.string w w.heap.size A s) (hc : Ws w w.heap.size B c) :
    Calls Tryz.prog 8 #[.agg #[.slice A s.length n2, .slice B c.length m2, .int .i64 f, .bool x]] w fun e w' => e = .returned (.bool (greatB s c)) ∧ Below w.heap.size w w' := by
  have HS := Lib.hid hs; clear hs
  have HC := Lib.hid hc; clear hc
  by_cases h0 : 70 < (s.length : Int)
  · rw [great_b1 h0]
    go_enter Tryz.func8, Tryz.ntmps8
    go_wp2
    go_ret
    exact ⟨rfl, below1⟩
  by_cases h1 : 100 < (c.length : Int)
  · rw [great_b2 h1]
    go_enter Tryz.func8, Tryz.ntmps8
    go_wp2
    go_ret
    exact ⟨rfl, below1⟩
  have hb3 := @great_b3 s c
  have hb4 := @great_b4 s c
  have hb5 := @great_b5 s c h0 h1
  generalize greatB s c = r at *
  have HB3 := Lib.hid hb3; clear hb3
  have HB4 := Lib.hid hb4; clear hb4
  have HB5 := Lib.hid hb5; clear hb5
  go_enter Tryz.func8, Tryz.ntmps8
  go_wp2
  go_loop [3] (fun i => ∃ k : Nat, k ≤ s.length ∧ i = .int .i64 k ∧ Hid ((s.take k).any longG = false)) (fun i => s.length - (intOf i).toNat)
  case atStart => exact ⟨0, by omega, rfl, by simp [Hid]⟩
  case round =>
    obtain ⟨k, hk, rfl, hp⟩ := hrel
    by_cases hlt : k < s.length
    · obtain ⟨a1, rfl, hb1, hc1⟩ := HS.out k s[k] (List.getElem?_eq_getElem hlt)
      have hc2 := cell_past hc1
      have hs := any_take longG s k hlt hp.out
      have hh := any_hit longG s k hlt
      have HS1 := Lib.hid hs; clear hs
      have HH := Lib.hid hh; clear hh
      clear hp hc1
      generalize s[k] = y at *
      by_cases hl : 100 < (y.size : Int)
      · have hr := HB3.out (HH.out (longG_yes hl))
        have HR := Lib.hid hr; clear hr
        go_wp2
        go_ret
        exact ⟨ret_bool HR.out.symm, below1⟩
      · go_wp2
        go_round
        case rel => exact ⟨k + 1, by omega, by go_num, by unfold Hid; rw [HS1.out, longG_no hl]⟩
        case measure => simp [intOf]; omega
    · obtain rfl : k = s.length := by omega
      rw [List.take_length] at hp
      go_wp2
      go_loop [4] (fun i => ∃ k : Nat, k ≤ c.length ∧ i = .int .i64 k ∧ Hid (((c.take k).any fun x => longG x.2) = false)) (fun i => c.length - (intOf i).toNat)
      case atStart => exact ⟨0, by omega, rfl, by simp [Hid]⟩
      case round =>
        obtain ⟨k, hk, rfl, hp2⟩ := hrel
        by_cases hlt2 : k < c.length
        · obtain ⟨a1, rfl, hb1, hc1, hd1⟩ := HC.out k c[k] (List.getElem?_eq_getElem hlt2)
          have hd2 := cell_past hd1
          have hs := any_take (fun x => longG x.2) c k hlt2 hp2.out
          have hh := any_hit (fun x => longG x.2) c k hlt2
          have HS1 := Lib.hid hs; clear hs
          have HH := Lib.hid hh; clear hh
          clear hp2 hc1 hd1
          generalize c[k] = y at *
          obtain ⟨q, t⟩ := y
          dsimp only at *
          by_cases hl : 100 < (t.size : Int)
          · have hr := HB4.out (HH.out (longG_yes hl))
            have HR := Lib.hid hr; clear hr
            go_wp2
            go_ret
            exact ⟨ret_bool HR.out.symm, below1⟩
          · go_wp2
            go_round
            case rel => exact ⟨k + 1, by omega, by go_num, by unfold Hid; rw [HS1.out, longG_no hl]⟩
            case measure => simp [intOf]; omega
        · obtain rfl : k = c.length := by omega
          rw [List.take_length] at hp2
          have hr := HB5.out hp.out hp2.out
          have HR := Lib.hid hr; clear hr
          go_wp2
          go_ret
          exact ⟨ret_bool HR.out.symm, below1⟩

end Go.Proofs.YtjkgellkkjjnbaaGreatDoor

/- Disks: whether two are the same, as both sides tell it, for every two. No other condition but that their lists lie in memory. -/

namespace Go.Proofs.YtjkgellkkjjnbaaGreatDoor
open Go.RowKit

/-- The same ones? -/
def sameB (s1 s2 : List ByteArray) (c1 c2 : List (Int × ByteArray)) (f1 f2 : Int) (x1 x2 : Bool) : Bool := decide (s1 = s2) && decide (c1 = c2) && (f1 == f2) && (x1 == x2)
theorem same_no1 {s1 s2 : List ByteArray} {c1 c2 : List (Int × ByteArray)} {f1 f2 : Int} {x1 x2 : Bool} (h : s1 ≠ s2) : sameB s1 s2 c1 c2 f1 f2 x1 x2 = false := by unfold sameB; rw [decide_eq_false h]; rfl
theorem same_no2 {s1 s2 : List ByteArray} {c1 c2 : List (Int × ByteArray)} {f1 f2 : Int} {x1 x2 : Bool} (h : c1 ≠ c2) : sameB s1 s2 c1 c2 f1 f2 x1 x2 = false := by unfold sameB; rw [decide_eq_false h, Bool.and_false]; rfl
theorem same_no3 {s1 s2 : List ByteArray} {c1 c2 : List (Int × ByteArray)} {f1 f2 : Int} {x1 x2 : Bool} (h : (f1 == f2) = false) : sameB s1 s2 c1 c2 f1 f2 x1 x2 = false := by unfold sameB; rw [h, Bool.and_false]; rfl
theorem same_no4 {s1 s2 : List ByteArray} {c1 c2 : List (Int × ByteArray)} {f1 f2 : Int} {x1 x2 : Bool} (h : (x1 == x2) = false) : sameB s1 s2 c1 c2 f1 f2 x1 x2 = false := by unfold sameB; rw [h, Bool.and_false]
theorem same_yes {s1 s2 : List ByteArray} {c1 c2 : List (Int × ByteArray)} {f1 f2 : Int} {x1 x2 : Bool} (h1 : s1 = s2) (h2 : c1 = c2) (h3 : (f1 == f2) = true) (h4 : (x1 == x2) = true) : sameB s1 s2 c1 c2 f1 f2 x1 x2 = true := by
  unfold sameB; rw [decide_eq_true h1, decide_eq_true h2, h3, h4]; rfl
theorem same_is {s1 s2 : List ByteArray} {c1 c2 : List (Int × ByteArray)} {f1 f2 : Int} {x1 x2 : Bool} (h1 : s1 = s2) (h2 : c1 = c2) (h3 : f1 = f2) (h4 : x1 = x2) : sameB s1 s2 c1 c2 f1 f2 x1 x2 = true :=
  same_yes h1 h2 (by simp [h3]) (by simp [h4])

set_option maxRecDepth 100000 in
set_option maxHeartbeats 2000000 in
theorem same_any (A1 B1 A2 B2 : Option Addr) (n1 m1 n2 m2 : Nat) (s1 s2 : List ByteArray) (c1 c2 : List (Int × ByteArray)) (f1 f2 : Int) (x1 x2 : Bool) (w : World)
    (hs1 : Es Value.string w w.heap.size A1 s1) (hc1 : Ws w w.heap.size B1 c1) (hs2 : Es Value.string w w.heap.size A2 s2) (hc2 : Ws w w.heap.size B2 c2)
    (ms1 : s1.length ≤ maxLen) (mc1 : c1.length ≤ maxLen) (ms2 : s2.length ≤ maxLen) (mc2 : c2.length ≤ maxLen) :
    Calls Tryz.prog 35 #[.agg #[.slice A1 s1.length n1, .slice B1 c1.length m1, .int .i64 f1, .bool x1], .agg #[.slice A2 s2.length n2, .slice B2 c2.length m2, .int .i64 f2, .bool x2]] w
      fun e w' => e = .returned (.bool (sameB s1 s2 c1 c2 f1 f2 x1 x2)) ∧ Below w.heap.size w w' := by
  have HS1 := Lib.hid hs1; clear hs1
  have HS2 := Lib.hid hs2; clear hs2
  have HC1 := Lib.hid hc1; clear hc1
  have HC2 := Lib.hid hc2; clear hc2
  have MS1 := Lib.hid ms1; clear ms1
  have MS2 := Lib.hid ms2; clear ms2
  have MC1 := Lib.hid mc1; clear mc1
  have MC2 := Lib.hid mc2; clear mc2
  unfold sameB
  go_enter Tryz.func35, Tryz.ntmps35
  go_wp2_with fail
  refine (eqStr_any A1 A2 n1 n2 s1 s2 _ _ (HS1.out.up below2) (HS2.out.up below2) MS1.out MS2.out).mono ?_
  rintro e w1 ⟨rfl, k1, rfl⟩
  cases h1 : decide (s1 = s2) with
  | false =>
    go_wp2_with fail
    go_ret
    exact ⟨ret_bool (by rw [h1]; rfl), ext_drewN below2 _⟩
  | true =>
    go_wp2_with fail
    refine (eqWr_any B1 B2 m1 m2 c1 c2 _ _ (HC1.out.up (ext_drewN below2 _)) (HC2.out.up (ext_drewN below2 _)) MC1.out MC2.out).mono ?_
    rintro e w2 ⟨rfl, k2, rfl⟩
    cases h2 : decide (c1 = c2) with
    | false =>
      go_wp2_with fail
      go_ret
      exact ⟨ret_bool (by rw [h1, h2]; rfl), ext_drewN below2 _⟩
    | true =>
      cases h3 : f1 == f2 with
      | false =>
        go_wp2_with fail
        go_ret
        exact ⟨ret_bool (by rw [h1, h2, h3]; rfl), ext_drewN below2 _⟩
      | true =>
        go_wp2_with fail
        go_ret
        exact ⟨ret_bool (by rw [h1, h2, h3]; rfl), ext_drewN below2 _⟩

set_option maxRecDepth 100000 in
set_option maxHeartbeats 2000000 in
theorem rsame_any (A1 B1 A2 B2 : Option Addr) (n1 m1 n2 m2 : Nat) (s1 s2 : List ByteArray) (c1 c2 : List (Int × ByteArray)) (f1 f2 : Int) (x1 x2 : Bool) (w : World)
    (hs1 : Es Value.string w w.heap.size A1 s1) (hc1 : Ws w w.heap.size B1 c1) (hs2 : Es Value.string w w.heap.size A2 s2) (hc2 : Ws w w.heap.size B2 c2)
    (ms1 : s1.length ≤ maxLen) (mc1 : c1.length ≤ maxLen) :
    Calls Tryz.prog 34 #[.agg #[.slice A1 s1.length n1, .slice B1 c1.length m1, .int .i64 f1, .bool x1], .agg #[.slice A2 s2.length n2, .slice B2 c2.length m2, .int .i64 f2, .bool x2]] w
      fun e w' => e = .returned (.bool (sameB s1 s2 c1 c2 f1 f2 x1 x2)) ∧ Below w.heap.size w w' := by
  unfold maxLen at ms1 mc1
  have hgd := wr_guard
  have HS1 := Lib.hid hs1; clear hs1
  have HS2 := Lib.hid hs2; clear hs2
  have HC1 := Lib.hid hc1; clear hc1
  have HC2 := Lib.hid hc2; clear hc2
  by_cases hl : s1.length = s2.length
  rotate_left
  · rw [same_no1 (fun e => hl (by rw [e]))]
    have hli : ((s1.length : Int) == (s2.length : Int)) = false := by rw [beq_eq_false_iff_ne]; omega
    have hnb : ((s1.length : Int) != (s2.length : Int)) = true := by simp [bne, hli]
    clear hl
    go_enter Tryz.func34, Tryz.ntmps34
    go_wp2
    go_ret
    exact ⟨rfl, below2⟩
  by_cases hk : c1.length = c2.length
  rotate_left
  · rw [same_no2 (fun e => hk (by rw [e]))]
    have hli : ((s1.length : Int) == (s2.length : Int)) = true := by simp [hl]
    have hnb : ((s1.length : Int) != (s2.length : Int)) = false := by simp [bne, hli]
    have hki : ((c1.length : Int) == (c2.length : Int)) = false := by rw [beq_eq_false_iff_ne]; omega
    have hkb : ((c1.length : Int) != (c2.length : Int)) = true := by simp [bne, hki]
    clear hl hk
    go_enter Tryz.func34, Tryz.ntmps34
    go_wp2
    go_ret
    exact ⟨rfl, below2⟩
  have HL := Lib.hid hl
  have HK := Lib.hid hk
  have hli : ((s1.length : Int) == (s2.length : Int)) = true := by simp [hl]
  have hnb : ((s1.length : Int) != (s2.length : Int)) = false := by simp [bne, hli]
  have hki : ((c1.length : Int) == (c2.length : Int)) = true := by simp [hk]
  have hkb : ((c1.length : Int) != (c2.length : Int)) = false := by simp [bne, hki]
  clear hl hk
  cases h3 : (f1 == f2) with
  | false =>
    rw [same_no3 h3]
    have h3b : (f1 != f2) = true := by simp [bne, h3]
    go_enter Tryz.func34, Tryz.ntmps34
    go_wp2
    go_ret
    exact ⟨rfl, below2⟩
  | true =>
  have h3b : (f1 != f2) = false := by simp [bne, h3]
  cases h4 : (x1 == x2) with
  | false =>
    rw [same_no4 h4]
    have h4b : (x1 != x2) = true := by simp [bne, h4]
    go_enter Tryz.func34, Tryz.ntmps34
    go_wp2
    go_ret
    exact ⟨rfl, below2⟩
  | true =>
  have h4b : (x1 != x2) = false := by simp [bne, h4]
  have hn1 := @same_no1 s1 s2 c1 c2 f1 f2 x1 x2
  have hn2 := @same_no2 s1 s2 c1 c2 f1 f2 x1 x2
  have hy := fun e1 e2 => @same_yes s1 s2 c1 c2 f1 f2 x1 x2 e1 e2 h3 h4
  generalize sameB s1 s2 c1 c2 f1 f2 x1 x2 = r at *
  have HN1 := Lib.hid hn1; clear hn1
  have HN2 := Lib.hid hn2; clear hn2
  have HY := Lib.hid hy; clear hy
  go_enter Tryz.func34, Tryz.ntmps34
  go_wp2
  go_loopw [5] (fun i wr => ∃ k n : Nat, k ≤ s1.length ∧ i = .int .i64 k ∧ Hid (s1.take k = s2.take k) ∧ wr = ((w.alloc (.cells #[.slice A1 s1.length n1, .slice B1 c1.length m1, .int .i64 f1, .bool x1] 25)).alloc (.cells #[.slice A2 s2.length n2, .slice B2 c2.length m2, .int .i64 f2, .bool x2] 25)).drewN n) (fun i _ => s1.length - (intOf i).toNat)
  case atStart => exact ⟨0, 0, by omega, rfl, by simp [Hid], rfl⟩
  case round =>
    obtain ⟨k, n, hk, rfl, hp, rfl⟩ := hrel
    by_cases hlt : k < s1.length
    · have hlt2 : k < s2.length := by rw [← HL.out]; exact hlt
      obtain ⟨a1, rfl, hb1, hc1⟩ := HS1.out k s1[k] (List.getElem?_eq_getElem hlt)
      obtain ⟨a2, rfl, hb2, hc2⟩ := HS2.out k s2[k] (List.getElem?_eq_getElem hlt2)
      have hd1 := cell_past2 hc1
      have hd2 := cell_past2 hc2
      have hs := eq_take_step hlt hlt2 hp.out
      have hh := eq_take_no hlt hlt2
      have HS := Lib.hid hs; clear hs
      have HH := Lib.hid hh; clear hh
      clear hp hc1 hc2
      generalize s1[k] = x at *
      generalize s2[k] = y at *
      by_cases hxy : x = y
      · have he : (x.toList == y.toList) = true := by rw [text_eq, decide_eq_true hxy]
        have HX := Lib.hid hxy; clear hxy
        go_wp2
        go_quiet (fail)
        go_wp2
        go_roundw
        case rel => exact ⟨k + 1, _, by omega, by go_num, HS.out HX.out, rfl⟩
        case measure => simp [intOf]; omega
      · have he : (x.toList == y.toList) = false := by rw [text_eq, decide_eq_false hxy]
        have hne := HN1.out (HH.out hxy)
        have HN := Lib.hid hne; clear hne
        clear hxy HH HS
        go_wp2
        go_quiet (fail)
        go_wp2
        go_ret
        exact ⟨ret_bool HN.out.symm, ext_drewN (ext_drewN below2 _) _⟩
    · obtain rfl : k = s1.length := by omega
      have hq := eq_take_yes HL.out hp.out
      have HQ := Lib.hid hq; clear hq
      clear hp
      go_wp2
      go_loopw [6] (fun i wr => ∃ k n : Nat, k ≤ c1.length ∧ i = .int .i64 k ∧ Hid (c1.take k = c2.take k) ∧ wr = ((w.alloc (.cells #[.slice A1 s1.length n1, .slice B1 c1.length m1, .int .i64 f1, .bool x1] 25)).alloc (.cells #[.slice A2 s2.length n2, .slice B2 c2.length m2, .int .i64 f2, .bool x2] 25)).drewN n) (fun i _ => c1.length - (intOf i).toNat)
      case atStart => exact ⟨0, _, by omega, rfl, by simp [Hid], rfl⟩
      case round =>
        obtain ⟨k, n, hk, rfl, hp, rfl⟩ := hrel
        by_cases hlt : k < c1.length
        · have hlt2 : k < c2.length := by rw [← HK.out]; exact hlt
          obtain ⟨a1, rfl, hb1, hc1, hd1⟩ := HC1.out k c1[k] (List.getElem?_eq_getElem hlt)
          obtain ⟨a2, rfl, hb2, hc2, hd2⟩ := HC2.out k c2[k] (List.getElem?_eq_getElem hlt2)
          have he1 := cell_past2 hc1
          have he2 := cell_past2 hc2
          have hf1 := cell_past2 hd1
          have hf2 := cell_past2 hd2
          have hs := eq_take_step hlt hlt2 hp.out
          have hh := eq_take_no hlt hlt2
          have HS := Lib.hid hs; clear hs
          have HH := Lib.hid hh; clear hh
          clear hp hc1 hc2 hd1 hd2
          generalize c1[k] = x at *
          generalize c2[k] = y at *
          have hq := wr_neq x y
          by_cases hxy : x = y
          · rw [decide_eq_true hxy] at hq
            have HX := Lib.hid hxy; clear hxy
            go_wp2
            go_quiet (fail)
            go_wp2
            go_roundw
            case rel => exact ⟨k + 1, _, by omega, by go_num, HS.out HX.out, rfl⟩
            case measure => simp [intOf]; omega
          · rw [decide_eq_false hxy] at hq
            have hne := HN2.out (HH.out hxy)
            have HN := Lib.hid hne; clear hne
            clear hxy HH HS
            go_wp2
            go_quiet (fail)
            go_wp2
            go_ret
            exact ⟨ret_bool HN.out.symm, ext_drewN (ext_drewN below2 _) _⟩
        · obtain rfl : k = c1.length := by omega
          have hq := HY.out HQ.out (eq_take_yes HK.out hp.out)
          have HR := Lib.hid hq; clear hq
          clear hp
          go_wp2
          go_ret
          exact ⟨ret_bool HR.out.symm, ext_drewN below2 _⟩

end Go.Proofs.YtjkgellkkjjnbaaGreatDoor
