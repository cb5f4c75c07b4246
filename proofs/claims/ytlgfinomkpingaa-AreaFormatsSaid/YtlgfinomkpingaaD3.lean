/- Disks: what burns the fuse, arms, crashes, makes a disk, and what stands between a call and a sector: for every disk. No other condition. -/
import Derived.Test.YtlgfinomkpingaaD1
namespace Go.Proofs.Ytlgfinomkpingaa
open Go.RowKit

/-- The fuse behind an operation; and whether the disk is dead then. -/
def burnF (f : Int) : Int := if 1 < f then f - 1 else if f = 1 then 0 else f
def burnD (f : Int) (x : Bool) : Bool := if f = 1 then true else x

set_option maxHeartbeats 400000 in
theorem crash_any (A B : Option Addr) (n1 n2 m1 m2 : Nat) (f : Int) (x : Bool) (w : World) :
    Calls Try.prog 75 #[.agg #[.slice A n1 n2, .slice B m1 m2, .int .i64 f, .bool x]] w fun e w' => e = .returned (.agg #[.slice A n1 n2, .slice B m1 m2, .int .i64 0, .bool true]) ∧ Below w.heap.size w w' := by
  go_enter Try.func75, Try.ntmps75
  go_wp2
  refine bodyPost_ret (v := .agg #[.slice A n1 n2, .slice B m1 m2, .int .i64 0, .bool true]) (by simp [results, Try.results75, go_sem]) rfl ⟨rfl, ?_⟩
  exact ext_alloc (ext_alloc (Below.refl _ _) _) _

set_option maxHeartbeats 400000 in
theorem rcrash_any (A B : Option Addr) (n1 n2 m1 m2 : Nat) (f : Int) (x : Bool) (w : World) :
    Calls Try.prog 21 #[.agg #[.slice A n1 n2, .slice B m1 m2, .int .i64 f, .bool x]] w fun e w' => e = .returned (.agg #[.slice A n1 n2, .slice B m1 m2, .int .i64 0, .bool true]) ∧ Below w.heap.size w w' := by
  go_enter Try.func21, Try.ntmps21
  go_wp2
  refine bodyPost_ret (v := .agg #[.slice A n1 n2, .slice B m1 m2, .int .i64 0, .bool true]) (by simp [results, Try.results21, go_sem]) rfl ⟨rfl, ?_⟩
  exact ext_alloc (ext_alloc (Below.refl _ _) _) _

set_option maxHeartbeats 1000000 in
theorem burn_any (A B : Option Addr) (n1 n2 m1 m2 : Nat) (f : Int) (x : Bool) (w : World) (hf : f < 9223372036854775808) :
    Calls Try.prog 52 #[.agg #[.slice A n1 n2, .slice B m1 m2, .int .i64 f, .bool x]] w fun e w' => e = .returned (.agg #[.slice A n1 n2, .slice B m1 m2, .int .i64 (burnF f), .bool (burnD f x)]) ∧ Below w.heap.size w w' := by
  unfold burnF burnD
  by_cases h1 : f = 1
  · subst h1
    go_enter Try.func52, Try.ntmps52
    go_wp2
    refine bodyPost_ret (v := .agg #[.slice A n1 n2, .slice B m1 m2, .int .i64 0, .bool true]) (by simp [results, Try.results52, go_sem]) rfl ⟨rfl, ?_⟩
    exact ext_alloc (ext_alloc (ext_alloc (ext_alloc (Below.refl _ _) _) _) _) _
  · by_cases h2 : 1 < f
    · rw [if_neg h1, if_pos h2]
      have hb : (f == 1) = false := beq_eq_false_iff_ne.2 h1
      clear h1
      go_enter Try.func52, Try.ntmps52
      go_wp2
      refine bodyPost_ret (v := .agg #[.slice A n1 n2, .slice B m1 m2, .int .i64 (f - 1), .bool x]) (by simp [results, Try.results52, go_sem]) rfl ⟨rfl, ?_⟩
      exact ext_alloc (ext_alloc (Below.refl _ _) _) _
    · rw [if_neg h1, if_neg h2, if_neg h1]
      have hb : (f == 1) = false := beq_eq_false_iff_ne.2 h1
      clear h1
      go_enter Try.func52, Try.ntmps52
      go_wp2
      refine bodyPost_ret (v := .agg #[.slice A n1 n2, .slice B m1 m2, .int .i64 f, .bool x]) (by simp [results, Try.results52, go_sem]) rfl ⟨rfl, ?_⟩
      exact ext_alloc (ext_alloc (Below.refl _ _) _) _

set_option maxHeartbeats 1000000 in
theorem rburn_any (A B : Option Addr) (n1 n2 m1 m2 : Nat) (f : Int) (x : Bool) (w : World) (hf : f < 9223372036854775808) :
    Calls Try.prog 55 #[.agg #[.slice A n1 n2, .slice B m1 m2, .int .i64 f, .bool x]] w fun e w' => e = .returned (.agg #[.slice A n1 n2, .slice B m1 m2, .int .i64 (burnF f), .bool (burnD f x)]) ∧ Below w.heap.size w w' := by
  unfold burnF burnD
  by_cases h1 : f = 1
  · subst h1
    go_enter Try.func55, Try.ntmps55
    go_wp2
    refine bodyPost_ret (v := .agg #[.slice A n1 n2, .slice B m1 m2, .int .i64 0, .bool true]) (by simp [results, Try.results55, go_sem]) rfl ⟨rfl, ?_⟩
    exact ext_alloc (ext_alloc (Below.refl _ _) _) _
  · by_cases h2 : 1 < f
    · rw [if_neg h1, if_pos h2]
      have hb : (f == 1) = false := beq_eq_false_iff_ne.2 h1
      have h0 : 0 < f := by omega
      clear h1
      go_enter Try.func55, Try.ntmps55
      go_wp2
      refine bodyPost_ret (v := .agg #[.slice A n1 n2, .slice B m1 m2, .int .i64 (f - 1), .bool x]) (by simp [results, Try.results55, go_sem]) rfl ⟨rfl, ?_⟩
      exact ext_alloc (ext_alloc (Below.refl _ _) _) _
    · rw [if_neg h1, if_neg h2, if_neg h1]
      have hb : (f == 1) = false := beq_eq_false_iff_ne.2 h1
      have h0 : ¬ 0 < f := by omega
      clear h1
      go_enter Try.func55, Try.ntmps55
      go_wp2
      refine bodyPost_ret (v := .agg #[.slice A n1 n2, .slice B m1 m2, .int .i64 f, .bool x]) (by simp [results, Try.results55, go_sem]) rfl ⟨rfl, ?_⟩
      exact ext_alloc (ext_alloc (Below.refl _ _) _) _

set_option maxHeartbeats 400000 in
theorem rarm_any (A B : Option Addr) (n1 n2 m1 m2 : Nat) (f n : Int) (x : Bool) (w : World) :
    Calls Try.prog 19 #[.agg #[.slice A n1 n2, .slice B m1 m2, .int .i64 f, .bool x], .int .i64 n] w fun e w' => e = .returned (.agg #[.slice A n1 n2, .slice B m1 m2, .int .i64 (if n < 0 then 0 else n), .bool x]) ∧ Below w.heap.size w w' := by
  by_cases hn : n < 0
  · rw [if_pos hn]
    go_enter Try.func19, Try.ntmps19
    go_wp2
    refine bodyPost_ret (v := .agg #[.slice A n1 n2, .slice B m1 m2, .int .i64 0, .bool x]) (by simp [results, Try.results19, go_sem]) rfl ⟨rfl, ?_⟩
    exact ext_alloc (ext_alloc (Below.refl _ _) _) _
  · rw [if_neg hn]
    go_enter Try.func19, Try.ntmps19
    go_wp2
    refine bodyPost_ret (v := .agg #[.slice A n1 n2, .slice B m1 m2, .int .i64 n, .bool x]) (by simp [results, Try.results19, go_sem]) rfl ⟨rfl, ?_⟩
    exact ext_alloc (ext_alloc (Below.refl _ _) _) _

/-- What stands between a call and a sector of n. -/
def reachE (n : Nat) (i : Int) (x : Bool) : Int := if x = true then 6 else if i < 0 then 4 else if (n : Int) ≤ i then 4 else 0
set_option maxHeartbeats 400000 in
theorem reach_any (A B : Option Addr) (n1 n2 m1 m2 : Nat) (f i : Int) (x : Bool) (w : World) :
    Calls Try.prog 48 #[.agg #[.slice A n1 n2, .slice B m1 m2, .int .i64 f, .bool x], .int .i64 i] w fun e w' => e = .returned (.int .i64 (reachE n1 i x)) ∧ Below w.heap.size w w' := by
  unfold reachE
  cases x with
  | true =>
    rw [if_pos rfl]
    go_enter Try.func48, Try.ntmps48
    go_wp2
    go_ret
    exact ⟨rfl, ext_alloc (Below.refl _ _) _⟩
  | false =>
    rw [if_neg (by simp)]
    by_cases h0 : i < 0
    · rw [if_pos h0]
      go_enter Try.func48, Try.ntmps48
      go_wp2
      go_ret
      exact ⟨rfl, ext_alloc (Below.refl _ _) _⟩
    · rw [if_neg h0]
      by_cases h1 : (n1 : Int) ≤ i
      · rw [if_pos h1]
        go_enter Try.func48, Try.ntmps48
        go_wp2
        go_ret
        exact ⟨rfl, ext_alloc (Below.refl _ _) _⟩
      · rw [if_neg h1]
        go_enter Try.func48, Try.ntmps48
        go_wp2
        go_ret
        exact ⟨rfl, ext_alloc (Below.refl _ _) _⟩

theorem info9 : (Try.prog.info? 9).map (fun i => (i.zero, i.size, i.bytes)) = some (some (.string ⟨#[]⟩), 1, 16) := by kernel_rfl
theorem info45 : (Try.prog.info? 43).map (fun i => (i.zero, i.size, i.bytes)) = some (some (.agg #[.int .i64 0, .string ⟨#[]⟩]), 2, 24) := by kernel_rfl

set_option maxRecDepth 100000 in
theorem make_strs (n : Nat) (h : n ≤ 64) (w : World) :
    (Instr.makeSlice 22 (.int .i64 (n : Int)) (.int .i64 (n : Int))).run Try.prog w = .ok (.slice (some ⟨w.heap.size, 0, none⟩) n n) (w.alloc (.cells (Array.replicate n (.string ⟨#[]⟩)) 9)) := by
  obtain ⟨i0, hi, hz0, hz1, hz2⟩ := info_parts info9
  have := run_make (P := Try.prog) w 22 9 i0 (.string ⟨#[]⟩) Try.underlying22 hi hz0 .i64 .i64 n n (by omega) (by omega) (by rw [hz2]; omega) (by omega)
  rw [this]
  simp only [Int.toNat_natCast, hz1, Nat.mul_one, madeCells]
  congr 4
  apply Array.ext
  · simp
  · intro j h1 h2
    simp [Value.cells, Nat.mod_one]

theorem es_made (n : Nat) (w : World) : Es Value.string (w.alloc (.cells (Array.replicate n (.string ⟨#[]⟩)) 9)) (w.heap.size + 1) (some ⟨w.heap.size, 0, none⟩) (List.replicate n ⟨#[]⟩) := by
  intro j x hj
  refine ⟨_, rfl, Nat.lt_succ_self _, ?_⟩
  have : (⟨w.heap.size, 0, none⟩ : Addr).add j = ⟨w.heap.size, j, none⟩ := by unfold Addr.add; split <;> simp_all
  rw [this, World.cell?_alloc_mark w _ 9 (0, 0)]
  rw [List.getElem?_replicate] at hj
  split at hj
  · injection hj with hj
    subst hj
    simp_all
  · cases hj

/-- A disk's two lists, where they lie. -/
structure Mem (w : World) (A : Option Addr) (n : Nat) (B : Option Addr) (m : Nat) (s : List ByteArray) (c : List (Int × ByteArray)) : Prop where
  es : Es Value.string w w.heap.size A s
  ws : Ws w w.heap.size B c
  an : A = none → n = 0
  bn : B = none → m = 0
theorem Mem.up {w w' : World} {A B : Option Addr} {n m : Nat} {s : List ByteArray} {c : List (Int × ByteArray)} (h : Mem w A n B m s c) (hb : Below w.heap.size w w') : Mem w' A n B m s c :=
  ⟨h.es.below hb hb.size, h.ws.below hb hb.size, h.an, h.bn⟩
theorem mem_nil (w : World) : Mem w none 0 none 0 [] [] := ⟨es_nil _ _ _ _, ws_nil _ _ _, fun _ => rfl, fun _ => rfl⟩

/-- It hands back a disk and a number, and leaves what was there as it was. -/
def GivesD (s : List ByteArray) (c : List (Int × ByteArray)) (f : Int) (x : Bool) (r : Int) (w : World) (e : Ending) (w' : World) : Prop :=
  ∃ A B n m, e = .returned (.tuple #[.agg #[.slice A s.length n, .slice B c.length m, .int .i64 f, .bool x], .int .i64 r]) ∧ Mem w' A n B m s c ∧ Below w.heap.size w w'

set_option maxHeartbeats 400000 in
theorem new_any (n : Int) (w : World) : Calls Try.prog 36 #[.int .i64 n] w
    (GivesD (if n < 1 then [] else if 64 < n then [] else List.replicate n.toNat ⟨#[]⟩) [] 0 false (if n < 1 then 1 else if 64 < n then 1 else 0) w) := by
  by_cases h0 : n < 1
  · rw [if_pos h0, if_pos h0]
    go_enter Try.func36, Try.ntmps36
    go_wp2
    refine bodyPost_ret (v := .tuple #[.agg #[.slice none 0 0, .slice none 0 0, .int .i64 0, .bool false], .int .i64 1]) (by simp [results, Try.results36, go_sem]) rfl ⟨none, none, 0, 0, rfl, mem_nil _, ext_alloc (Below.refl _ _) _⟩
  · rw [if_neg h0, if_neg h0]
    by_cases h1 : 64 < n
    · rw [if_pos h1, if_pos h1]
      go_enter Try.func36, Try.ntmps36
      go_wp2
      refine bodyPost_ret (v := .tuple #[.agg #[.slice none 0 0, .slice none 0 0, .int .i64 0, .bool false], .int .i64 1]) (by simp [results, Try.results36, go_sem]) rfl ⟨none, none, 0, 0, rfl, mem_nil _, ext_alloc (Below.refl _ _) _⟩
    · rw [if_neg h1, if_neg h1]
      obtain ⟨k, rfl⟩ := Int.eq_ofNat_of_zero_le (show 0 ≤ n by omega)
      have hmk := make_strs k (by omega)
      rw [Int.toNat_natCast]
      go_enter Try.func36, Try.ntmps36
      go_wp2
      refine bodyPost_ret (v := .tuple #[.agg #[.slice (some ⟨w.heap.size + 1, 0, none⟩) k k, .slice none 0 0, .int .i64 0, .bool false], .int .i64 0]) (by simp [results, Try.results36, go_sem]) rfl
        ⟨some ⟨w.heap.size + 1, 0, none⟩, none, k, 0, by rw [List.length_replicate]; rfl, ⟨?_, ws_nil _ _ _, (fun q => by cases q), fun _ => rfl⟩, ext_alloc (ext_alloc (Below.refl _ _) _) _⟩
      have h := es_made k (w.alloc (.cells #[.slice (some ⟨w.heap.size + 1, 0, none⟩) k k, .slice none 0 0, .int .i64 0, .bool false] 25))
      simpa using h
end Go.Proofs.Ytlgfinomkpingaa
