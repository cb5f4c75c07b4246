/- Lineage: lists of mints and of numbers in memory, and what the small functions over them answer. No other condition but that the lists lie in memory. -/
import Derived.Test.YtpipindifeklbaaMP
import Derived.Test.YtpipindifeklbaaL0
namespace Go.Proofs.Ytpipindifeklbaa
open Go.RowKit

/-- A slice of mints (three cells each) that reads as a list. -/
def Ms (w : World) (D : Nat) (A : Option Addr) (l : List Mnt) : Prop :=
  ∀ j x, l[j]? = some x → ∃ a, A = some a ∧ a.block < D ∧ w.cell? (a.add (j * 3)) = some (.int .u64 x.g) ∧ w.cell? ⟨(a.add (j * 3)).block, (a.add (j * 3)).off + 1, none⟩ = some (.int .u64 x.p) ∧
    w.cell? ⟨(a.add (j * 3)).block, (a.add (j * 3)).off + 2, none⟩ = some (.int .i64 x.k)

/-- Each of them within its type. -/
def Wide (l : List Mnt) : Prop := ∀ m ∈ l, U64 m.g ∧ U64 m.p

theorem ms_nil (w : World) (D : Nat) (A : Option Addr) : Ms w D A [] := by intro j x h; simp at h
theorem Ms.below {w w' : World} {D D' : Nat} {A : Option Addr} {l : List Mnt} (h : Ms w D A l) (hb : Below D w w') (hD : D ≤ D') : Ms w' D' A l := by
  intro j x hj
  obtain ⟨a, ha, hlt, hc, hd, he⟩ := h j x hj
  exact ⟨a, ha, by omega, (hb.cell (p := a.add (j * 3)) (by rw [add_block]; exact hlt)).trans hc, (hb.cell (p := ⟨(a.add (j * 3)).block, (a.add (j * 3)).off + 1, none⟩) (by show (a.add (j * 3)).block < D; rw [add_block]; exact hlt)).trans hd,
    (hb.cell (p := ⟨(a.add (j * 3)).block, (a.add (j * 3)).off + 2, none⟩) (by show (a.add (j * 3)).block < D; rw [add_block]; exact hlt)).trans he⟩
theorem Ms.up {w w' : World} {A : Option Addr} {l : List Mnt} (h : Ms w w.heap.size A l) (hb : Below w.heap.size w w') : Ms w' w'.heap.size A l := h.below hb hb.size

theorem u64_zero : U64 0 := by unfold U64; decide
theorem u64_par {l : List Mnt} (h : Wide l) (g : Int) : U64 (par l g) := by
  induction l with
  | nil => exact u64_zero
  | cons m t ih =>
    unfold par
    by_cases e : m.g = g
    · rw [if_pos e]; exact (h m (by simp)).2
    · rw [if_neg e]; exact ih fun x hx => h x (List.mem_cons_of_mem _ hx)

/-- The first place of a number in a list, counted from k on; -1, if it has none. -/
def idxN (g : Int) : List Int → Nat → Int
  | [], _ => -1
  | x :: t, k => if x = g then k else idxN g t (k + 1)
theorem idxN_at {g : Int} {l : List Int} {k : Nat} (h : k < l.length) (hx : l[k] = g) : idxN g (l.drop k) k = k := by
  rw [List.drop_eq_getElem_cons h]; simp [idxN, hx]
theorem idxN_on {g : Int} {l : List Int} {k : Nat} (h : k < l.length) (hx : ¬ l[k] = g) : idxN g (l.drop k) k = idxN g (l.drop (k + 1)) (k + 1) := by
  rw [List.drop_eq_getElem_cons h]; simp [idxN, hx]
theorem idxN_end {g : Int} {l : List Int} : idxN g (l.drop l.length) l.length = -1 := by
  rw [List.drop_length]; rfl
theorem idxN_mem (g : Int) : ∀ (l : List Int) (k : Nat), decide (0 ≤ idxN g l k) = decide (g ∈ l)
  | [], _ => by simp [idxN]
  | x :: t, k => by
    unfold idxN
    by_cases e : x = g
    · rw [if_pos e]; simp [e]
    · rw [if_neg e, idxN_mem g t (k + 1)]
      have e' : ¬ g = x := fun q => e q.symm
      simp [e']

set_option maxHeartbeats 1000000 in
theorem idxn_any (A : Option Addr) (c : Nat) (l : List Int) (g : Int) (w : World) (D : Nat) (h : Es (Value.int .u64) w D A l) (hm : l.length ≤ maxLen) :
    Calls Try.prog 22 #[.slice A l.length c, .int .u64 g] w fun e w' => e = .returned (.int .i64 (idxN g l 0)) ∧ w' = w := by
  unfold maxLen at hm
  have H1 := Lib.hid h; clear h
  have hz : idxN g l 0 = idxN g (l.drop 0) 0 := by rw [List.drop_zero]
  have HZ := Lib.hid hz; clear hz
  go_enter Try.func22, Try.ntmps22
  go_wp2
  go_loop [5, 8] (fun _ i => ∃ k : Nat, k ≤ l.length ∧ i = .int .i64 k ∧ Hid (idxN g l 0 = idxN g (l.drop k) k)) (fun _ i => l.length - (intOf i).toNat)
  case atStart => exact ⟨0, by omega, rfl, HZ⟩
  case round =>
    obtain ⟨k, hk, rfl, hp⟩ := hrel
    clear HZ
    by_cases hlt : k < l.length
    · obtain ⟨a1, rfl, hb1, hc1⟩ := H1.out k l[k] (List.getElem?_eq_getElem hlt)
      have ha := @idxN_at g l k hlt
      have ho := @idxN_on g l k hlt
      have HA := Lib.hid ha; clear ha
      have HO := Lib.hid ho; clear ho
      generalize l[k] = x at *
      by_cases hx : g = x
      · subst hx
        go_wp2
        go_ret
        exact ⟨ret_int (by rw [hp.out, HA.out trivial]), rfl⟩
      · have hq : (g == x) = false := beq_eq_false_iff_ne.2 hx
        have hn : Hid (¬ x = g) := fun e => hx e.symm
        clear hx
        go_wp2
        go_round
        case rel => exact ⟨k + 1, by omega, by go_num, by unfold Hid; rw [hp.out, HO.out hn.out]⟩
        case measure => simp [intOf]; omega
    · obtain rfl : k = l.length := by omega
      have hq := hp.out
      rw [idxN_end] at hq
      have HQ := Lib.hid hq; clear hq hp
      go_wp2
      go_ret
      exact ⟨ret_int HQ.out.symm, rfl⟩

theorem conn_any (A : Option Addr) (c : Nat) (l : List Int) (g : Int) (w : World) (D : Nat) (h : Es (Value.int .u64) w D A l) (hm : l.length ≤ maxLen) :
    Calls Try.prog 21 #[.slice A l.length c, .int .u64 g] w fun e w' => e = .returned (.bool (decide (g ∈ l))) ∧ w' = w := by
  have hi := idxn_any A c l g w D h hm
  have hq := idxN_mem g l 0
  generalize idxN g l 0 = i at *
  generalize decide (g ∈ l) = b at *
  clear h
  have HQ := Lib.hid hq; clear hq
  go_enter Try.func21, Try.ntmps21
  go_wp2_with fail
  refine hi.mono ?_
  rintro e w1 ⟨rfl, rfl⟩
  go_wp2_with fail
  go_ret
  exact ⟨ret_bool HQ.out, rfl⟩

theorem mem_take {l : List Int} {g : Int} {k : Nat} (h : k < l.length) (h0 : g ∉ l.take k) (hx : ¬ l[k] = g) : g ∉ l.take (k + 1) := by
  intro q
  rw [take_snoc l k h] at q
  rcases List.mem_append.1 q with q | q
  · exact h0 q
  · exact hx (List.mem_singleton.1 q).symm

set_option maxHeartbeats 1000000 in
theorem rhasn_any (A : Option Addr) (c : Nat) (l : List Int) (g : Int) (w : World) (D : Nat) (h : Es (Value.int .u64) w D A l) (hm : l.length ≤ maxLen) :
    Calls Try.prog 19 #[.slice A l.length c, .int .u64 g] w fun e w' => e = .returned (.bool (decide (g ∈ l))) ∧ w' = w := by
  unfold maxLen at hm
  have H1 := Lib.hid h; clear h
  go_enter Try.func19, Try.ntmps19
  go_wp2
  go_loop [5] (fun i => ∃ k : Nat, k ≤ l.length ∧ i = .int .i64 k ∧ Hid (g ∉ l.take k)) (fun i => l.length - (intOf i).toNat)
  case atStart => exact ⟨0, by omega, rfl, by unfold Hid; simp⟩
  case round =>
    obtain ⟨k, hk, rfl, hp⟩ := hrel
    by_cases hlt : k < l.length
    · obtain ⟨a1, rfl, hb1, hc1⟩ := H1.out k l[k] (List.getElem?_eq_getElem hlt)
      have hs := fun q => mem_take hlt hp.out (g := g) q
      have hi := fun (q : l[k] = g) => decide_eq_true (q ▸ List.getElem_mem hlt : g ∈ l)
      have HS := Lib.hid hs; clear hs
      have HI := Lib.hid hi; clear hi
      clear hp
      generalize l[k] = x at *
      by_cases hx : x = g
      · subst hx
        go_wp2
        go_ret
        exact ⟨ret_bool (HI.out trivial).symm, rfl⟩
      · have hq : (x == g) = false := beq_eq_false_iff_ne.2 hx
        have hn := Lib.hid hx
        clear hx
        go_wp2
        go_round
        case rel => exact ⟨k + 1, by omega, by go_num, HS.out hn.out⟩
        case measure => simp [intOf]; omega
    · obtain rfl : k = l.length := by omega
      rw [List.take_length] at hp
      go_wp2
      go_ret
      exact ⟨ret_bool (decide_eq_false hp.out).symm, rfl⟩

theorem par_at {g : Int} {l : List Mnt} {k : Nat} (h : k < l.length) (hx : l[k].g = g) : par (l.drop k) g = l[k].p := by
  rw [List.drop_eq_getElem_cons h]; simp [par, hx]
theorem par_on {g : Int} {l : List Mnt} {k : Nat} (h : k < l.length) (hx : ¬ l[k].g = g) : par (l.drop k) g = par (l.drop (k + 1)) g := by
  rw [List.drop_eq_getElem_cons h]; simp [par, hx]
theorem par_end {g : Int} {l : List Mnt} : par (l.drop l.length) g = 0 := by
  rw [List.drop_length]; rfl

set_option maxHeartbeats 1000000 in
theorem rpar_any (A : Option Addr) (c : Nat) (l : List Mnt) (g : Int) (w : World) (D : Nat) (h : Ms w D A l) (hm : l.length ≤ 1000) :
    Calls Try.prog 20 #[.slice A l.length c, .int .u64 g] w fun e w' => e = .returned (.int .u64 (par l g)) ∧ w' = w := by
  have H1 := Lib.hid h; clear h
  have hz : par l g = par (l.drop 0) g := by rw [List.drop_zero]
  have HZ := Lib.hid hz; clear hz
  go_enter Try.func20, Try.ntmps20
  go_wp2
  go_loop [5] (fun i => ∃ k : Nat, k ≤ l.length ∧ i = .int .i64 k ∧ Hid (par l g = par (l.drop k) g)) (fun i => l.length - (intOf i).toNat)
  case atStart => exact ⟨0, by omega, rfl, HZ⟩
  case round =>
    obtain ⟨k, hk, rfl, hp⟩ := hrel
    clear HZ
    by_cases hlt : k < l.length
    · obtain ⟨a1, rfl, hb1, hc1, hd1, he1⟩ := H1.out k l[k] (List.getElem?_eq_getElem hlt)
      have ha := @par_at g l k hlt
      have ho := @par_on g l k hlt
      have HA := Lib.hid ha; clear ha
      have HO := Lib.hid ho; clear ho
      generalize l[k] = x at *
      obtain ⟨xg, xp, xk⟩ := x
      dsimp only at hc1 hd1 he1 HA HO
      by_cases hx : xg = g
      · subst hx
        go_wp2
        go_ret
        exact ⟨ret_int (by rw [hp.out, HA.out trivial]), rfl⟩
      · have hq : (xg == g) = false := beq_eq_false_iff_ne.2 hx
        have hn := Lib.hid hx
        clear hx
        go_wp2
        go_round
        case rel => exact ⟨k + 1, by omega, by go_num, by unfold Hid; rw [hp.out, HO.out hn.out]⟩
        case measure => simp [intOf]; omega
    · obtain rfl : k = l.length := by omega
      have hq := hp.out
      rw [par_end] at hq
      have HQ := Lib.hid hq; clear hq hp
      go_wp2
      go_ret
      exact ⟨ret_int HQ.out.symm, rfl⟩
end Go.Proofs.Ytpipindifeklbaa
