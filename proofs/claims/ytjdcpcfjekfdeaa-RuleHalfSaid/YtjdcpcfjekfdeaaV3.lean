/- Vectors: where a generation stands, on both sides, for every vector and every generation. No other condition. -/
import Derived.Test.YtjdcpcfjekfdeaaV2
namespace Go.Proofs.Ytjdcpcfjekfdeaa
open Go.RowKit

/-- The first place of a number in a list, counted from k on; -1, if it has none. -/
def idxF (g : Int) : List Int → Nat → Int
  | [], _ => -1
  | x :: t, k => if x = g then k else idxF g t (k + 1)
/-- A generation's place. -/
def placeI (c b o p g : Int) : Int := if g = 0 then -1 else idxF g [c, b, o, p] 0

theorem idxF_at {g : Int} {l : List Int} {k : Nat} (h : k < l.length) (hx : l[k] = g) : idxF g (l.drop k) k = k := by
  rw [List.drop_eq_getElem_cons h]; simp [idxF, hx]
theorem idxF_on {g : Int} {l : List Int} {k : Nat} (h : k < l.length) (hx : ¬ l[k] = g) : idxF g (l.drop k) k = idxF g (l.drop (k + 1)) (k + 1) := by
  rw [List.drop_eq_getElem_cons h]; simp [idxF, hx]
theorem idxF_end {g : Int} {l : List Int} : idxF g (l.drop l.length) l.length = -1 := by
  rw [List.drop_length]; rfl

set_option maxHeartbeats 1000000 in
theorem index_any (A : Option Addr) (c : Nat) (l : List Int) (g : Int) (w : World) (D : Nat) (h : Es (Value.int .u64) w D A l) (hm : l.length ≤ maxLen) :
    Calls Try.prog 43 #[.slice A l.length c, .int .u64 g] w fun e w' => e = .returned (.int .i64 (idxF g l 0)) ∧ w' = w := by
  unfold maxLen at hm
  have H1 := Lib.hid h; clear h
  have hz : idxF g l 0 = idxF g (l.drop 0) 0 := by rw [List.drop_zero]
  have HZ := Lib.hid hz; clear hz
  go_enter Try.func43, Try.ntmps43
  go_wp2
  go_loop [5, 8] (fun _ i => ∃ k : Nat, k ≤ l.length ∧ i = .int .i64 k ∧ Hid (idxF g l 0 = idxF g (l.drop k) k)) (fun _ i => l.length - (intOf i).toNat)
  case atStart => exact ⟨0, by omega, rfl, HZ⟩
  case round =>
    obtain ⟨k, hk, rfl, hp⟩ := hrel
    clear HZ
    by_cases hlt : k < l.length
    · obtain ⟨a1, rfl, hb1, hc1⟩ := H1.out k l[k] (List.getElem?_eq_getElem hlt)
      have ha := @idxF_at g l k hlt
      have ho := @idxF_on g l k hlt
      have HA := Lib.hid ha; clear ha
      have HO := Lib.hid ho; clear ho
      generalize l[k] = x at *
      by_cases hx : g = x
      · subst hx
        go_wp2
        go_ret
        exact ⟨ret_int (by rw [hp.out, HA.out trivial]), rfl⟩
      · have hq : (g == x) = false := beq_eq_false_iff_ne.2 hx
        have hn : Hid (¬ x = g) := fun e => hx e.symm
        clear hx
        go_wp2
        go_round
        case rel => exact ⟨k + 1, by omega, by go_num, by unfold Hid; rw [hp.out, HO.out hn.out]⟩
        case measure => simp [intOf]; omega
    · obtain rfl : k = l.length := by omega
      have hq := hp.out
      rw [idxF_end] at hq
      have HQ := Lib.hid hq; clear hq hp
      go_wp2
      go_ret
      exact ⟨ret_int HQ.out.symm, rfl⟩

set_option maxHeartbeats 1000000 in
theorem place_any (c b o p g : Int) (w : World) :
    Calls Try.prog 41 #[vecV c b o p, .int .u64 g] w fun e w' => e = .returned (.int .i64 (placeI c b o p g)) ∧ Below w.heap.size w w' := by
  unfold placeI
  by_cases hg : g = 0
  · subst hg
    go_enter Try.func41, Try.ntmps41
    go_wp2
    go_ret
    exact ⟨rfl, below1⟩
  · rw [if_neg hg]
    have hg2 := ne0 hg
    clear hg
    have hi := index_any (some ⟨w.heap.size + 1, 0, none⟩) 4 [c, b, o, p] g _ _ (es_new2 (Value.int .u64) w (.cells #[.int .u64 c, .int .u64 b, .int .u64 o, .int .u64 p] 25) [c, b, o, p] 22) (by simp [maxLen])
    generalize idxF g [c, b, o, p] 0 = r at *
    go_enter Try.func41, Try.ntmps41
    go_wp2_with fail
    refine hi.mono ?_
    rintro e w1 ⟨rfl, rfl⟩
    go_wp2_with fail
    go_ret
    exact ⟨rfl, below2⟩

set_option maxHeartbeats 1000000 in
theorem rplace_any (c b o p g : Int) (w : World) :
    Calls Try.prog 19 #[vecV c b o p, .int .u64 g] w fun e w' => e = .returned (.int .i64 (placeI c b o p g)) ∧ Below w.heap.size w w' := by
  unfold placeI
  by_cases hg : g = 0
  · subst hg
    go_enter Try.func19, Try.ntmps19
    go_wp2
    go_loop [6] (fun i => ∃ k : Nat, k ≤ 4 ∧ i = .int .i64 k) (fun i => 4 - (intOf i).toNat)
    case atStart => exact ⟨0, by omega, rfl⟩
    case round =>
      obtain ⟨k, hk, rfl⟩ := hrel
      by_cases hlt : k < 4
      · go_wp2
        go_round
        case rel => exact ⟨k + 1, by omega, by go_num⟩
        case measure => simp [intOf]; omega
      · obtain rfl : k = 4 := by omega
        go_wp2
        go_ret
        exact ⟨rfl, below2⟩
  · rw [if_neg hg]
    have hz : idxF g [c, b, o, p] 0 = idxF g (([c, b, o, p] : List Int).drop 0) 0 := rfl
    have HZ := Lib.hid hz; clear hz
    go_enter Try.func19, Try.ntmps19
    go_wp2
    go_loop [6] (fun i => ∃ k : Nat, k ≤ 4 ∧ i = .int .i64 k ∧ Hid (idxF g [c, b, o, p] 0 = idxF g (([c, b, o, p] : List Int).drop k) k)) (fun i => 4 - (intOf i).toNat)
    case atStart => exact ⟨0, by omega, rfl, HZ⟩
    case round =>
      obtain ⟨k, hk, rfl, hp⟩ := hrel
      clear HZ
      by_cases hlt : k < 4
      · have ha := @idxF_at g [c, b, o, p] k hlt
        have ho := @idxF_on g [c, b, o, p] k hlt
        have HA := Lib.hid ha; clear ha
        have HO := Lib.hid ho; clear ho
        have hx : ∃ x, x = ([c, b, o, p] : List Int)[k] := ⟨_, rfl⟩
        obtain ⟨x, hx⟩ := hx
        rw [← hx] at HA HO
        have hc : ∀ w : World, (((w.alloc (.cells #[.int .u64 c, .int .u64 b, .int .u64 o, .int .u64 p] 25)).alloc (.cells #[.int .u64 c, .int .u64 b, .int .u64 o, .int .u64 p] 51)).cell? ⟨w.heap.size + 1, k, none⟩) = some (.int .u64 x) := by
          intro w
          rw [(Box.new2 w _ [.int .u64 c, .int .u64 b, .int .u64 o, .int .u64 p] 51).cell k]
          show (([c, b, o, p] : List Int).map (Value.int .u64))[k]? = _
          rw [List.getElem?_map, List.getElem?_eq_getElem hlt, hx]; rfl
        clear hx
        by_cases hq : x = g
        · subst hq
          go_wp2
          go_ret
          exact ⟨ret_int (by rw [hp.out, HA.out trivial]), below2⟩
        · have hn : Hid (¬ x = g) := hq
          have hq2 : (x == g) = false := beq_eq_false_iff_ne.2 hq
          clear hq
          go_wp2
          go_round
          case rel => exact ⟨k + 1, by omega, by go_num, by unfold Hid; rw [hp.out, HO.out hn.out]⟩
          case measure => simp [intOf]; omega
      · obtain rfl : k = 4 := by omega
        have hq : idxF g [c, b, o, p] 0 = -1 := hp.out
        have HQ := Lib.hid hq; clear hq hp
        go_wp2
        go_ret
        exact ⟨ret_int HQ.out.symm, below2⟩
end Go.Proofs.Ytjdcpcfjekfdeaa
