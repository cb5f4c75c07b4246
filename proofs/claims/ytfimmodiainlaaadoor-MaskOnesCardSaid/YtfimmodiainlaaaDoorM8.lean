/- Masks: the walk of the law on what is made: it answers true, for every argument. No other condition but that the table of the lowest bits lies as its initialiser lays it. -/
import Derived.Test.YtfimmodiainlaaaDoorM7
namespace Go.Proofs.YtfimmodiainlaaaDoor
open Go.RowKit

theorem own_slice {base n : Nat} {wr : World} {v : Value} {k : IntKind} {e : TypeId} {l : List Int} (hn : n = l.length) (h : wr.ownsRow base e 1 v n (l.map (Value.int k))) : ∃ A c, v = .slice A l.length c ∧ Cs k wr wr.heap.size A l := by
  subst hn
  have h' := h
  rcases h.2 with ⟨rfl, h0⟩ | ⟨g, cap, cur, rfl, _⟩
  · refine ⟨none, 0, by rw [h0], (own_cs h').2⟩
  · exact ⟨some ⟨g, 0, none⟩, cap, rfl, (own_cs h').2⟩

/-- A list of its own out of a list that came in: 'append([]int{}, l...)'. -/
theorem own_copy {ops : Array Oper} {rest : List Oper} {o : Oper} {a : Act} {Q : Exit → Act → World → Prop} (hgd : o.guard = none) (s x : Operand)
    (ho : o.op = .call { callee := .builtin .append, args := #[s, x], argTypes := #[30, 30] }) (w : World) (hs : a.eval s = .slice (some ⟨w.heap.size, 0, none⟩) 0 0)
    (A : Option Addr) (c : Nat) (l : List Int) (hA : A = none → c = 0) (hl : l.length ≤ 100) (hc : Cs .i64 w w.heap.size A l) (hx : a.eval x = .slice A l.length c)
    (h : ∀ A' c' w', Cs .i64 w' w'.heap.size A' l → Below w.heap.size w w' → wpList Tryd.prog ops Q rest (a.put o.dst (.slice A' l.length c')) w') :
    wpList Tryd.prog ops Q (o :: rest) a (w.alloc (.cells #[] 3)) := by
  obtain ⟨i0, hi, hz0, hz1, hz2⟩ := info_parts info3
  have hown : (w.alloc (.cells #[] 3)).ownsRow w.heap.size 3 1 (.slice (some ⟨w.heap.size, 0, none⟩) 0 0) 0 [] :=
    ⟨rfl, Or.inr ⟨w.heap.size, 0, #[], rfl, Nat.le_refl _, heap_alloc_new w _, Nat.le_refl _, by unfold maxLen; omega, rfl, rfl⟩⟩
  have hb0 : Below w.heap.size w (w.alloc (.cells #[] 3)) := (Below.refl _ _).alloc (Nat.le_refl _) _
  cases A with
  | none =>
    have hl0 : l = [] := by
      cases l with
      | nil => rfl
      | cons y t =>
        obtain ⟨a', ha', _⟩ := hc 0 y rfl
        cases ha'
    subst hl0
    rw [hA rfl] at hx
    exact wpList_append_own_none hgd s x 30 ho w.heap.size 3 i0 1 Tryd.underlying30 hi _ 0 [] hs hown hx (h _ _ _ (cs_nil _ _ _ _) hb0)
  | some ad =>
    have hnews : ∀ j u, (l.map (Value.int .i64))[j]? = some u → (w.alloc (.cells #[] 3)).cell? (ad.add j) = some u := by
      intro j u hj
      rw [List.getElem?_map] at hj
      obtain ⟨y, hy, rfl⟩ := Option.map_eq_some_iff.1 hj
      obtain ⟨a', ha', _, hcell⟩ := hc.below hb0 (Nat.le_refl _) j y hy
      injection ha' with ha'
      subst ha'
      exact hcell
    refine wpList_append_own _ hgd s x 30 ho w.heap.size 3 i0 (.int .i64 0) 1 8 Tryd.underlying30 hi hz0 hz1 hz2 rfl (by decide) _ 0 [] hs hown ad l.length c (l.map (Value.int .i64)) hx (by simp) hnews
      (fun u hu => by obtain ⟨y, _, rfl⟩ := List.mem_map.1 hu; rfl) (by unfold maxLen; omega) (by omega) (by simp) fun v' w' hown' hgrow _ => ?_
    have hb1 := hb0.grown hgrow (by simp) (own_low hown)
    rw [List.nil_append] at hown'
    obtain ⟨A', c', rfl, hcs⟩ := own_slice (Nat.zero_add _) hown'
    exact h A' c' w' hcs hb1

set_option maxHeartbeats 400000 in
theorem makes_long (m : Nat) (A B : Option Addr) (c d : Nat) (l : List Int) (k : List Nat) (w : World) (hT : Tab w) (h : 100 < (l.length : Int)) :
    Calls Tryd.prog 4 #[.int .u32 m, .slice A l.length c, .slice B k.length d] w (Yes w) := by
  go_enter Tryd.func4, Tryd.ntmps4
  go_wp2_with fail
  refine (alive_any _ hT).mono ?_
  rintro e w1 ⟨rfl, hb1⟩
  go_wp2_with fail
  go_ret
  exact ⟨rfl, hb1⟩
set_option maxHeartbeats 400000 in
theorem makes_many (m : Nat) (A B : Option Addr) (c d : Nat) (l : List Int) (k : List Nat) (w : World) (hT : Tab w) (h : (l.length : Int) ≤ 100) (h2 : 50 < (k.length : Int)) :
    Calls Tryd.prog 4 #[.int .u32 m, .slice A l.length c, .slice B k.length d] w (Yes w) := by
  go_enter Tryd.func4, Tryd.ntmps4
  go_wp2_with fail
  refine (alive_any _ hT).mono ?_
  rintro e w1 ⟨rfl, hb1⟩
  go_wp2_with fail
  go_ret
  exact ⟨rfl, hb1⟩

set_option maxHeartbeats 2000000 in
theorem makes_few (m : Nat) (A B : Option Addr) (c d : Nat) (l : List Int) (k : List Nat) (w : World) (hm : m < 4294967296) (hT : Tab w) (h : (l.length : Int) ≤ 100) (h2 : (k.length : Int) ≤ 50)
    (hA : A = none → c = 0) (hc : Cs .i64 w w.heap.size A l) (hk : Cs .u32 w w.heap.size B (k.map fun (x : Nat) => (x : Int))) (hlt : ∀ x ∈ k, x < 4294967296) :
    Calls Tryd.prog 4 #[.int .u32 m, .slice A l.length c, .slice B k.length d] w (Yes w) := by
  have hl : l.length ≤ maxLen := by unfold maxLen; omega
  have hl2 : k.length ≤ maxLen := by unfold maxLen; omega
  have HL := Lib.hid hl; clear hl
  have HL2 := Lib.hid hl2; clear hl2
  have HLT := Lib.hid hlt; clear hlt
  have HM := Lib.hid hm; clear hm
  have HA := Lib.hid hA; clear hA
  have HC := Lib.hid hc; clear hc
  have HK := Lib.hid hk; clear hk
  go_enter Tryd.func4, Tryd.ntmps4
  go_wp2_with fail
  refine (alive_any _ hT).mono ?_
  rintro e w1 ⟨rfl, hb1⟩
  have HC1 := Lib.hid (HC.out.below hb1 hb1.size)
  go_wp2_with (at_builtin; refine own_copy rfl _ _ rfl w1 rfl A c l HA.out (by omega) HC1.out rfl ?_)
  intro A' c' w2 hcs hb2
  replace hb2 := ext hb1 hb2
  clear hb1 HC1
  have HCS := Lib.hid hcs; clear hcs
  have HB2 := Lib.hid hb2; clear hb2
  go_wp2_with fail
  refine (set_any m A' c' l _ _ HM.out HCS.out HL.out).mono ?_
  rintro e w3 ⟨rfl, rfl⟩
  go_wp2_with fail
  refine (rset_any m A c l _ _ HM.out (HC.out.below HB2.out (Nat.le_refl _)) HL.out).mono ?_
  rintro e w3 ⟨rfl, rfl⟩
  generalize ((setB m l : Nat) : Int) = q1
  go_wp2_with fail
  refine (clear_any m A' c' l _ _ HM.out HCS.out HL.out).mono ?_
  rintro e w3 ⟨rfl, rfl⟩
  go_wp2_with fail
  refine (rclear_any m A c l _ _ HM.out (HC.out.below HB2.out (Nat.le_refl _)) HL.out).mono ?_
  rintro e w3 ⟨rfl, rfl⟩
  generalize ((clrB m l : Nat) : Int) = q2
  go_wp2_with fail
  refine (union_any B d k _ _ (HK.out.below HB2.out (Nat.le_refl _)) HLT.out HL2.out).mono ?_
  rintro e w4 ⟨rfl, rfl⟩
  go_wp2_with fail
  refine (runion_any B d k _ (HK.out.below HB2.out HB2.out.size) HLT.out HL2.out).mono ?_
  rintro e w5 ⟨rfl, hb5⟩
  generalize ((uniB k : Nat) : Int) = q3
  have HB5 := Lib.hid hb5; clear hb5
  go_wp2_with fail
  refine (same_yes A' A c' c l _ _ (HCS.out.below HB5.out HB5.out.size) (HC.out.below (ext HB2.out HB5.out) (ext HB2.out HB5.out).size) HL.out).mono ?_
  rintro e w7 ⟨rfl, n7, rfl⟩
  go_wp2_with fail
  go_ret
  exact ⟨rfl, ext_drewN (ext HB2.out HB5.out) n7⟩

theorem makes_law (m : Nat) (A B : Option Addr) (c d : Nat) (l : List Int) (k : List Nat) (w : World) (hm : m < 4294967296) (hT : Tab w)
    (hA : A = none → c = 0) (hc : Cs .i64 w w.heap.size A l) (hk : Cs .u32 w w.heap.size B (k.map fun (x : Nat) => (x : Int))) (hlt : ∀ x ∈ k, x < 4294967296) :
    Calls Tryd.prog 4 #[.int .u32 m, .slice A l.length c, .slice B k.length d] w (Yes w) := by
  by_cases h : 100 < (l.length : Int)
  · exact makes_long m A B c d l k w hT h
  by_cases h2 : 50 < (k.length : Int)
  · exact makes_many m A B c d l k w hT (by omega) h2
  exact makes_few m A B c d l k w hm hT (by omega) (by omega) hA hc hk hlt
end Go.Proofs.YtfimmodiainlaaaDoor
