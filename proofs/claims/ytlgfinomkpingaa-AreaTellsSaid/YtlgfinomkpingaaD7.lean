/- Disks: lists made: a copy, and what is sure once writes have come to it: for every list that lies in memory and is not too long to be written down. -/
import Derived.Test.YtlgfinomkpingaaD6
import Derived.Laws.AppendOwnNone
namespace Go.Proofs.Ytlgfinomkpingaa
open Go.RowKit

set_option maxRecDepth 100000 in
theorem app_strs {ops : Array Oper} {rest : List Oper} {o : Oper} {a : Act} {Q : Exit → Act → World → Prop} (hgd : o.guard = none) (s x : Operand)
    (ho : o.op = .call { callee := .builtin .append, args := #[s, x], argTypes := #[22, 22] }) (w : World) (base : Nat) (hbase : base ≤ w.heap.size) (v : Value) (l0 : List ByteArray) (hs : a.eval s = v)
    (hown : w.ownsRow base 9 1 v l0.length (l0.map Value.string)) (A : Option Addr) (n : Nat) (l : List ByteArray) (hA : A = none → n = 0) (hx : a.eval x = .slice A l.length n) (hc : Es Value.string w w.heap.size A l) (hl : l0.length + l.length ≤ 1000000)
    (h : ∀ v' w', w'.ownsRow base 9 1 v' (l0 ++ l).length ((l0 ++ l).map Value.string) → w.grownBy w' v.ownBlock → wpList Try.prog ops Q rest (a.put o.dst v') w') :
    wpList Try.prog ops Q (o :: rest) a w := by
  obtain ⟨i0, hi, hz0, hz1, hz2⟩ := info_parts info9
  cases A with
  | none =>
    have hl0 : l = [] := by
      cases l with
      | nil => rfl
      | cons y t => obtain ⟨a', ha', _⟩ := hc 0 y rfl; cases ha'
    subst hl0
    rw [hA rfl] at hx
    rw [List.append_nil] at h
    exact wpList_append_own_none hgd s x 22 ho base 9 i0 1 Try.underlying22 hi v _ _ hs hown hx (h _ _ hown ⟨rfl, rfl, rfl, Nat.le_refl _, fun _ _ _ => rfl⟩)
  | some ad =>
    refine wpList_append_own _ hgd s x 22 ho base 9 i0 (.string ⟨#[]⟩) 1 16 Try.underlying22 hi hz0 hz1 hz2 rfl (by decide) v _ _ hs hown ad l.length n (l.map Value.string) hx (by simp) (es_cells hc)
      (fun u hu => by obtain ⟨y, _, rfl⟩ := List.mem_map.1 hu; rfl) (by unfold maxLen; omega) (by omega) hbase fun v' w' hown' hgrow _ => ?_
    rw [← List.map_append, ← List.length_append] at hown'
    exact h v' w' hown' hgrow

set_option maxRecDepth 100000 in
theorem app_wrs {ops : Array Oper} {rest : List Oper} {o : Oper} {a : Act} {Q : Exit → Act → World → Prop} (hgd : o.guard = none) (s x : Operand)
    (ho : o.op = .call { callee := .builtin .append, args := #[s, x], argTypes := #[23, 23] }) (w : World) (base : Nat) (hbase : base ≤ w.heap.size) (v : Value) (l0 : List Wr) (hs : a.eval s = v)
    (hown : w.ownsRow base 43 2 v l0.length (cellsW l0)) (A : Option Addr) (n : Nat) (l : List Wr) (hA : A = none → n = 0) (hx : a.eval x = .slice A l.length n) (hc : Ws w w.heap.size A l) (hl : l0.length + l.length ≤ 1000000)
    (h : ∀ v' w', w'.ownsRow base 43 2 v' (l0 ++ l).length (cellsW (l0 ++ l)) → w.grownBy w' v.ownBlock → wpList Try.prog ops Q rest (a.put o.dst v') w') :
    wpList Try.prog ops Q (o :: rest) a w := by
  obtain ⟨i0, hi, hz0, hz1, hz2⟩ := info_parts info45
  cases A with
  | none =>
    have hl0 : l = [] := by
      cases l with
      | nil => rfl
      | cons y t => obtain ⟨a', ha', _⟩ := hc 0 y rfl; cases ha'
    subst hl0
    rw [hA rfl] at hx
    rw [List.append_nil] at h
    exact wpList_append_own_none hgd s x 23 ho base 43 i0 2 Try.underlying23 hi v _ _ hs hown hx (h _ _ hown ⟨rfl, rfl, rfl, Nat.le_refl _, fun _ _ _ => rfl⟩)
  | some ad =>
    refine wpList_append_own _ hgd s x 23 ho base 43 i0 (.agg #[.int .i64 0, .string ⟨#[]⟩]) 2 24 Try.underlying23 hi hz0 hz1 hz2 rfl (by decide) v _ _ hs hown ad l.length n (cellsW l) hx (cellsW_length l) (ws_cells hc)
      (cellsW_one l) (by unfold maxLen; omega) (by omega) hbase fun v' w' hown' hgrow _ => ?_
    rw [← cellsW_append, ← List.length_append] at hown'
    exact h v' w' hown' hgrow

theorem own_empty {e : TypeId} {size : Nat} (w : World) (base : Nat) (hb : base ≤ w.heap.size) : (w.alloc (.cells #[] e)).ownsRow base e size (.slice (some ⟨w.heap.size, 0, none⟩) 0 0) 0 [] :=
  ⟨by simp, Or.inr ⟨w.heap.size, 0, #[], rfl, hb, heap_alloc_new w _, Nat.le_refl _, by unfold maxLen; omega, by simp, by simp⟩⟩

set_option maxRecDepth 100000 in
set_option maxHeartbeats 400000 in
theorem clone_any (A : Option Addr) (n : Nat) (s : List ByteArray) (w : World) (hA : A = none → n = 0) (hs : Es Value.string w w.heap.size A s) (hl : s.length ≤ 1000000) :
    Calls Try.prog 77 #[.slice A s.length n] w fun e w' => ∃ v, e = .returned v ∧ w'.ownsRow w.heap.size 9 1 v s.length (s.map Value.string) ∧ Below w.heap.size w w' := by
  have hq := fun (w : World) (a : Option Addr) (n c n' c' : Nat) => Lib.run_eql_slice_nil w 22 9 a n c n' c' Try.underlying22
  have HS := Lib.hid hs; clear hs
  cases A with
  | none =>
    have hs0 : s = [] := by
      cases s with
      | nil => rfl
      | cons y t => obtain ⟨a', ha', _⟩ := HS.out 0 y rfl; cases ha'
    subst hs0
    have hn := hA rfl
    subst hn
    clear hA
    go_enter Try.func77, Try.ntmps77
    go_wp2
    go_ret
    exact ⟨_, rfl, World.ownsRow_nil _ _ _ _, Below.refl _ _⟩
  | some ad =>
    clear hA
    go_enter Try.func77, Try.ntmps77
    go_wp2_with (at_builtin; refine app_strs rfl _ _ rfl _ w.heap.size ?c1 _ [] rfl ?c2 (some ad) n s ?c3 rfl ?c4 ?c5 ?_)
    case c1 => simp
    case c2 => exact own_empty w _ (Nat.le_refl _)
    case c3 => intro q; cases q
    case c4 => exact HS.out.up below1
    case c5 => simpa using hl
    intro v' w' hown hgrow
    have hb := (Below.refl w.heap.size w).alloc (Nat.le_refl _) (.cells #[] 9)
    have hb2 := hb.grown hgrow (by simp) (own_low (own_empty (e := 9) (size := 1) w w.heap.size (Nat.le_refl _)))
    have HO := Lib.hid hown; clear hown
    have HB := Lib.hid hb2; clear hb2
    clear hgrow hb
    go_wp2
    go_ret
    exact ⟨_, rfl, HO.out, HB.out⟩

/-- One text of a row of the call's own is another one. -/
theorem own_set {w : World} {base g cap n : Nat} {s : List ByteArray} {j : Nat} {d : ByteArray} (h : w.ownsRow base 9 1 (.slice (some ⟨g, 0, none⟩) n cap) n (s.map Value.string)) :
    (w.setCell ⟨g, j, none⟩ (.string d)).ownsRow base 9 1 (.slice (some ⟨g, 0, none⟩) n cap) n ((s.set j d).map Value.string) := by
  have := (h.stored j (.string d)).1
  rw [List.map_set]
  exact this
theorem own_some {w : World} {base size n cap : Nat} {e : TypeId} {A : Option Addr} {xs : List Value} (h : w.ownsRow base e size (.slice A n cap) n xs) (hn : 0 < n) : ∃ g, A = some ⟨g, 0, none⟩ ∧ base ≤ g := by
  rcases h.2 with ⟨_, h0⟩ | ⟨g, cap', cur, hv, hb, _⟩
  · omega
  · injection hv with e1
    exact ⟨g, e1, hb⟩

set_option maxRecDepth 100000 in
set_option maxHeartbeats 1000000 in
theorem lay_any (A B : Option Addr) (n m : Nat) (s : List ByteArray) (c : List Wr) (w : World) (hA : A = none → n = 0) (hs : Es Value.string w w.heap.size A s) (hc : Ws w w.heap.size B c) (hl : s.length ≤ 1000000) (hm : c.length ≤ maxLen) (hf : ∀ x ∈ c, 0 ≤ x.1 ∧ x.1 < s.length) :
    Calls Try.prog 54 #[.slice A s.length n, .slice B c.length m] w fun e w' => ∃ v, e = .returned v ∧ w'.ownsRow w.heap.size 9 1 v (layL s c).length ((layL s c).map Value.string) ∧ Below w.heap.size w w' := by
  unfold maxLen at hm
  have hk := clone_any A n s w hA hs hl
  have HC := Lib.hid hc; clear hc
  have HF := Lib.hid hf; clear hf
  clear hs hA
  go_enter Try.func54, Try.ntmps54
  go_wp2_with fail
  refine hk.mono ?_
  rintro e w1 ⟨v, rfl, hown, hb⟩
  obtain ⟨A', cap, rfl, _, _⟩ := own_slice hown
  have HO := Lib.hid hown; clear hown
  have HB := Lib.hid hb; clear hb
  clear hk
  go_wp2
  go_loopw [6, 11] (fun _ i wr => ∃ k : Nat, k ≤ c.length ∧ i = .int .i64 k ∧ Hid (wr.ownsRow w.heap.size 9 1 (.slice A' s.length cap) s.length ((layL s (c.take k)).map Value.string)) ∧ Hid (Below w.heap.size w wr)) (fun _ i _ => c.length - (intOf i).toNat)
  case atStart => exact ⟨0, by omega, rfl, by rw [List.take_zero, lay_nil]; exact HO.out, HB.out⟩
  case round =>
    obtain ⟨k, hk, rfl, HO1, HB1⟩ := hrel
    by_cases hlt : k < c.length
    · obtain ⟨a1, rfl, hb1, hc1, hd1⟩ := (HC.out.up HB1.out) k c[k] (List.getElem?_eq_getElem hlt)
      have hx := HF.out c[k] (List.getElem_mem hlt)
      have hst : layL s (c.take (k + 1)) = (layL s (c.take k)).set c[k].1.toNat c[k].2 := by rw [take_snoc c k hlt, lay_snoc]
      have hlen := lay_length (c.take k) s
      generalize c[k] = x at *
      obtain ⟨q, d⟩ := x
      dsimp only at *
      obtain ⟨hq0, hq1⟩ := hx
      obtain ⟨q, rfl⟩ := Int.eq_ofNat_of_zero_le hq0
      rw [Int.toNat_natCast] at hst
      have HS := Lib.hid hst; clear hst
      generalize layL s (c.take k) = l at *
      obtain ⟨g, rfl, hg⟩ := own_some HO1.out (by omega)
      have hcell : ∀ o, (wr.alloc o).cell? ⟨g, q, none⟩ = some (.string (l.getD q ⟨#[]⟩)) := fun o => by
        rw [(HO1.out.alloc o).cellAt q (by omega), List.getElem?_map, List.getElem?_eq_getElem (by omega), List.getD_eq_getElem?_getD, List.getElem?_eq_getElem (by omega)]; rfl
      have hfz : ∀ o, (wr.alloc o).frozen? ⟨g, q, none⟩ = false := fun o => (HO1.out.alloc o).frozenAt q
      have hnew : ∀ o, ((wr.alloc o).setCell ⟨g, q, none⟩ (.string d)).ownsRow w.heap.size 9 1 (.slice (some ⟨g, 0, none⟩) s.length cap) s.length ((l.set q d).map Value.string) := fun o => own_set (HO1.out.alloc o)
      have hbl : ∀ o, Below w.heap.size w ((wr.alloc o).setCell ⟨g, q, none⟩ (.string d)) := fun o => (ext_alloc HB1.out o).setCell hg _
      have HN := Lib.hid hnew; clear hnew
      have HL := Lib.hid hbl; clear hbl
      clear hlen
      go_wp2
      go_roundw
      case rel => exact ⟨k + 1, by omega, by go_num, by rw [HS.out]; exact HN.out _, HL.out _⟩
      case measure => simp [intOf]; omega
    · obtain rfl : k = c.length := by omega
      rw [List.take_length] at HO1
      go_wp2
      go_ret
      exact ⟨_, rfl, by rw [lay_length]; exact HO1.out, HB1.out⟩
end Go.Proofs.Ytlgfinomkpingaa
