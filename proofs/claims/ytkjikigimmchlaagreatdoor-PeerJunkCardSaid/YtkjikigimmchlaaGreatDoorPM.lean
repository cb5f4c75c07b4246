/- Disks in memory through calls carried out plainly: what stays, and the steps by what callees answer. No condition. -/
import Derived.Laws.AppendOwnNone
import Derived.Test.YtkjikigimmchlaaGreatDoorKD
import Derived.Test.YtkjikigimmchlaaGreatDoorPV
namespace Go.Proofs.YtkjikigimmchlaaGreatDoor
open Go.RowKit
abbrev Wr := Int × ByteArray
def holdsL (c : List Wr) (i : Int) (d : ByteArray) : ByteArray := c.foldl (fun t x => if x.1 = i then x.2 else t) d
def layL (s : List ByteArray) (c : List Wr) : List ByteArray := c.foldl (fun t x => t.set x.1.toNat x.2) s
def keptL (c : List Wr) (keeps : List Bool) : Nat → List Wr
  | 0 => []
  | k + 1 => keptL c keeps k ++ (match c[k]? with | some x => if keeps.getD k false = true then [x] else [] | none => [])
theorem holds_nil (i : Int) (d : ByteArray) : holdsL [] i d = d := rfl
theorem holds_snoc (c : List Wr) (x : Wr) (i : Int) (d : ByteArray) : holdsL (c ++ [x]) i d = if x.1 = i then x.2 else holdsL c i d := by unfold holdsL; rw [List.foldl_append]; rfl
theorem lay_nil (s : List ByteArray) : layL s [] = s := rfl
theorem lay_snoc (s : List ByteArray) (c : List Wr) (x : Wr) : layL s (c ++ [x]) = (layL s c).set x.1.toNat x.2 := by unfold layL; rw [List.foldl_append]; rfl
theorem lay_length (c : List Wr) : ∀ s : List ByteArray, (layL s c).length = s.length := by
  induction c with
  | nil => intro s; rfl
  | cons x c ih => intro s; show (layL (s.set x.1.toNat x.2) c).length = _; rw [ih, List.length_set]
theorem kept_yes {c : List Wr} {keeps : List Bool} {k : Nat} (h : k < c.length) (hk : keeps.getD k false = true) : keptL c keeps (k + 1) = keptL c keeps k ++ [c[k]] := by
  simp only [keptL]; rw [List.getElem?_eq_getElem h]; simp only [hk, if_true]
theorem kept_no {c : List Wr} {keeps : List Bool} {k : Nat} (hk : keeps.getD k false = false) : keptL c keeps (k + 1) = keptL c keeps k := by
  simp only [keptL]
  cases c[k]? with
  | none => simp
  | some x => simp only [hk]; simp
theorem kept_over (c : List Wr) (keeps : List Bool) : ∀ k, keeps.length ≤ k → keptL c keeps k = keptL c keeps keeps.length := by
  intro k h
  induction k with
  | zero => have : keeps.length = 0 := by omega
            rw [this]
  | succ k ih =>
    by_cases e : keeps.length = k + 1
    · rw [e]
    · rw [kept_no (by rw [List.getD_eq_getElem?_getD, List.getElem?_eq_none (by omega)]; rfl), ih (by omega)]
theorem kept_mem (c : List Wr) (keeps : List Bool) : ∀ k x, x ∈ keptL c keeps k → x ∈ c := by
  intro k
  induction k with
  | zero => intro x h; cases h
  | succ k ih =>
    intro x h
    simp only [keptL, List.mem_append] at h
    rcases h with h | h
    · exact ih x h
    · cases hc : c[k]? with
      | none => rw [hc] at h; cases h
      | some y =>
        rw [hc] at h
        simp only at h
        split at h
        · rw [List.mem_singleton] at h
          subst h
          exact List.mem_of_getElem? hc
        · cases h
theorem fits {n : Nat} {c : List Wr} (h : c.any (misfitW n) = false) : ∀ x ∈ c, 0 ≤ x.1 ∧ x.1 < n ∧ x.2.size ≤ 64 := by
  intro x hx
  have := List.any_eq_false.1 h x hx
  unfold misfitW longS at this
  simp only [Bool.or_eq_true, decide_eq_true_eq, not_or] at this
  omega
theorem lay_at : ∀ (c : List Wr) (s : List ByteArray) (j : Nat) (h : j < s.length), (∀ x ∈ c, 0 ≤ x.1) → (layL s c)[j]? = some (holdsL c j s[j]) := by
  intro c
  induction c with
  | nil => intro s j h _; rw [lay_nil, holds_nil, List.getElem?_eq_getElem h]
  | cons x c ih =>
    intro s j h hx
    show (layL (s.set x.1.toNat x.2) c)[j]? = _
    rw [ih (s.set x.1.toNat x.2) j (by rw [List.length_set]; exact h) fun y hy => hx y (List.mem_cons_of_mem _ hy)]
    congr 1
    show _ = holdsL c j (if x.1 = (j : Int) then x.2 else s[j])
    have h0 := hx x (List.mem_cons_self ..)
    rw [List.getElem_set]
    by_cases e : x.1 = (j : Int)
    · rw [if_pos e, if_pos (by omega)]
    · rw [if_neg e, if_neg (by omega)]
theorem holds_one (c : List Wr) (i : Int) (d : ByteArray) : holdsL c i d = d ∨ ∃ x ∈ c, x.1 = i ∧ x.2 = holdsL c i d := by
  induction c generalizing d with
  | nil => exact .inl rfl
  | cons x c ih =>
    show holdsL c i (if x.1 = i then x.2 else d) = d ∨ _
    rcases ih (if x.1 = i then x.2 else d) with h | ⟨y, hy, e1, e2⟩
    · by_cases e : x.1 = i
      · right
        refine ⟨x, List.mem_cons_self .., e, ?_⟩
        show x.2 = holdsL c i (if x.1 = i then x.2 else d)
        rw [h, if_pos e]
      · left; rw [h, if_neg e]
    · right; exact ⟨y, List.mem_cons_of_mem _ hy, e1, e2⟩
def cellsW (c : List Wr) : List Value := c.flatMap fun x => [.int .i64 x.1, .string x.2]
theorem cellsW_append (c d : List Wr) : cellsW (c ++ d) = cellsW c ++ cellsW d := by unfold cellsW; rw [List.flatMap_append]
theorem cellsW_length (c : List Wr) : (cellsW c).length = c.length * 2 := by
  induction c with
  | nil => rfl
  | cons x c ih => show (cellsW c).length + 2 = (c.length + 1) * 2; rw [ih]; omega
theorem cellsW_at : ∀ (c : List Wr) (j : Nat) (x : Wr), c[j]? = some x → (cellsW c)[j * 2]? = some (.int .i64 x.1) ∧ (cellsW c)[j * 2 + 1]? = some (.string x.2) := by
  intro c
  induction c with
  | nil => intro j x h; simp at h
  | cons y c ih =>
    intro j x h
    cases j with
    | zero => simp at h; subst h; exact ⟨rfl, rfl⟩
    | succ j =>
      obtain ⟨h1, h2⟩ := ih j x (by simpa using h)
      have e : (j + 1) * 2 = j * 2 + 1 + 1 := by omega
      rw [e]
      exact ⟨h1, h2⟩
theorem cellsW_one (c : List Wr) : ∀ u ∈ cellsW c, u.oneCell' = true := by
  intro u hu
  obtain ⟨x, _, h⟩ := List.mem_flatMap.1 hu
  simp at h
  rcases h with rfl | rfl <;> rfl
theorem ws_cells {w : World} {D : Nat} {a : Addr} {c : List Wr} (h : Ws w D (some a) c) : ∀ j u, (cellsW c)[j]? = some u → w.cell? (a.add j) = some u := by
  intro j u hu
  have hj : j / 2 < c.length := by
    have := (List.getElem?_eq_some_iff.1 hu).1
    rw [cellsW_length] at this
    omega
  obtain ⟨a', ha, _, h1, h2⟩ := h (j / 2) c[j / 2] (List.getElem?_eq_getElem hj)
  injection ha with ha
  subst ha
  obtain ⟨g1, g2⟩ := cellsW_at c (j / 2) c[j / 2] (List.getElem?_eq_getElem hj)
  rcases Nat.mod_two_eq_zero_or_one j with e | e
  · have e' : j = j / 2 * 2 := by omega
    rw [e'] at hu ⊢
    rw [g1] at hu
    rw [h1, hu]
  · have e' : j = j / 2 * 2 + 1 := by omega
    rw [e'] at hu ⊢
    rw [g2] at hu
    rw [← add_succ, h2, hu]
theorem own_ws {w : World} {base : Nat} {v : Value} {c : List Wr} (h : w.ownsRow base 151 2 v c.length (cellsW c)) : ∃ A cap, v = .slice A c.length cap ∧ (A = none → cap = 0) ∧ Ws w w.heap.size A c := by
  obtain ⟨A, cap, hv, hA, hc⟩ := own_slice h
  refine ⟨A, cap, hv, hA, fun j x hj => ?_⟩
  obtain ⟨g1, g2⟩ := cellsW_at c j x hj
  obtain ⟨a, ha, hlt, h1⟩ := hc _ _ g1
  obtain ⟨a', ha', _, h2⟩ := hc _ _ g2
  rw [ha] at ha'
  injection ha' with ha'
  subst ha'
  exact ⟨a, ha, hlt, h1, by rw [add_succ]; exact h2⟩
end Go.Proofs.YtkjikigimmchlaaGreatDoor
namespace Go.Proofs.YtkjikigimmchlaaGreatDoor
open Go.RowKit
set_option maxRecDepth 100000 in
theorem app_strs {ops : Array Oper} {rest : List Oper} {o : Oper} {a : Act} {Q : Exit → Act → World → Prop} (hgd : o.guard = none) (s x : Operand)
    (ho : o.op = .call { callee := .builtin .append, args := #[s, x], argTypes := #[27, 27] }) (w : World) (base : Nat) (hbase : base ≤ w.heap.size) (v : Value) (l0 : List ByteArray) (hs : a.eval s = v)
    (hown : w.ownsRow base 9 1 v l0.length (l0.map Value.string)) (A : Option Addr) (n : Nat) (l : List ByteArray) (hA : A = none → n = 0) (hx : a.eval x = .slice A l.length n) (hc : Es Value.string w w.heap.size A l) (hl : l0.length + l.length ≤ 1000000)
    (h : ∀ v' w', w'.ownsRow base 9 1 v' (l0 ++ l).length ((l0 ++ l).map Value.string) → w.grownBy w' v.ownBlock → wpList Tryz.prog ops Q rest (a.put o.dst v') w') :
    wpList Tryz.prog ops Q (o :: rest) a w := by
  obtain ⟨i0, hi, hz0, hz1, hz2⟩ := info_parts info9
  cases A with
  | none =>
    have hl0 : l = [] := by
      cases l with
      | nil => rfl
      | cons y t => obtain ⟨a', ha', _⟩ := hc 0 y rfl; cases ha'
    subst hl0
    rw [hA rfl] at hx
    rw [List.append_nil] at h
    exact wpList_append_own_none hgd s x 27 ho base 9 i0 1 Tryz.underlying27 hi v _ _ hs hown hx (h _ _ hown ⟨rfl, rfl, rfl, Nat.le_refl _, fun _ _ _ => rfl⟩)
  | some ad =>
    refine wpList_append_own _ hgd s x 27 ho base 9 i0 (.string ⟨#[]⟩) 1 16 Tryz.underlying27 hi hz0 hz1 hz2 rfl (by decide) v _ _ hs hown ad l.length n (l.map Value.string) hx (by simp) (es_cells hc)
      (fun u hu => by obtain ⟨y, _, rfl⟩ := List.mem_map.1 hu; rfl) (by unfold maxLen; omega) (by omega) hbase fun v' w' hown' hgrow _ => ?_
    rw [← List.map_append, ← List.length_append] at hown'
    exact h v' w' hown' hgrow
set_option maxRecDepth 100000 in
theorem app_wrs {ops : Array Oper} {rest : List Oper} {o : Oper} {a : Act} {Q : Exit → Act → World → Prop} (hgd : o.guard = none) (s x : Operand)
    (ho : o.op = .call { callee := .builtin .append, args := #[s, x], argTypes := #[28, 28] }) (w : World) (base : Nat) (hbase : base ≤ w.heap.size) (v : Value) (l0 : List Wr) (hs : a.eval s = v)
    (hown : w.ownsRow base 151 2 v l0.length (cellsW l0)) (A : Option Addr) (n : Nat) (l : List Wr) (hA : A = none → n = 0) (hx : a.eval x = .slice A l.length n) (hc : Ws w w.heap.size A l) (hl : l0.length + l.length ≤ 1000000)
    (h : ∀ v' w', w'.ownsRow base 151 2 v' (l0 ++ l).length (cellsW (l0 ++ l)) → w.grownBy w' v.ownBlock → wpList Tryz.prog ops Q rest (a.put o.dst v') w') :
    wpList Tryz.prog ops Q (o :: rest) a w := by
  obtain ⟨i0, hi, hz0, hz1, hz2⟩ := info_parts info45
  cases A with
  | none =>
    have hl0 : l = [] := by
      cases l with
      | nil => rfl
      | cons y t => obtain ⟨a', ha', _⟩ := hc 0 y rfl; cases ha'
    subst hl0
    rw [hA rfl] at hx
    rw [List.append_nil] at h
    exact wpList_append_own_none hgd s x 28 ho base 151 i0 2 Tryz.underlying28 hi v _ _ hs hown hx (h _ _ hown ⟨rfl, rfl, rfl, Nat.le_refl _, fun _ _ _ => rfl⟩)
  | some ad =>
    refine wpList_append_own _ hgd s x 28 ho base 151 i0 (.agg #[.int .i64 0, .string ⟨#[]⟩]) 2 24 Tryz.underlying28 hi hz0 hz1 hz2 rfl (by decide) v _ _ hs hown ad l.length n (cellsW l) hx (cellsW_length l) (ws_cells hc)
      (cellsW_one l) (by unfold maxLen; omega) (by omega) hbase fun v' w' hown' hgrow _ => ?_
    rw [← cellsW_append, ← List.length_append] at hown'
    exact h v' w' hown' hgrow
theorem own_empty {e : TypeId} {size : Nat} (w : World) (base : Nat) (hb : base ≤ w.heap.size) : (w.alloc (.cells #[] e)).ownsRow base e size (.slice (some ⟨w.heap.size, 0, none⟩) 0 0) 0 [] :=
  ⟨by simp, Or.inr ⟨w.heap.size, 0, #[], rfl, hb, heap_alloc_new w _, Nat.le_refl _, by unfold maxLen; omega, by simp, by simp⟩⟩
set_option maxRecDepth 100000 in
set_option maxHeartbeats 400000 in
theorem clone_any (A : Option Addr) (n : Nat) (s : List ByteArray) (w : World) (hA : A = none → n = 0) (hs : Es Value.string w w.heap.size A s) (hl : s.length ≤ 1000000) :
    Calls Tryz.prog 264 #[.slice A s.length n] w fun e w' => ∃ v, e = .returned v ∧ w'.ownsRow w.heap.size 9 1 v s.length (s.map Value.string) ∧ Below w.heap.size w w' := by
  have hq := fun (w : World) (a : Option Addr) (n c n' c' : Nat) => Lib.run_eql_slice_nil w 27 9 a n c n' c' Tryz.underlying27
  have HS := Lib.hid hs; clear hs
  cases A with
  | none =>
    have hs0 : s = [] := by
      cases s with
      | nil => rfl
      | cons y t => obtain ⟨a', ha', _⟩ := HS.out 0 y rfl; cases ha'
    subst hs0
    have hn := hA rfl
    subst hn
    clear hA
    go_enter Tryz.func264, Tryz.ntmps264
    go_wp2
    go_ret
    exact ⟨_, rfl, World.ownsRow_nil _ _ _ _, Below.refl _ _⟩
  | some ad =>
    clear hA
    go_enter Tryz.func264, Tryz.ntmps264
    go_wp2_with (at_builtin; refine app_strs rfl _ _ rfl _ w.heap.size ?c1 _ [] rfl ?c2 (some ad) n s ?c3 rfl ?c4 ?c5 ?_)
    case c1 => simp
    case c2 => exact own_empty w _ (Nat.le_refl _)
    case c3 => intro q; cases q
    case c4 => exact HS.out.up below1
    case c5 => simpa using hl
    intro v' w' hown hgrow
    have hb := (Below.refl w.heap.size w).alloc (Nat.le_refl _) (.cells #[] 9)
    have hb2 := hb.grown hgrow (by simp) (own_low (own_empty (e := 9) (size := 1) w w.heap.size (Nat.le_refl _)))
    have HO := Lib.hid hown; clear hown
    have HB := Lib.hid hb2; clear hb2
    clear hgrow hb
    go_wp2
    go_ret
    exact ⟨_, rfl, HO.out, HB.out⟩
theorem own_set {w : World} {base g cap n : Nat} {s : List ByteArray} {j : Nat} {d : ByteArray} (h : w.ownsRow base 9 1 (.slice (some ⟨g, 0, none⟩) n cap) n (s.map Value.string)) :
    (w.setCell ⟨g, j, none⟩ (.string d)).ownsRow base 9 1 (.slice (some ⟨g, 0, none⟩) n cap) n ((s.set j d).map Value.string) := by
  have := (h.stored j (.string d)).1
  rw [List.map_set]
  exact this
theorem own_some {w : World} {base size n cap : Nat} {e : TypeId} {A : Option Addr} {xs : List Value} (h : w.ownsRow base e size (.slice A n cap) n xs) (hn : 0 < n) : ∃ g, A = some ⟨g, 0, none⟩ ∧ base ≤ g := by
  rcases h.2 with ⟨_, h0⟩ | ⟨g, cap', cur, hv, hb, _⟩
  · omega
  · injection hv with e1
    exact ⟨g, e1, hb⟩
set_option maxRecDepth 100000 in
set_option maxHeartbeats 1000000 in
theorem lay_any (A B : Option Addr) (n m : Nat) (s : List ByteArray) (c : List Wr) (w : World) (hA : A = none → n = 0) (hs : Es Value.string w w.heap.size A s) (hc : Ws w w.heap.size B c) (hl : s.length ≤ 1000000) (hm : c.length ≤ maxLen) (hf : ∀ x ∈ c, 0 ≤ x.1 ∧ x.1 < s.length) :
    Calls Tryz.prog 249 #[.slice A s.length n, .slice B c.length m] w fun e w' => ∃ v, e = .returned v ∧ w'.ownsRow w.heap.size 9 1 v (layL s c).length ((layL s c).map Value.string) ∧ Below w.heap.size w w' := by
  unfold maxLen at hm
  have hk := clone_any A n s w hA hs hl
  have HC := Lib.hid hc; clear hc
  have HF := Lib.hid hf; clear hf
  clear hs hA
  go_enter Tryz.func249, Tryz.ntmps249
  go_wp2_with fail
  refine hk.mono ?_
  rintro e w1 ⟨v, rfl, hown, hb⟩
  obtain ⟨A', cap, rfl, _, _⟩ := own_slice hown
  have HO := Lib.hid hown; clear hown
  have HB := Lib.hid hb; clear hb
  clear hk
  go_wp2
  go_loopw [6, 11] (fun _ i wr => ∃ k : Nat, k ≤ c.length ∧ i = .int .i64 k ∧ Hid (wr.ownsRow w.heap.size 9 1 (.slice A' s.length cap) s.length ((layL s (c.take k)).map Value.string)) ∧ Hid (Below w.heap.size w wr)) (fun _ i _ => c.length - (intOf i).toNat)
  case atStart => exact ⟨0, by omega, rfl, by rw [List.take_zero, lay_nil]; exact HO.out, HB.out⟩
  case round =>
    obtain ⟨k, hk, rfl, HO1, HB1⟩ := hrel
    by_cases hlt : k < c.length
    · obtain ⟨a1, rfl, hb1, hc1, hd1⟩ := (HC.out.up HB1.out) k c[k] (List.getElem?_eq_getElem hlt)
      have hx := HF.out c[k] (List.getElem_mem hlt)
      have hst : layL s (c.take (k + 1)) = (layL s (c.take k)).set c[k].1.toNat c[k].2 := by rw [take_snoc c k hlt, lay_snoc]
      have hlen := lay_length (c.take k) s
      generalize c[k] = x at *
      obtain ⟨q, d⟩ := x
      dsimp only at *
      obtain ⟨hq0, hq1⟩ := hx
      obtain ⟨q, rfl⟩ := Int.eq_ofNat_of_zero_le hq0
      rw [Int.toNat_natCast] at hst
      have HS := Lib.hid hst; clear hst
      generalize layL s (c.take k) = l at *
      obtain ⟨g, rfl, hg⟩ := own_some HO1.out (by omega)
      have hcell : ∀ o, (wr.alloc o).cell? ⟨g, q, none⟩ = some (.string (l.getD q ⟨#[]⟩)) := fun o => by
        rw [(HO1.out.alloc o).cellAt q (by omega), List.getElem?_map, List.getElem?_eq_getElem (by omega), List.getD_eq_getElem?_getD, List.getElem?_eq_getElem (by omega)]; rfl
      have hfz : ∀ o, (wr.alloc o).frozen? ⟨g, q, none⟩ = false := fun o => (HO1.out.alloc o).frozenAt q
      have hnew : ∀ o, ((wr.alloc o).setCell ⟨g, q, none⟩ (.string d)).ownsRow w.heap.size 9 1 (.slice (some ⟨g, 0, none⟩) s.length cap) s.length ((l.set q d).map Value.string) := fun o => own_set (HO1.out.alloc o)
      have hbl : ∀ o, Below w.heap.size w ((wr.alloc o).setCell ⟨g, q, none⟩ (.string d)) := fun o => (ext_alloc HB1.out o).setCell hg _
      have HN := Lib.hid hnew; clear hnew
      have HL := Lib.hid hbl; clear hbl
      clear hlen
      go_wp2
      go_roundw
      case rel => exact ⟨k + 1, by omega, by go_num, by rw [HS.out]; exact HN.out _, HL.out _⟩
      case measure => simp [intOf]; omega
    · obtain rfl : k = c.length := by omega
      rw [List.take_length] at HO1
      go_wp2
      go_ret
      exact ⟨_, rfl, by rw [lay_length]; exact HO1.out, HB1.out⟩
end Go.Proofs.YtkjikigimmchlaaGreatDoor
namespace Go.Proofs.YtkjikigimmchlaaGreatDoor
open Go.RowKit
theorem own_es2 {w : World} {base cap : Nat} {A : Option Addr} {s : List ByteArray} (h : w.ownsRow base 9 1 (.slice A s.length cap) s.length (s.map Value.string)) : (A = none → cap = 0) ∧ Es Value.string w w.heap.size A s := by
  obtain ⟨A', cap', hv, h1, h2⟩ := own_es h
  injection hv with e1 e2 e3
  subst e1; subst e3
  exact ⟨h1, h2⟩
theorem own_ws2 {w : World} {base cap : Nat} {A : Option Addr} {c : List Wr} (h : w.ownsRow base 151 2 (.slice A c.length cap) c.length (cellsW c)) : (A = none → cap = 0) ∧ Ws w w.heap.size A c := by
  obtain ⟨A', cap', hv, h1, h2⟩ := own_ws h
  injection hv with e1 e2 e3
  subst e1; subst e3
  exact ⟨h1, h2⟩
theorem own4 {w : World} {base size n b : Nat} {e : TypeId} {v : Value} {xs : List Value} (h : w.ownsRow base e size v n xs) (hb : b < base) (v0 v1 v2 v3 : Value) :
    ((((w.setCell ⟨b, 0, none⟩ v0).setCell ⟨b, 1, none⟩ v1).setCell ⟨b, 2, none⟩ v2).setCell ⟨b, 3, none⟩ v3).ownsRow base e size v n xs :=
  ownsRow_setCell_below (ownsRow_setCell_below (ownsRow_setCell_below (ownsRow_setCell_below h (a := ⟨b, 0, none⟩) hb v0) (a := ⟨b, 1, none⟩) hb v1) (a := ⟨b, 2, none⟩) hb v2) (a := ⟨b, 3, none⟩) hb v3
set_option maxRecDepth 100000 in
set_option maxHeartbeats 1000000 in
theorem flush_dies (A B : Option Addr) (n1 n2 m1 m2 : Nat) (w : World) :
    Calls Tryz.prog 226 #[.agg #[.slice A n1 n2, .slice B m1 m2, .int .i64 1, .bool false]] w fun e w' => e = .returned (.tuple #[.agg #[.slice A n1 n2, .slice B m1 m2, .int .i64 0, .bool true], .int .i64 6]) ∧ Below w.heap.size w w' := by
  go_enter Tryz.func226, Tryz.ntmps226
  go_wp2
  refine bodyPost_ret (v := .tuple #[.agg #[.slice A n1 n2, .slice B m1 m2, .int .i64 0, .bool true], .int .i64 6]) (by simp [results, Tryz.results226, go_sem]) rfl ⟨rfl, ?_⟩
  exact ext_alloc (ext_alloc (ext_alloc (ext_alloc below2 _) _) _) _
set_option maxRecDepth 100000 in
set_option maxHeartbeats 1000000 in
theorem flush_any (A B : Option Addr) (n m : Nat) (s : List ByteArray) (c : List Wr) (f : Int) (w : World) (hm : Mem w A n B m s c) (hl : s.length ≤ 64) (hc : c.length ≤ maxLen) (hf : f < 9223372036854775808) (hf1 : f ≠ 1) (hx : c.any (misfitW s.length) = false) :
    Calls Tryz.prog 226 #[.agg #[.slice A s.length n, .slice B c.length m, .int .i64 f, .bool false]] w (GivesD (layL s c) [] (burnF f) false 0 w) := by
  have hfit := fits hx
  have hbu := fun w => burn_any A B s.length n c.length m f false w hf
  have hbd : burnD f false = false := by unfold burnD; rw [if_neg hf1]
  rw [hbd] at hbu
  have HM := Lib.hid hm; clear hm
  have HF := Lib.hid hfit; clear hfit
  have HC := Lib.hid hc; clear hc
  clear hbd hf1 hx
  generalize burnF f = f' at *
  have b1 := Box.new w [.slice A s.length n, .slice B c.length m, .int .i64 f, .bool false] 30
  have b1 := b1.alloc (.cells #[.slice none 0 0, .slice none 0 0, .int .i64 0, .bool false] 30)
  have b2 := Box.new2 w (.cells #[.slice A s.length n, .slice B c.length m, .int .i64 f, .bool false] 30) [.slice none 0 0, .slice none 0 0, .int .i64 0, .bool false] 30
  have B1 := Lib.hid b1
  have B2 := Lib.hid b2
  clear b1 b2
  go_enter Tryz.func226, Tryz.ntmps226
  go_wp2_with fail
  refine (hbu _).mono ?_
  rintro e w1 ⟨rfl, hb1⟩
  have b1 := B1.out.below hb1
  have b2 := B2.out.below hb1
  have k1 := b1.cell
  have z1 := b1.frozen
  have k2 := b2.cell
  have z2 := b2.frozen
  have b1' := b1.four (.slice A s.length n) (.slice B c.length m) (.int .i64 f') (.bool false)
  have b2' := b2.past4 (b := w.heap.size) (by simp) (.slice A s.length n) (.slice B c.length m) (.int .i64 f') (.bool false)
  have hbw := below4 (ext below2 hb1) (Nat.le_refl _) (.slice A s.length n) (.slice B c.length m) (.int .i64 f') (.bool false)
  have B3 := Lib.hid b1'
  have B4 := Lib.hid b2'
  have HB := Lib.hid hbw
  clear b1 b2 b1' b2' hbw hb1 B1 B2 hbu
  go_wp2_with fail
  generalize (((w1.setCell ⟨w.heap.size, 0, none⟩ (.slice A s.length n)).setCell ⟨w.heap.size, 1, none⟩ (.slice B c.length m)).setCell ⟨w.heap.size, 2, none⟩ (.int .i64 f')).setCell ⟨w.heap.size, 3, none⟩ (.bool false) = w2 at *
  clear k1 z1 k2 z2
  have hm2 := HM.out.up HB.out
  refine (lay_any A B n m s c w2 hm2.an hm2.es hm2.ws (by omega) HC.out (fun x hx => by have := HF.out x hx; omega)).mono ?_
  rintro e w3 ⟨v, rfl, hown, hb3⟩
  clear hm2
  obtain ⟨A', cap, rfl, _, _⟩ := own_es hown
  have l1 := B3.out.lt
  have l2 := B4.out.lt
  have b1 := B3.out.below hb3
  have b2 := B4.out.below hb3
  have k1 := b1.cell
  have z1 := b1.frozen
  have k2 := b2.cell
  have z2 := b2.frozen
  have HO := Lib.hid hown; clear hown
  have HB3 := Lib.hid hb3; clear hb3
  have HT := Lib.hid (And.intro l1 l2); clear l1 l2
  clear b1 b2 B3 B4
  generalize layL s c = l at *
  go_wp2_with fail
  have hown2 := own4 (ownsRow_setCell_below (ownsRow_setCell_below HO.out (a := ⟨w.heap.size, 0, none⟩) HT.out.1 (.slice A' l.length cap)) (a := ⟨w.heap.size, 1, none⟩) HT.out.1 (.slice none 0 0)) HT.out.2 (.slice A' l.length cap) (.slice none 0 0) (.int .i64 f') (.bool false)
  obtain ⟨hA2, hes⟩ := own_es2 hown2
  refine bodyPost_ret (v := .tuple #[.agg #[.slice A' l.length cap, .slice none 0 0, .int .i64 f', .bool false], .int .i64 0]) (by simp [results, Tryz.results226, go_sem, k2]) rfl
    ⟨A', none, cap, 0, rfl, ⟨hes, ws_nil _ _ _, hA2, fun _ => rfl, own_ty hown2, ty_none _ _⟩, ?_⟩
  exact below4 (((ext HB.out HB3.out).setCell (p := ⟨w.heap.size, 0, none⟩) (Nat.le_refl _) _).setCell (p := ⟨w.heap.size, 1, none⟩) (Nat.le_refl _) _) (by omega) _ _ _ _
end Go.Proofs.YtkjikigimmchlaaGreatDoor
namespace Go.Proofs.YtkjikigimmchlaaGreatDoor
open Go.RowKit
set_option maxRecDepth 100000 in
set_option maxHeartbeats 1000000 in
theorem holds_any (A B : Option Addr) (n m : Nat) (s : List ByteArray) (c : List Wr) (f : Int) (x : Bool) (i : Nat) (t : ByteArray) (w : World) (hm : Mem w A n B m s c) (hi : s[i]? = some t) (hc : c.length ≤ maxLen) :
    Calls Tryz.prog 229 #[.agg #[.slice A s.length n, .slice B c.length m, .int .i64 f, .bool x], .int .i64 i] w fun e w' => e = .returned (.string (holdsL c i t)) ∧ Below w.heap.size w w' := by
  unfold maxLen at hc
  obtain ⟨hlt, _⟩ := List.getElem?_eq_some_iff.1 hi
  obtain ⟨a0, rfl, hb0, hc0⟩ := hm.es i t hi
  have hc0' := cell_past hc0
  have HW := Lib.hid hm.ws
  clear hm hi hc0
  go_enter Tryz.func229, Tryz.ntmps229
  go_wp2
  go_loop [5, 6] (fun v j => ∃ k : Nat, k ≤ c.length ∧ j = .int .i64 k ∧ v = .string (holdsL (c.take k) i t)) (fun _ j => c.length - (intOf j).toNat)
  case atStart => exact ⟨0, by omega, rfl, rfl⟩
  case round =>
    obtain ⟨k, hk, rfl, rfl⟩ := hrel
    by_cases hlt2 : k < c.length
    · obtain ⟨a1, rfl, hb1, hc1, hd1⟩ := HW.out k c[k] (List.getElem?_eq_getElem hlt2)
      have hc2 := cell_past hc1
      have hd2 := cell_past hd1
      have hs : holdsL (c.take (k + 1)) i t = if c[k].1 = (i : Int) then c[k].2 else holdsL (c.take k) i t := by rw [take_snoc c k hlt2, holds_snoc]
      clear hc1 hd1
      generalize c[k] = y at *
      obtain ⟨q, d⟩ := y
      dsimp only at *
      generalize holdsL (c.take k) i t = u at *
      by_cases hq : q = (i : Int)
      · subst hq
        rw [if_pos rfl] at hs
        have HS := Lib.hid hs; clear hs
        go_wp2
        go_round
        case rel => exact ⟨k + 1, by omega, by go_num, by rw [HS.out]⟩
        case measure => simp [intOf]; omega
      · rw [if_neg hq] at hs
        have HS := Lib.hid hs; clear hs
        have hqb : (q == (i : Int)) = false := beq_eq_false_iff_ne.2 hq
        clear hq
        go_wp2
        go_round
        case rel => exact ⟨k + 1, by omega, by go_num, by rw [HS.out]⟩
        case measure => simp [intOf]; omega
    · obtain rfl : k = c.length := by omega
      rw [List.take_length]
      go_wp2
      go_ret
      exact ⟨rfl, below1⟩
theorem own_up {w w' : World} {base size n : Nat} {e : TypeId} {v : Value} {xs : List Value} (h : w.ownsRow base e size v n xs) (hb : Below w.heap.size w w') : w'.ownsRow base e size v n xs :=
  h.kept (row := none) ⟨hb.os, hb.tape, hb.output, hb.size, fun k hk _ => hb.block k hk⟩ (by cases v.ownBlock <;> simp)
theorem es_one (w : World) (t : ByteArray) : Es Value.string (w.alloc (.cells #[.string t] 9)) (w.alloc (.cells #[.string t] 9)).heap.size (some ⟨w.heap.size, 0, none⟩) [t] := by
  intro j x hj
  match j, hj with
  | 0, hj =>
    simp at hj
    subst hj
    refine ⟨_, rfl, by simp, ?_⟩
    have : (⟨w.heap.size, 0, none⟩ : Addr).add 0 = ⟨w.heap.size, 0, none⟩ := by unfold Addr.add; split <;> simp_all
    rw [this, World.cell?_alloc_mark w _ 9 (0, 0)]
    rfl
set_option maxRecDepth 100000 in
set_option maxHeartbeats 1000000 in
theorem rflush_dies (A B : Option Addr) (n1 n2 m1 m2 : Nat) (w : World) :
    Calls Tryz.prog 253 #[.agg #[.slice A n1 n2, .slice B m1 m2, .int .i64 1, .bool false]] w fun e w' => e = .returned (.tuple #[.agg #[.slice A n1 n2, .slice B m1 m2, .int .i64 0, .bool true], .int .i64 6]) ∧ Below w.heap.size w w' := by
  go_enter Tryz.func253, Tryz.ntmps253
  go_wp2
  refine bodyPost_ret (v := .tuple #[.agg #[.slice A n1 n2, .slice B m1 m2, .int .i64 0, .bool true], .int .i64 6]) (by simp [results, Tryz.results253, go_sem]) rfl ⟨rfl, ?_⟩
  exact ext_alloc (ext_alloc below2 _) _
set_option maxRecDepth 100000 in
set_option maxHeartbeats 2000000 in
theorem rflush_any (A B : Option Addr) (n m : Nat) (s : List ByteArray) (c : List Wr) (f : Int) (w : World) (hm : Mem w A n B m s c) (hl : s.length ≤ 64) (hc : c.length ≤ maxLen) (hf : f < 9223372036854775808) (hf1 : f ≠ 1) (hx : c.any (misfitW s.length) = false) :
    Calls Tryz.prog 253 #[.agg #[.slice A s.length n, .slice B c.length m, .int .i64 f, .bool false]] w (GivesD (layL s c) [] (burnF f) false 0 w) := by
  have hfit := fits hx
  have hbu := fun w => rburn_any A B s.length n c.length m f false w hf
  have hbd : burnD f false = false := by unfold burnD; rw [if_neg hf1]
  rw [hbd] at hbu
  have hat := fun j hj => lay_at c s j hj fun x hx => (hfit x hx).1
  have hlen := lay_length c s
  have HM := Lib.hid hm; clear hm
  have HL := Lib.hid hl
  have HC := Lib.hid hc; clear hc
  have HAT := Lib.hid hat; clear hat
  have HLEN := Lib.hid hlen; clear hlen
  clear hbd hf1 hx hfit
  generalize burnF f = f' at *
  have B1 := Lib.hid ((Box.new w [.slice A s.length n, .slice B c.length m, .int .i64 f, .bool false] 30).alloc (.cells #[.slice none 0 0, .slice none 0 0, .int .i64 0, .bool false] 30))
  have B2 := Lib.hid (Box.new2 w (.cells #[.slice A s.length n, .slice B c.length m, .int .i64 f, .bool false] 30) [.slice none 0 0, .slice none 0 0, .int .i64 0, .bool false] 30)
  go_enter Tryz.func253, Tryz.ntmps253
  go_wp2_with fail
  refine (hbu _).mono ?_
  rintro e w1 ⟨rfl, hb1⟩
  have b1 := B1.out.below hb1
  have b2 := B2.out.below hb1
  have k1 := b1.cell
  have z1 := b1.frozen
  have k2 := b2.cell
  have z2 := b2.frozen
  have b1' := b1.four (.slice A s.length n) (.slice B c.length m) (.int .i64 f') (.bool false)
  have b2' := b2.past4 (b := w.heap.size) (by simp) (.slice A s.length n) (.slice B c.length m) (.int .i64 f') (.bool false)
  have hbw := below4 (ext below2 hb1) (Nat.le_refl _) (.slice A s.length n) (.slice B c.length m) (.int .i64 f') (.bool false)
  have B3 := Lib.hid b1'
  have B4 := Lib.hid b2'
  have HB := Lib.hid hbw
  clear b1 b2 b1' b2' hbw hb1 B1 B2 hbu
  go_wp2_with fail
  generalize (((w1.setCell ⟨w.heap.size, 0, none⟩ (.slice A s.length n)).setCell ⟨w.heap.size, 1, none⟩ (.slice B c.length m)).setCell ⟨w.heap.size, 2, none⟩ (.int .i64 f')).setCell ⟨w.heap.size, 3, none⟩ (.bool false) = w2 at *
  clear k1 z1 k2 z2
  have HM2 := Lib.hid (HM.out.up HB.out)
  have HT := Lib.hid (And.intro B3.out.lt B4.out.lt)
  go_loopw [4, 5] (fun v j wr => ∃ k : Nat, k ≤ s.length ∧ j = .int .i64 k ∧ Hid (wr.ownsRow w2.heap.size 9 1 v ((layL s c).take k).length (((layL s c).take k).map Value.string)) ∧ Hid (Below w2.heap.size w2 wr)) (fun _ j _ => s.length - (intOf j).toNat)
  case atStart => exact ⟨0, by omega, rfl, World.ownsRow_nil _ _ _ _, Below.refl _ _⟩
  case round =>
    obtain ⟨k, hk, rfl, HO, HBr⟩ := hrel
    have k1 := (B3.out.below HBr.out).cell
    by_cases hlt : k < s.length
    · have hat := HAT.out k hlt
      have hs : (layL s c).take (k + 1) = (layL s c).take k ++ [holdsL c k s[k]] := by
        rw [take_snoc _ k (by rw [HLEN.out]; exact hlt)]
        rw [List.getElem?_eq_getElem (by rw [HLEN.out]; exact hlt)] at hat
        injection hat with hat
        rw [hat]
      have hh := fun w hm => holds_any A B n m s c f' false k s[k] w hm (List.getElem?_eq_getElem hlt) HC.out
      have hle : ((layL s c).take k).length ≤ 64 := by rw [List.length_take, HLEN.out]; have := HL.out; omega
      have HS := Lib.hid hs; clear hs hat
      have HH := Lib.hid hh; clear hh
      have HLE := Lib.hid hle; clear hle
      generalize (layL s c).take k = l at *
      generalize holdsL c k s[k] = t at *
      go_wp2_with fail
      refine (HH.out _ (HM2.out.up HBr.out)).mono ?_
      rintro e w3 ⟨rfl, hb3⟩
      go_wp2_with (at_builtin; refine app_strs rfl _ _ rfl _ w2.heap.size ?c1 _ l rfl ?c2 (some ⟨w3.heap.size, 0, none⟩) 1 [t] ?c3 rfl ?c4 ?c5 ?_)
      case c1 => have := HBr.out.size; have := hb3.size; simp; omega
      case c2 => exact (own_up HO.out hb3).alloc _
      case c3 => intro q; cases q
      case c4 => exact es_one w3 t
      case c5 => have := HLE.out; simp; omega
      intro v' w4 hown hgrow
      replace hown : w4.ownsRow w2.heap.size 9 1 v' (l ++ [t]).length ((l ++ [t]).map Value.string) := by simpa using hown
      rw [← HS.out] at hown
      have hb4 := ((HBr.out.trans (hb3.mono HBr.out.size)).alloc (by have := HBr.out.size; have := hb3.size; omega) (.cells #[.string t] 9)).grown hgrow (by have := HBr.out.size; have := hb3.size; simp; omega) (own_low HO.out)
      have HO' := Lib.hid hown; clear hown
      have HB' := Lib.hid hb4; clear hb4
      clear hgrow hb3
      go_wp2
      go_roundw
      case rel => exact ⟨k + 1, by omega, by go_num, HO'.out, HB'.out⟩
      case measure => simp [intOf]; omega
    · obtain rfl : k = s.length := by omega
      have hown := HO.out
      rw [List.take_of_length_le (by rw [HLEN.out]; exact Nat.le_refl _)] at hown
      obtain ⟨A', cap, rfl, _, _⟩ := own_es hown
      have k2 := (B4.out.below HBr.out).cell
      have z1 := (B3.out.below HBr.out).frozen
      have z2 := (B4.out.below HBr.out).frozen
      have HO2 := Lib.hid hown; clear hown
      clear HAT HLEN HO
      generalize layL s c = l at *
      go_wp2_with fail
      have hown2 := own4 (ownsRow_setCell_below (ownsRow_setCell_below HO2.out (a := ⟨w.heap.size, 0, none⟩) HT.out.1 (.slice A' l.length cap)) (a := ⟨w.heap.size, 1, none⟩) HT.out.1 (.slice none 0 0)) HT.out.2 (.slice A' l.length cap) (.slice none 0 0) (.int .i64 f') (.bool false)
      obtain ⟨hA2, hes⟩ := own_es2 hown2
      refine bodyPost_ret (v := .tuple #[.agg #[.slice A' l.length cap, .slice none 0 0, .int .i64 f', .bool false], .int .i64 0]) (by simp [results, Tryz.results253, go_sem, k2]) rfl
        ⟨A', none, cap, 0, rfl, ⟨hes, ws_nil _ _ _, hA2, fun _ => rfl, own_ty hown2, ty_none _ _⟩, ?_⟩
      exact below4 (((ext HB.out HBr.out).setCell (p := ⟨w.heap.size, 0, none⟩) (Nat.le_refl _) _).setCell (p := ⟨w.heap.size, 1, none⟩) (Nat.le_refl _) _) (by omega) _ _ _ _
end Go.Proofs.YtkjikigimmchlaaGreatDoor
namespace Go.Proofs.YtkjikigimmchlaaGreatDoor
open Go.RowKit PX
section
variable {ap : TypeId → Bool} {w w' : World} {A : Option Addr} {T : TypeId}
theorem Ty.sameB (h : Ty w A T) (e : Ext ap w w') (hT : ap T = false) : ∀ a, A = some a → w'.heap[a.block]? = w.heap[a.block]? := fun a ha => by
  obtain ⟨cs, fr, hc⟩ := h a ha
  rcases e.blk a.block (Array.getElem?_eq_some_iff.1 hc).1 with q | ⟨T', c1, c2, h1, h2, _⟩
  · exact q
  · unfold BoxO at h2
    rw [hc] at h2
    injection h2 with h2
    injection h2 with _ h2
    subst h2
    rw [hT] at h1
    cases h1
theorem Ty.ext (h : Ty w A T) (e : Ext ap w w') (hT : ap T = false) : Ty w' A T := fun a ha => by
  obtain ⟨cs, fr, hc⟩ := h a ha
  exact ⟨cs, fr, (h.sameB e hT a ha).trans hc⟩
theorem Es.ext {α : Type} {enc : α → Value} {l : List α} (h : Es enc w w.heap.size A l) (ht : Ty w A T) (e : Ext ap w w') (hT : ap T = false) : Es enc w' w'.heap.size A l := by
  intro j x hj
  obtain ⟨a, ha, hlt, hc⟩ := h j x hj
  exact ⟨a, ha, Nat.lt_of_lt_of_le hlt e.size, (cell_of (add_block a j) (ht.sameB e hT a ha)).trans hc⟩
theorem Ws.ext {l : List Wr} (h : Ws w w.heap.size A l) (ht : Ty w A T) (e : Ext ap w w') (hT : ap T = false) : Ws w' w'.heap.size A l := by
  intro j x hj
  obtain ⟨a, ha, hlt, hc, hd⟩ := h j x hj
  have hs := ht.sameB e hT a ha
  exact ⟨a, ha, Nat.lt_of_lt_of_le hlt e.size, (cell_of (add_block ..) hs).trans hc, (cell_of (by show (a.add (j * 2)).block = _; exact add_block ..) hs).trans hd⟩
theorem Mem.ext {B : Option Addr} {n m : Nat} {s : List ByteArray} {l : List Wr} (h : Mem w A n B m s l) (e : Ext tyL w w') : Mem w' A n B m s l :=
  ⟨h.es.ext h.ta e rfl, h.ws.ext h.tb e rfl, h.an, h.bn, h.ta.ext e rfl, h.tb.ext e rfl⟩
end
theorem st_mem (A : Option Addr) (n : Nat) (B : Option Addr) (m : Nat) (s : List ByteArray) (l : List Wr) : Stab tyL fun u => Mem u A n B m s l := fun _ _ e h => h.ext e
section
variable {w : World} {F : Value → S → World → Prop} {R' : Ending → World → Prop} {K : World → Prop} {t : Tree} {f : FuncId} {args : Array Value}
theorem t_d {bo rows : List Nat} {F : Value → S → World → Prop} {K : World → Prop} {t : Tree} {f : FuncId} {args : Array Value} {s : List ByteArray} {c : List Wr} {g : Int} {y : Bool} {r : Int} (hc : ∀ u, K u → Calls Tryz.prog f args u (GivesD s c g y r u)) (h : ∀ A B n m, OK ⟨Tryz.prog, tyL, w, bo, rows⟩ F (t.nv (.tuple #[.agg #[.slice A s.length n, .slice B c.length m, .int .i64 g, .bool y], .int .i64 r])) fun u => K u ∧ Mem u A n B m s c) (hd : t.hd = .call (.fn f) args.toList := by kernel_rfl) : OK ⟨Tryz.prog, tyL, w, bo, rows⟩ F t K :=
  t_call (fun u hu _ => hc u hu) (fun u e u' hu hb hr => by
    obtain ⟨A, B, n, m, he, h1, h3⟩ := hr
    exact ⟨_, _, he, h3, st_mem _ _ _ _ _ _, h1, h A B n m⟩) hd
theorem t_vb {v : Value} (hc : ∀ u, K u → Below w.heap.size w u → Calls Tryz.prog f args u fun e u' => e = .returned v ∧ Below u.heap.size u u') (h : OK ⟨Tryz.prog, tyL, w, [], []⟩ F (t.nv v) K) (hd : t.hd = .call (.fn f) args.toList := by kernel_rfl) : OK ⟨Tryz.prog, tyL, w, [], []⟩ F t K :=
  t_call (fun u hu hb => hc u hu (base_below hb)) (fun u e u' hu hb hr => ⟨v, fun _ => True, hr.1, hr.2, st_p _, trivial, by simpa using h⟩) hd
end
end Go.Proofs.YtkjikigimmchlaaGreatDoor
