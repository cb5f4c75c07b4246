/- Disks: the walk of the law on writes: it answers true, for every disk, sector and text. No other condition but that its lists lie in memory. -/
import Derived.Test.YtifcmpcgpcbljaaF2
namespace Go.Proofs.Ytifcmpcgpcbljaa
open Go.RowKit

theorem wp_app_strs {o : Oper} {a : Act} {K : Act → World → Prop} {Q : Exit → Act → World → Prop} (s x : Operand)
    (ho : o.op = .call { callee := .builtin .append, args := #[s, x], argTypes := #[22, 22] }) (w : World) (base : Nat) (hbase : base ≤ w.heap.size) (v : Value) (l0 : List ByteArray) (hs : a.eval s = v)
    (hown : w.ownsRow base 9 1 v l0.length (l0.map Value.string)) (A : Option Addr) (n : Nat) (l : List ByteArray) (hA : A = none → n = 0) (hx : a.eval x = .slice A l.length n) (hc : Es Value.string w w.heap.size A l) (hl : l0.length + l.length ≤ 1000000)
    (h : ∀ v' w', w'.ownsRow base 9 1 v' (l0 ++ l).length ((l0 ++ l).map Value.string) → w.grownBy w' v.ownBlock → K (a.put o.dst v') w') : o.wp Try.prog a w K Q := by
  obtain ⟨i0, hi, hz0, hz1, hz2⟩ := info_parts info9
  cases A with
  | none =>
    have hl0 : l = [] := by
      cases l with
      | nil => rfl
      | cons y t => obtain ⟨a', ha', _⟩ := hc 0 y rfl; cases ha'
    subst hl0
    rw [hA rfl] at hx
    rw [List.append_nil] at h
    have hrun := run_append_owned_none (P := Try.prog) (w := w) base 22 o.type 9 i0 1 Try.underlying22 hi v _ _ hown
    have hx' : a.eval x = .slice none 0 0 := hx
    unfold Oper.wp
    simp [execOp, ho, resolve, invoke, builtin, hs, hx', hrun, Result.andThen]
    exact h _ _ hown ⟨rfl, rfl, rfl, Nat.le_refl _, fun _ _ _ => rfl⟩
  | some ad =>
    refine wp_append_own w s x 22 ho base 9 i0 (.string ⟨#[]⟩) 1 16 Try.underlying22 hi hz0 hz1 hz2 rfl (by decide) v _ _ hs hown ad l.length n (l.map Value.string) hx (by simp) (es_cells hc)
      (fun u hu => by obtain ⟨y, _, rfl⟩ := List.mem_map.1 hu; rfl) (by unfold maxLen; omega) (by omega) hbase fun v' w' hown' hgrow _ => ?_
    rw [← List.map_append, ← List.length_append] at hown'
    exact h v' w' hown' hgrow

theorem wp_app_wrs {o : Oper} {a : Act} {K : Act → World → Prop} {Q : Exit → Act → World → Prop} (s x : Operand)
    (ho : o.op = .call { callee := .builtin .append, args := #[s, x], argTypes := #[23, 23] }) (w : World) (base : Nat) (hbase : base ≤ w.heap.size) (v : Value) (l0 : List Wr) (hs : a.eval s = v)
    (hown : w.ownsRow base 45 2 v l0.length (cellsW l0)) (A : Option Addr) (n : Nat) (l : List Wr) (hA : A = none → n = 0) (hx : a.eval x = .slice A l.length n) (hc : Ws w w.heap.size A l) (hl : l0.length + l.length ≤ 1000000)
    (h : ∀ v' w', w'.ownsRow base 45 2 v' (l0 ++ l).length (cellsW (l0 ++ l)) → w.grownBy w' v.ownBlock → K (a.put o.dst v') w') : o.wp Try.prog a w K Q := by
  obtain ⟨i0, hi, hz0, hz1, hz2⟩ := info_parts info45
  cases A with
  | none =>
    have hl0 : l = [] := by
      cases l with
      | nil => rfl
      | cons y t => obtain ⟨a', ha', _⟩ := hc 0 y rfl; cases ha'
    subst hl0
    rw [hA rfl] at hx
    rw [List.append_nil] at h
    have hrun := run_append_owned_none (P := Try.prog) (w := w) base 23 o.type 45 i0 2 Try.underlying23 hi v _ _ hown
    have hx' : a.eval x = .slice none 0 0 := hx
    unfold Oper.wp
    simp [execOp, ho, resolve, invoke, builtin, hs, hx', hrun, Result.andThen]
    exact h _ _ hown ⟨rfl, rfl, rfl, Nat.le_refl _, fun _ _ _ => rfl⟩
  | some ad =>
    refine wp_append_own w s x 23 ho base 45 i0 (.agg #[.int .i64 0, .string ⟨#[]⟩]) 2 24 Try.underlying23 hi hz0 hz1 hz2 rfl (by decide) v _ _ hs hown ad l.length n (cellsW l) hx (cellsW_length l) (ws_cells hc)
      (cellsW_one l) (by unfold maxLen; omega) (by omega) hbase fun v' w' hown' hgrow _ => ?_
    rw [← cellsW_append, ← List.length_append] at hown'
    exact h v' w' hown' hgrow

theorem own_zero {w : World} {base size g : Nat} {e : TypeId} (hb : base ≤ g) (hh : w.heap[g]? = some (.cells #[] e (0, 0))) : w.ownsRow base e size (.slice (some ⟨g, 0, none⟩) 0 0) 0 [] :=
  ⟨by simp, Or.inr ⟨g, 0, #[], rfl, hb, hh, Nat.le_refl _, by unfold maxLen; omega, by simp, by simp⟩⟩
theorem box_grown {w w' : World} {row : Option Nat} {b : Nat} {vs : List Value} (h : Box w b vs) (hg : w.grownBy w' row) (hne : some b ≠ row) : Box w' b vs := by
  have hl := h.lt
  obtain ⟨t, h⟩ := h
  exact ⟨t, (hg.block b hl hne).trans h⟩
theorem own_other {w : World} {base base' size size' n n' : Nat} {e e' : TypeId} {v v' : Value} {xs xs' : List Value} (h : w.ownsRow base e size v n xs) (h' : w.ownsRow base' e' size' v' n' xs') (he : e ≠ e') : v.ownBlock = none ∨ v.ownBlock ≠ v'.ownBlock := by
  rcases h.2 with ⟨rfl, _⟩ | ⟨g, cap, cur, rfl, _, hh, _⟩
  · exact .inl rfl
  · right
    intro q
    rcases h'.2 with ⟨rfl, _⟩ | ⟨g', cap', cur', rfl, _, hh', _⟩
    · simp [Value.ownBlock] at q
    · simp [Value.ownBlock] at q
      subst q
      rw [hh] at hh'
      injection hh' with hh'
      injection hh' with _ q _
      exact he q
theorem region_cut {P : Program} {c : Code} {Q : Exit → Act → World → Prop} {a : Act} {w : World} (Q0 : Act → Act → World → Prop) (h1 : c.wp P (fun e a' w' => e = .normal ∧ Q0 a a' w') a w) (h2 : ∀ a' w', Q0 a a' w' → Q .normal a' w') : c.wp P Q a w :=
  Code.wp_mono (fun e a' w' ⟨he, hq⟩ => by subst he; exact h2 a' w' hq) h1

theorem with_fact {p q : Prop} (h : p) (k : p → q) : q := k h
theorem heap_new' {w : World} {o : Obj} {k : Nat} (h : k = w.heap.size) : (w.alloc o).heap[k]? = some o := by subst h; exact heap_alloc_new w o
theorem heap_old' {w : World} {o v : Obj} {k : Nat} (h : w.heap[k]? = some v) : (w.alloc o).heap[k]? = some v := (Below.heap_alloc w o k (Array.getElem?_eq_some_iff.1 h).1).trans h
theorem heap_drew' {w : World} {v : Obj} {k : Nat} (h : w.heap[k]? = some v) : w.drew.heap[k]? = some v := h
theorem heap_grown {w w' : World} {row : Option Nat} {v : Obj} {k : Nat} (hg : w.grownBy w' row) (hne : some k ≠ row) (h : w.heap[k]? = some v) : w'.heap[k]? = some v := (hg.block k (Array.getElem?_eq_some_iff.1 h).1 hne).trans h
/-- A copy of texts, in an empty row that the call has laid. -/
theorem cp_strs {o : Oper} {a : Act} {K : Act → World → Prop} {Q : Exit → Act → World → Prop} (s x : Operand)
    (ho : o.op = .call { callee := .builtin .append, args := #[s, x], argTypes := #[22, 22] }) (w W0 : World) (g : Nat) (hcur : Below W0.heap.size W0 w) (hs : a.eval s = .slice (some ⟨g, 0, none⟩) 0 0)
    (A : Option Addr) (n : Nat) (l : List ByteArray) (hA : A = none → n = 0) (hx : a.eval x = .slice A l.length n) (hc : Es Value.string w w.heap.size A l) (hl : l.length ≤ 70) (hg : W0.heap.size ≤ g) (hh : w.heap[g]? = some (.cells #[] 9 (0, 0)))
    (h : ∀ A5 n5 w', w'.ownsRow W0.heap.size 9 1 (.slice A5 l.length n5) l.length (l.map Value.string) → w.grownBy w' (some g) → Below W0.heap.size W0 w' → K (a.put o.dst (.slice A5 l.length n5)) w') : o.wp Try.prog a w K Q := by
  refine wp_app_strs s x ho w W0.heap.size hcur.size _ [] hs (own_zero hg hh) A n l hA hx hc (by simp; omega) fun v' w' hown hgr => ?_
  rw [List.nil_append] at hown
  obtain ⟨A5, n5, rfl, _, _⟩ := own_es hown
  exact h A5 n5 w' hown hgr (hcur.grown hgr hcur.size (own_low (own_zero (size := 1) hg hh)))

/-- A copy of writes, behind a copy of texts: a disk of its own. -/
theorem cp_wrs {o : Oper} {a : Act} {K : Act → World → Prop} {Q : Exit → Act → World → Prop} (s x : Operand)
    (ho : o.op = .call { callee := .builtin .append, args := #[s, x], argTypes := #[23, 23] }) (w W0 : World) (g : Nat) (hcur : Below W0.heap.size W0 w) (hs : a.eval s = .slice (some ⟨g, 0, none⟩) 0 0)
    (A : Option Addr) (n : Nat) (l : List Wr) (hA : A = none → n = 0) (hx : a.eval x = .slice A l.length n) (hc : Ws w w.heap.size A l) (hl : l.length ≤ 100) (A5 : Option Addr) (n5 : Nat) (t : List ByteArray)
    (hO5 : w.ownsRow W0.heap.size 9 1 (.slice A5 t.length n5) t.length (t.map Value.string)) (hg : W0.heap.size ≤ g) (hh : w.heap[g]? = some (.cells #[] 45 (0, 0)))
    (h : ∀ B6 m6 w', Mem w' A5 n5 B6 m6 t l → w.grownBy w' (some g) → Below W0.heap.size W0 w' → K (a.put o.dst (.slice B6 l.length m6)) w') : o.wp Try.prog a w K Q := by
  have h0 := own_zero (size := 2) hg hh
  refine wp_app_wrs s x ho w W0.heap.size hcur.size _ [] hs h0 A n l hA hx hc (by simp; omega) fun v' w' hown hgr => ?_
  rw [List.nil_append] at hown
  obtain ⟨B6, m6, rfl, _, _⟩ := own_ws hown
  obtain ⟨e1, e2⟩ := own_ws2 hown
  obtain ⟨e3, e4⟩ := own_es2 (hO5.kept hgr (own_other hO5 h0 (by decide)))
  exact h B6 m6 w' ⟨e4, e2, e3, e1⟩ hgr (hcur.grown hgr hcur.size (own_low h0))

set_option maxHeartbeats 1000000 in
theorem writes_stop (A B : Option Addr) (n m : Nat) (s : List ByteArray) (c : List Wr) (f i : Int) (x : Bool) (d : ByteArray) (w : World) (hm : Mem w A n B m s c) 
    (hs : greatB s c = true ∨ (greatB s c = false ∧ 200 < (d.size : Int))) :
    Calls Try.prog 4 #[.agg #[.slice A s.length n, .slice B c.length m, .int .i64 f, .bool x], .int .i64 i, .string d] w (Yes w) := by
  have BX := Lib.hid (Box.new w [.slice A s.length n, .slice B c.length m, .int .i64 f, .bool x] 25)
  have HM := Lib.hid hm; clear hm
  have HS := Lib.hid hs; clear hs
  go_enter Try.func4, Try.ntmps4
  go_wp2_with fail
  refine (alive_any _).mono ?_
  rintro e w1 ⟨rfl, hb1⟩
  have k1 := (BX.out.below hb1).cell
  have HB := Lib.hid (ext below1 hb1)
  clear hb1 BX
  go_wp2_with fail
  refine (great_any A B n m s c f x _ (HM.out.up HB.out).es (HM.out.up HB.out).ws).mono ?_
  rintro e w2 ⟨rfl, hb2⟩
  have HB2 := Lib.hid (ext HB.out hb2)
  clear hb2
  rcases HS.out with hg | ⟨hg, hd⟩
  all_goals
    clear HS
    rw [hg]
    go_wp2_with fail
    go_ret
    exact ⟨rfl, HB2.out⟩

set_option maxHeartbeats 1000000 in
theorem writes_wrong (A B : Option Addr) (n m : Nat) (s : List ByteArray) (c : List Wr) (f i : Int) (x : Bool) (d : ByteArray) (w : World) (hm : Mem w A n B m s c) (h : greatB s c = false) (hd : (d.size : Int) ≤ 200) (hr : rightB s c f = false) :
    Calls Try.prog 4 #[.agg #[.slice A s.length n, .slice B c.length m, .int .i64 f, .bool x], .int .i64 i, .string d] w (Yes w) := by
  have BX := Lib.hid (Box.new w [.slice A s.length n, .slice B c.length m, .int .i64 f, .bool x] 25)
  have ML := Lib.hid (right_len h)
  have HM := Lib.hid hm; clear hm
  have HG := Lib.hid h; clear h
  have HR := Lib.hid hr; clear hr
  go_enter Try.func4, Try.ntmps4
  go_wp2_with fail
  refine (alive_any _).mono ?_
  rintro e w1 ⟨rfl, hb1⟩
  have k1 := (BX.out.below hb1).cell
  have b1 := Lib.hid (BX.out.below hb1)
  have HB := Lib.hid (ext below1 hb1)
  clear hb1 BX
  go_wp2_with fail
  refine (great_any A B n m s c f x _ (HM.out.up HB.out).es (HM.out.up HB.out).ws).mono ?_
  rintro e w2 ⟨rfl, hb2⟩
  rw [HG.out]
  have HB2 := Lib.hid (ext HB.out hb2)
  have k2 := (b1.out.below hb2).cell
  clear hb2 k1 b1
  go_wp2_with fail
  refine (rright_any A B n m s c f x _ (HM.out.up HB2.out).es (HM.out.up HB2.out).ws ML.out.2).mono ?_
  rintro e w3 ⟨rfl, hb3⟩
  rw [HR.out]
  have HB3 := Lib.hid (ext HB2.out hb3)
  clear hb3
  go_wp2_with fail
  go_ret
  exact ⟨rfl, HB3.out⟩

/-- A write by both sides. -/
theorem write_both (s : List ByteArray) (c : List Wr) (f i : Int) (x : Bool) (d : ByteArray) (hf : f < 9223372036854775808) (hc : c.length ≤ 1000) :
    ∃ c2 f2 x2 r2, c2.length ≤ 1001 ∧ (∀ A B n m w, Mem w A n B m s c → Calls Try.prog 16 #[.agg #[.slice A s.length n, .slice B c.length m, .int .i64 f, .bool x], .int .i64 i, .string d] w (GivesD s c2 f2 x2 r2 w)) ∧
      (∀ A B n m w, Mem w A n B m s c → Calls Try.prog 17 #[.agg #[.slice A s.length n, .slice B c.length m, .int .i64 f, .bool x], .int .i64 i, .string d] w (GivesD s c2 f2 x2 r2 w)) := by
  by_cases hr : reachE s.length i x = 0
  · by_cases hd : 64 < (d.size : Int)
    · exact ⟨c, f, x, 5, by omega, fun A B n m w hm => write_long A B n m s c f i x d w hm hr hd, fun A B n m w hm => rwrite_long A B n m s c f i x d w hm hr hd⟩
    · cases hb : burnD f x with
      | true => exact ⟨c, burnF f, true, 6, by omega, fun A B n m w hm => write_dies A B n m s c f i x d w hm hr hd hf hb, fun A B n m w hm => rwrite_dies A B n m s c f i x d w hm hr hd hf hb⟩
      | false => exact ⟨c ++ [(i, d)], burnF f, false, 0, by simp; omega, fun A B n m w hm => write_any A B n m s c f i x d w hm hr hd hf hb hc, fun A B n m w hm => rwrite_any A B n m s c f i x d w hm hr hd hf hb hc⟩
  · exact ⟨c, f, x, reachE s.length i x, by omega, fun A B n m w hm => write_stops A B n m s c f i x d w hm hr, fun A B n m w hm => rwrite_stops A B n m s c f i x d w hm hr⟩

/-- A read by both sides. -/
theorem read_both (s : List ByteArray) (c : List Wr) (f i : Int) (x : Bool) (hc : c.length ≤ 1000) :
    ∃ t r, (∀ A B n m w, Mem w A n B m s c → Calls Try.prog 18 #[.agg #[.slice A s.length n, .slice B c.length m, .int .i64 f, .bool x], .int .i64 i] w fun e w' => e = .returned (.tuple #[.string t, .int .i64 r]) ∧ Below w.heap.size w w') ∧
      (∀ A B n m w, Mem w A n B m s c → Calls Try.prog 19 #[.agg #[.slice A s.length n, .slice B c.length m, .int .i64 f, .bool x], .int .i64 i] w fun e w' => e = .returned (.tuple #[.string t, .int .i64 r]) ∧ Below w.heap.size w w') := by
  by_cases hr : reachE s.length i x = 0
  · obtain ⟨rfl, h0, h1⟩ := reach_zero hr
    obtain ⟨k, rfl⟩ := Int.eq_ofNat_of_zero_le h0
    have hk : k < s.length := by omega
    exact ⟨holdsL c k s[k], 0, fun A B n m w hm => read_any A B n m s c f k s[k] w hm (List.getElem?_eq_getElem hk) (by omega), fun A B n m w hm => rread_any A B n m s c f k s[k] w hm (List.getElem?_eq_getElem hk) (by unfold maxLen; omega)⟩
  · exact ⟨⟨#[]⟩, reachE s.length i x, fun A B n m w _ => read_stops A B n m s c f i x w hr, fun A B n m w _ => rread_stops A B n m s c f i x w hr⟩

/-- A flush by both sides. -/
theorem flush_both (s : List ByteArray) (c : List Wr) (f : Int) (x : Bool) (hf : f < 9223372036854775808) (hl : s.length ≤ 64) (hc : c.length ≤ 1000) (hx : c.any (misfitW s.length) = false) :
    ∃ s2 c2 f2 x2 r2, s2.length ≤ 64 ∧ c2.length ≤ 1000 ∧ (∀ A B n m w, Mem w A n B m s c → Calls Try.prog 20 #[.agg #[.slice A s.length n, .slice B c.length m, .int .i64 f, .bool x]] w (GivesD s2 c2 f2 x2 r2 w)) ∧
      (∀ A B n m w, Mem w A n B m s c → Calls Try.prog 21 #[.agg #[.slice A s.length n, .slice B c.length m, .int .i64 f, .bool x]] w (GivesD s2 c2 f2 x2 r2 w)) := by
  have gd : ∀ {A B : Option Addr} {n m : Nat} {w : World} {f2 : Int} {x2 : Bool} {r2 : Int} {e : Ending} {w' : World}, Mem w A n B m s c → (e = .returned (.tuple #[.agg #[.slice A s.length n, .slice B c.length m, .int .i64 f2, .bool x2], .int .i64 r2]) ∧ Below w.heap.size w w') → GivesD s c f2 x2 r2 w e w' := by
    rintro A B n m w f2 x2 r2 e w' hm ⟨rfl, hb⟩
    exact gives_same hm hb
  cases x with
  | true => exact ⟨s, c, f, true, 6, hl, hc, fun A B n m w hm => (flush_dead A B s.length n c.length m f w).mono fun e w' h => gd hm h, fun A B n m w hm => (rflush_dead A B s.length n c.length m f w).mono fun e w' h => gd hm h⟩
  | false =>
    by_cases h1 : f = 1
    · subst h1
      exact ⟨s, c, 0, true, 6, hl, hc, fun A B n m w hm => (flush_dies A B s.length n c.length m w).mono fun e w' h => gd hm h, fun A B n m w hm => (rflush_dies A B s.length n c.length m w).mono fun e w' h => gd hm h⟩
    · exact ⟨layL s c, [], burnF f, false, 0, by rw [lay_length]; exact hl, by simp, fun A B n m w hm => flush_any A B n m s c f w hm hl (by unfold maxLen; omega) hf h1 hx, fun A B n m w hm => rflush_any A B n m s c f w hm hl (by unfold maxLen; omega) hf h1 hx⟩

set_option maxHeartbeats 60000000 in
theorem writes_any (A B : Option Addr) (n m : Nat) (s : List ByteArray) (c : List Wr) (f i : Int) (x : Bool) (d : ByteArray) (w : World) (hm : Mem w A n B m s c) (h : greatB s c = false) (hd : (d.size : Int) ≤ 200) (hr : rightB s c f = true) (hf : f < 9223372036854775808) :
    Calls Try.prog 4 #[.agg #[.slice A s.length n, .slice B c.length m, .int .i64 f, .bool x], .int .i64 i, .string d] w (Yes w) := by
  have BX := Lib.hid (Box.new w [.slice A s.length n, .slice B c.length m, .int .i64 f, .bool x] 25)
  have ML := Lib.hid (right_len h)
  have hg := great_small h
  have hl1 : s.length ≤ 70 ∧ c.length ≤ 100 := by omega
  obtain ⟨_, hs64, _, _, hxx⟩ := right_of hr
  obtain ⟨cW, fW, xW, rW, hWl, hW1, hW2⟩ := write_both s c f i x d hf (by omega)
  obtain ⟨tR, rR, hR1, hR2⟩ := read_both s c f i x (by omega)
  obtain ⟨sF, cF, fF, xF, rF, hFs, hFc, hF1, hF2⟩ := flush_both s c f x hf hs64 (by omega) hxx
  have HWL := Lib.hid hWl; clear hWl
  have HW1 := Lib.hid hW1; clear hW1
  have HW2 := Lib.hid hW2; clear hW2
  have HR1 := Lib.hid hR1; clear hR1
  have HR2 := Lib.hid hR2; clear hR2
  have HFL := Lib.hid (And.intro hFs hFc); clear hFs hFc
  have HF1 := Lib.hid hF1; clear hF1
  have HF2 := Lib.hid hF2; clear hF2
  clear hs64 hxx hf
  have HL := Lib.hid hl1; clear hl1 hg
  have HM := Lib.hid hm; clear hm
  have HG := Lib.hid h; clear h
  have HR := Lib.hid hr; clear hr
  go_enter Try.func4, Try.ntmps4
  go_wp2_with fail
  refine (alive_any _).mono ?_
  rintro e w1 ⟨rfl, hb1⟩
  have k1 := (BX.out.below hb1).cell
  have b1 := Lib.hid (BX.out.below hb1)
  have HB := Lib.hid (ext below1 hb1)
  clear hb1 BX
  go_wp2_with fail
  refine (great_any A B n m s c f x _ (HM.out.up HB.out).es (HM.out.up HB.out).ws).mono ?_
  rintro e w2 ⟨rfl, hb2⟩
  rw [HG.out]
  have HB2 := Lib.hid (ext HB.out hb2)
  have b2 := Lib.hid (b1.out.below hb2)
  have k2 := b2.out.cell
  clear hb2 k1 b1 HB
  go_wp2_with fail
  refine (rright_any A B n m s c f x _ (HM.out.up HB2.out).es (HM.out.up HB2.out).ws ML.out.2).mono ?_
  rintro e W0 ⟨rfl, hb3⟩
  rw [HR.out]
  have HB3 := Lib.hid (ext HB2.out hb3)
  have HBO := Lib.hid (b2.out.below hb3)
  have hkeep : ∀ w', Below W0.heap.size W0 w' → (∀ j, w'.cell? ⟨w.heap.size, j, none⟩ = [Value.slice A s.length n, .slice B c.length m, .int .i64 f, .bool x][j]?) := fun w' hb => (HBO.out.below hb).cell
  have HK := Lib.hid hkeep; clear hkeep
  have HM0 := Lib.hid (HM.out.up HB3.out)
  clear hb3 k2 b2 HB2
  go_wp2_with fail
  refine region_cut (fun a a' w' => ∃ (A5 B6 : Option Addr) (n5 m6 yb : Nat) (v34 v38 : Value), a' = ((((((((((((((a.put (some 34) v34).put (some 35) (.pointer (some ⟨w.heap.size, 0, none⟩))).put (some 36) (.slice A s.length n)).put (some 37) (.slice A5 s.length n5)).put (some 38) v38).put (some 39) (.pointer (some ⟨w.heap.size, 1, none⟩))).put (some 40) (.slice B c.length m)).put (some 41) (.slice B6 c.length m6)).put (some 42) (.pointer (some ⟨w.heap.size, 2, none⟩))).put (some 43) (.int .i64 f)).put (some 44) (.pointer (some ⟨w.heap.size, 3, none⟩))).put (some 45) (.bool x)).put (some 46) (.agg #[.slice A5 s.length n5, .slice B6 c.length m6, .int .i64 f, .bool x])).put (some 7) (.pointer (some ⟨yb, 0, none⟩))) ∧
    Box w' yb [.slice A5 s.length n5, .slice B6 c.length m6, .int .i64 f, .bool x] ∧ Mem w' A5 n5 B6 m6 s c ∧ Below W0.heap.size W0 w') ?reg ?rest
  case reg =>
    go_region_held3 (fun w' => Below W0.heap.size W0 w' ∧ (∀ j, w'.cell? ⟨w.heap.size, j, none⟩ = [Value.slice A s.length n, .slice B c.length m, .int .i64 f, .bool x][j]?))
      ((refine (fun h => ⟨h, HK.out _ h⟩) ?_; repeat (first | assumption | exact Below.refl _ _ | refine Below.drew ?_ | refine ext_alloc ?_ _ | (refine below4 ?_ ?_ _ _ _ _; rotate_left; (focus (have := hB5.size; omega))))))
      (first
        | (rw [if_pos (by rfl)]; obtain ⟨hcur, _⟩ := ‹Below W0.heap.size W0 _ ∧ _›; refine cp_strs _ _ rfl _ W0 _ hcur rfl A n s HM0.out.an rfl (HM0.out.up hcur).es HL.out.1 ?_ ?_ ?_; (focus (omega)); (focus ((repeat (first | (focus ((with_reducible refine heap_new' ?_); simp; done)) | (with_reducible refine heap_drew' ?_) | (with_reducible refine heap_old' ?_))); done)); intro A5 n5 w5 hown hg5 hB5; have HO5 := Lib.hid hown; clear hown)
        | (rw [if_pos (by rfl)]; obtain ⟨hcur, _⟩ := ‹Below W0.heap.size W0 _ ∧ _›; refine cp_wrs _ _ rfl _ W0 _ hcur rfl B m c HM0.out.bn rfl (HM0.out.up hcur).ws HL.out.2 A5 n5 s ?_ ?_ ?_ ?_; (focus (repeat (first | exact HO5.out | refine World.ownsRow.alloc ?_ _))); (focus (have := hB5.size; omega)); (focus ((repeat (first | (focus ((with_reducible refine heap_new' ?_); simp; done)) | (with_reducible refine heap_drew' ?_) | (with_reducible refine heap_old' ?_) | ((with_reducible refine heap_grown hg5 ?_ ?_); (focus (intro e; injection e with e; omega))))); done)); intro B6 m6 w6 hm6 hg6 hB6; have HM6 := Lib.hid hm6; clear hm6; first | (refine with_fact (p := w6.heap[W0.heap.size]? = some (.cells #[.slice none 0 0, .slice none 0 0, .int .i64 0, .bool false] 25 (0, 0))) ?_ ?_; (focus (refine heap_grown hg6 ?_ ?_; (focus (first | (intro e; injection e with e; omega) | (have := hg5.size; simp at this; intro e; injection e with e; omega))); (repeat (first | (focus ((with_reducible refine heap_new' ?_); simp; done)) | with_reducible refine heap_drew' ?_ | with_reducible refine heap_old' ?_ | ((with_reducible refine heap_grown hg5 ?_ ?_); (focus (intro e; injection e with e; omega))))); done)); intro hz; have by6 : Box w6 (W0.heap.size) [.slice none 0 0, .slice none 0 0, .int .i64 0, .bool false] := ⟨25, hz⟩; have ky := by6.cell; have zy := by6.frozen; clear hz) | (refine with_fact (p := w6.heap[W0.heap.size + 1]? = some (.cells #[.slice none 0 0, .slice none 0 0, .int .i64 0, .bool false] 25 (0, 0))) ?_ ?_; (focus (refine heap_grown hg6 ?_ ?_; (focus (first | (intro e; injection e with e; omega) | (have := hg5.size; simp at this; intro e; injection e with e; omega))); (repeat (first | (focus ((with_reducible refine heap_new' ?_); simp; done)) | with_reducible refine heap_drew' ?_ | with_reducible refine heap_old' ?_ | ((with_reducible refine heap_grown hg5 ?_ ?_); (focus (intro e; injection e with e; omega))))); done)); intro hz; have by6 : Box w6 (W0.heap.size + 1) [.slice none 0 0, .slice none 0 0, .int .i64 0, .bool false] := ⟨25, hz⟩; have ky := by6.cell; have zy := by6.frozen; clear hz) | (refine with_fact (p := w6.heap[W0.heap.size + 1 + 1]? = some (.cells #[.slice none 0 0, .slice none 0 0, .int .i64 0, .bool false] 25 (0, 0))) ?_ ?_; (focus (refine heap_grown hg6 ?_ ?_; (focus (first | (intro e; injection e with e; omega) | (have := hg5.size; simp at this; intro e; injection e with e; omega))); (repeat (first | (focus ((with_reducible refine heap_new' ?_); simp; done)) | with_reducible refine heap_drew' ?_ | with_reducible refine heap_old' ?_ | ((with_reducible refine heap_grown hg5 ?_ ?_); (focus (intro e; injection e with e; omega))))); done)); intro hz; have by6 : Box w6 (W0.heap.size + 1 + 1) [.slice none 0 0, .slice none 0 0, .int .i64 0, .bool false] := ⟨25, hz⟩; have ky := by6.cell; have zy := by6.frozen; clear hz) | (refine with_fact (p := w6.heap[w5.heap.size]? = some (.cells #[.slice none 0 0, .slice none 0 0, .int .i64 0, .bool false] 25 (0, 0))) ?_ ?_; (focus (refine heap_grown hg6 ?_ ?_; (focus (first | (intro e; injection e with e; omega) | (have := hg5.size; simp at this; intro e; injection e with e; omega))); (repeat (first | (focus ((with_reducible refine heap_new' ?_); simp; done)) | with_reducible refine heap_drew' ?_ | with_reducible refine heap_old' ?_ | ((with_reducible refine heap_grown hg5 ?_ ?_); (focus (intro e; injection e with e; omega))))); done)); intro hz; have by6 : Box w6 (w5.heap.size) [.slice none 0 0, .slice none 0 0, .int .i64 0, .bool false] := ⟨25, hz⟩; have ky := by6.cell; have zy := by6.frozen; clear hz) | (refine with_fact (p := w6.heap[w5.heap.size + 1]? = some (.cells #[.slice none 0 0, .slice none 0 0, .int .i64 0, .bool false] 25 (0, 0))) ?_ ?_; (focus (refine heap_grown hg6 ?_ ?_; (focus (first | (intro e; injection e with e; omega) | (have := hg5.size; simp at this; intro e; injection e with e; omega))); (repeat (first | (focus ((with_reducible refine heap_new' ?_); simp; done)) | with_reducible refine heap_drew' ?_ | with_reducible refine heap_old' ?_ | ((with_reducible refine heap_grown hg5 ?_ ?_); (focus (intro e; injection e with e; omega))))); done)); intro hz; have by6 : Box w6 (w5.heap.size + 1) [.slice none 0 0, .slice none 0 0, .int .i64 0, .bool false] := ⟨25, hz⟩; have ky := by6.cell; have zy := by6.frozen; clear hz) | skip))
    all_goals
      obtain ⟨hcur, _⟩ := ‹Below W0.heap.size W0 _ ∧ _›
      refine ⟨rfl, A5, B6, n5, m6, ?_, ?_, ?_, ?_, ?_, ?_, hcur⟩
      rotate_left 3
      (focus (first | rfl | (simp only [Act.put, List.setIfInBounds_toArray, List.set_cons_zero, List.set_cons_succ]; rfl)))
      (focus (first | exact by6.four _ _ _ _ | exact Box.new _ _ _))
      (focus (first | exact mem_past4 by6 HM6.out _ _ _ _ | exact HM6.out.up below1))
  case rest =>
    rintro a' w' ⟨A5, B6, n5, m6, yb, v34, v38, rfl, hbox, hm5, hb5⟩
    simp only [Act.put, List.setIfInBounds_toArray, List.set_cons_zero, List.set_cons_succ]
    have Y0 : Hid (Kept w' yb A5 n5 B6 m6 s c f x) := ⟨hm5, hbox⟩
    have O0 : Hid (Kept w' w.heap.size A n B m s c f x) := ⟨HM0.out.up hb5, HBO.out.below hb5⟩
    have H0 := Lib.hid (ext HB3.out hb5)
    have k0 := Y0.out.box.cell
    clear hbox hm5 hb5 HBO HM0 HB3 HK
    go_wp2_with fail
    refine (HW1.out _ _ _ _ _ Y0.out.mem).mono ?_
    rintro e w7 ⟨A7, B7, n7, m7, rfl, hm7, hb7⟩
    have Y1 := Lib.hid ((Y0.out.up hb7).up (below1 (o := .cells #[.slice A7 s.length n7, .slice B7 cW.length m7, .int .i64 fW, .bool xW] 25)))
    have O1 := Lib.hid ((O0.out.up hb7).up (below1 (o := .cells #[.slice A7 s.length n7, .slice B7 cW.length m7, .int .i64 fW, .bool xW] 25)))
    have P1 := Lib.hid (Kept.new (f := fW) (x := xW) hm7)
    have H1 := Lib.hid (ext_alloc (ext H0.out hb7) (.cells #[.slice A7 s.length n7, .slice B7 cW.length m7, .int .i64 fW, .bool xW] 25))
    have k1 := O1.out.box.cell
    clear hm7 hb7 Y0 O0 H0 k0 HW1
    go_wp2_with fail
    refine (HW2.out _ _ _ _ _ O1.out.mem).mono ?_
    rintro e w8 ⟨A8, B8, n8, m8, rfl, hm8, hb8⟩
    have Y2 := Lib.hid ((Y1.out.up hb8).up (below1 (o := .cells #[.slice A8 s.length n8, .slice B8 cW.length m8, .int .i64 fW, .bool xW] 25)))
    have O2 := Lib.hid ((O1.out.up hb8).up (below1 (o := .cells #[.slice A8 s.length n8, .slice B8 cW.length m8, .int .i64 fW, .bool xW] 25)))
    have P2 := Lib.hid ((P1.out.up hb8).up (below1 (o := .cells #[.slice A8 s.length n8, .slice B8 cW.length m8, .int .i64 fW, .bool xW] 25)))
    have R2 := Lib.hid (Kept.new (f := fW) (x := xW) hm8)
    have H2 := Lib.hid (ext_alloc (ext H1.out hb8) (.cells #[.slice A8 s.length n8, .slice B8 cW.length m8, .int .i64 fW, .bool xW] 25))
    have k2 := Y2.out.box.cell
    clear hm8 hb8 Y1 O1 P1 H1 k1 HW2
    go_wp2_with fail
    refine (HR1.out _ _ _ _ _ Y2.out.mem).mono ?_
    rintro e w9 ⟨rfl, hb9⟩
    have Y3 := Lib.hid (Y2.out.up hb9)
    have O3 := Lib.hid (O2.out.up hb9)
    have P3 := Lib.hid (P2.out.up hb9)
    have R3 := Lib.hid (R2.out.up hb9)
    have H3 := Lib.hid (ext H2.out hb9)
    have k3 := O3.out.box.cell
    clear hb9 Y2 O2 P2 R2 H2 k2 HR1
    go_wp2_with fail
    refine (HR2.out _ _ _ _ _ O3.out.mem).mono ?_
    rintro e w10 ⟨rfl, hb10⟩
    have Y4 := Lib.hid (Y3.out.up hb10)
    have O4 := Lib.hid (O3.out.up hb10)
    have P4 := Lib.hid (P3.out.up hb10)
    have R4 := Lib.hid (R3.out.up hb10)
    have H4 := Lib.hid (ext H3.out hb10)
    have k4 := Y4.out.box.cell
    clear hb10 Y3 O3 P3 R3 H3 k3 HR2
    go_wp2_with fail
    refine (HF1.out _ _ _ _ _ Y4.out.mem).mono ?_
    rintro e w11 ⟨A11, B11, n11, m11, rfl, hm11, hb11⟩
    have Y5 := Lib.hid ((Y4.out.up hb11).up (below1 (o := .cells #[.slice A11 sF.length n11, .slice B11 cF.length m11, .int .i64 fF, .bool xF] 25)))
    have O5 := Lib.hid ((O4.out.up hb11).up (below1 (o := .cells #[.slice A11 sF.length n11, .slice B11 cF.length m11, .int .i64 fF, .bool xF] 25)))
    have P5 := Lib.hid ((P4.out.up hb11).up (below1 (o := .cells #[.slice A11 sF.length n11, .slice B11 cF.length m11, .int .i64 fF, .bool xF] 25)))
    have R5 := Lib.hid ((R4.out.up hb11).up (below1 (o := .cells #[.slice A11 sF.length n11, .slice B11 cF.length m11, .int .i64 fF, .bool xF] 25)))
    have U5 := Lib.hid (Kept.new (f := fF) (x := xF) hm11)
    have H5 := Lib.hid (ext_alloc (ext H4.out hb11) (.cells #[.slice A11 sF.length n11, .slice B11 cF.length m11, .int .i64 fF, .bool xF] 25))
    have k5 := O5.out.box.cell
    clear hm11 hb11 Y4 O4 P4 R4 H4 k4 HF1
    go_wp2_with fail
    refine (HF2.out _ _ _ _ _ O5.out.mem).mono ?_
    rintro e w12 ⟨A12, B12, n12, m12, rfl, hm12, hb12⟩
    have Y6 := Lib.hid ((Y5.out.up hb12).up (below1 (o := .cells #[.slice A12 sF.length n12, .slice B12 cF.length m12, .int .i64 fF, .bool xF] 25)))
    have O6 := Lib.hid ((O5.out.up hb12).up (below1 (o := .cells #[.slice A12 sF.length n12, .slice B12 cF.length m12, .int .i64 fF, .bool xF] 25)))
    have P6 := Lib.hid ((P5.out.up hb12).up (below1 (o := .cells #[.slice A12 sF.length n12, .slice B12 cF.length m12, .int .i64 fF, .bool xF] 25)))
    have R6 := Lib.hid ((R5.out.up hb12).up (below1 (o := .cells #[.slice A12 sF.length n12, .slice B12 cF.length m12, .int .i64 fF, .bool xF] 25)))
    have U6 := Lib.hid ((U5.out.up hb12).up (below1 (o := .cells #[.slice A12 sF.length n12, .slice B12 cF.length m12, .int .i64 fF, .bool xF] 25)))
    have V6 := Lib.hid (Kept.new (f := fF) (x := xF) hm12)
    have H6 := Lib.hid (ext_alloc (ext H5.out hb12) (.cells #[.slice A12 sF.length n12, .slice B12 cF.length m12, .int .i64 fF, .bool xF] 25))
    have k6 := P6.out.box.cell
    have j6 := R6.out.box.cell
    clear hm12 hb12 Y5 O5 P5 R5 U5 H5 k5 HF2
    go_wp2_with fail
    have hsame1 := rsame_any A7 B7 A8 B8 n7 m7 n8 m8 s s cW cW fW fW xW xW _ P6.out.mem.es P6.out.mem.ws R6.out.mem.es R6.out.mem.ws ML.out.1 (by have := HWL.out; unfold maxLen; omega)
    rw [same_is rfl rfl rfl rfl] at hsame1
    refine hsame1.mono ?_
    clear hsame1
    rintro e w13 ⟨rfl, hb13⟩
    have Y7 := Lib.hid (Y6.out.up hb13)
    have O7 := Lib.hid (O6.out.up hb13)
    have U7 := Lib.hid (U6.out.up hb13)
    have V7 := Lib.hid (V6.out.up hb13)
    have H7 := Lib.hid (ext H6.out hb13)
    have k7 := U7.out.box.cell
    have j7 := V7.out.box.cell
    clear hb13 Y6 O6 P6 R6 U6 V6 H6 k6 j6
    go_wp2_with fail
    have hsame2 := rsame_any A11 B11 A12 B12 n11 m11 n12 m12 sF sF cF cF fF fF xF xF _ U7.out.mem.es U7.out.mem.ws V7.out.mem.es V7.out.mem.ws (by have := HFL.out; unfold maxLen; omega) (by have := HFL.out; unfold maxLen; omega)
    rw [same_is rfl rfl rfl rfl] at hsame2
    refine hsame2.mono ?_
    clear hsame2
    rintro e w14 ⟨rfl, hb14⟩
    have Y8 := Lib.hid (Y7.out.up hb14)
    have O8 := Lib.hid (O7.out.up hb14)
    have H8 := Lib.hid (ext H7.out hb14)
    have k8 := Y8.out.box.cell
    have j8 := O8.out.box.cell
    clear hb14 Y7 O7 U7 V7 H7 k7 j7
    go_wp2_with fail
    have hsame3 := rsame_any A5 B6 A B n5 m6 n m s s c c f f x x _ Y8.out.mem.es Y8.out.mem.ws O8.out.mem.es O8.out.mem.ws ML.out.1 ML.out.2
    rw [same_is rfl rfl rfl rfl] at hsame3
    refine hsame3.mono ?_
    clear hsame3
    rintro e w15 ⟨rfl, hb15⟩
    have H9 := Lib.hid (ext H8.out hb15)
    clear hb15 Y8 O8 H8 k8 j8
    go_wp2_with fail
    go_ret
    exact ⟨rfl, H9.out⟩

theorem writes_law (A B : Option Addr) (n m : Nat) (s : List ByteArray) (c : List Wr) (f i : Int) (x : Bool) (d : ByteArray) (w : World) (hm : Mem w A n B m s c) (hf : f < 9223372036854775808) :
    Calls Try.prog 4 #[.agg #[.slice A s.length n, .slice B c.length m, .int .i64 f, .bool x], .int .i64 i, .string d] w (Yes w) := by
  cases h : greatB s c with
  | true => exact writes_stop A B n m s c f i x d w hm (.inl h)
  | false =>
    by_cases hd : 200 < (d.size : Int)
    · exact writes_stop A B n m s c f i x d w hm (.inr ⟨h, hd⟩)
    · cases hr : rightB s c f with
      | false => exact writes_wrong A B n m s c f i x d w hm h (by omega) hr
      | true => exact writes_any A B n m s c f i x d w hm h (by omega) hr hf
end Go.Proofs.Ytifcmpcgpcbljaa
