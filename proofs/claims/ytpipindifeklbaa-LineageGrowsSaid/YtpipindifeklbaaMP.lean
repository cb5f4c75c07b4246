/- Maps of the call's own, keyed by numbers of 64 bits: what a look-up finds and what a store leaves, said by a function of the key; a list with more in one block, a slot that an own row grows by. No condition. -/
import Derived.Test.YtpipindifeklbaaBase
import Derived.Maps.OwnSet
namespace Go.Proofs.Ytpipindifeklbaa
open Go.RowKit Go.Maps

theorem keyU : Keyed Try.prog 23 := int_keyed Try.underlying23

/-- A number of 64 bits. -/
def U64 (a : Int) : Prop := (Lit.int .u64 a).wf = true

theorem key_u {a : Int} (h : U64 a) : keyOf Try.prog 23 (.int .u64 a) = some (.int .u64 a) := keyOf_int_mk Try.underlying23 h

theorem isKey_u {a : Int} (h : U64 a) : WideAt.IsKeyLit (.int .u64 a) := keyU.key (key_u h)

theorem zero_b (w : World) : (zeroValue 4).run Try.prog w = .ok (.bool false) w := by kernel_rfl
theorem zero_u (w : World) : (zeroValue 23).run Try.prog w = .ok (.int .u64 0) w := by kernel_rfl

/-- Block b is a map from numbers to bools, of at most n entries: what it answers for each number. -/
def MB (w : World) (b n : Nat) (f : Int → Bool) : Prop :=
  ∃ D : DataW Unit, w.ownsMap Try.prog 23 (plainElem Try.prog 4) b n D ∧ ∀ k, D.atKey (.int .u64 k) (.lit (.bool false)) = .lit (.bool (f k))

/-- Block b is a map from numbers to numbers, of at most n entries: what it answers for each number, and for which it has one. -/
def MU (w : World) (b n : Nat) (f : Int → Int) (g : Int → Bool) : Prop :=
  ∃ D : DataW Unit, w.ownsMap Try.prog 23 (plainElem Try.prog 23) b n D ∧ (∀ k, D.atKey (.int .u64 k) (.lit (.int .u64 0)) = .lit (.int .u64 (f k))) ∧ ∀ k, Maps.has D (.int .u64 k) = g k

theorem ownsMap_below {w w' : World} {k : TypeId} {R : Value → Option (DataW Unit × List MemPlace)} {b n : Nat} {D : DataW Unit} (h : w.ownsMap Try.prog k R b n D) (hb : Below w.heap.size w w') : w'.ownsMap Try.prog k R b n D := by
  have hlt := h.lt
  obtain ⟨es, clock, h0, r⟩ := h
  exact ⟨es, clock, (hb.block b hlt).trans h0, r⟩

theorem mb_made (w : World) : MB (w.alloc (.map #[] 0)) w.heap.size 0 (fun _ => false) := ⟨.map [], World.ownsMap_made _ _ _ _, fun _ => rfl⟩
theorem mu_made (w : World) : MU (w.alloc (.map #[] 0)) w.heap.size 0 (fun _ => 0) (fun _ => false) := ⟨.map [], World.ownsMap_made _ _ _ _, fun _ => rfl, fun _ => rfl⟩

section
variable {w w' : World} {b n : Nat} {f : Int → Bool} {q : Int → Int} {g : Int → Bool}
theorem MB.lt (h : MB w b n f) : b < w.heap.size := by obtain ⟨D, h, _⟩ := h; exact h.lt
theorem MU.lt (h : MU w b n q g) : b < w.heap.size := by obtain ⟨D, h, _⟩ := h; exact h.lt
theorem MB.up (h : MB w b n f) (hb : Below w.heap.size w w') : MB w' b n f := by obtain ⟨D, h, r⟩ := h; exact ⟨D, ownsMap_below h hb, r⟩
theorem MU.up (h : MU w b n q g) (hb : Below w.heap.size w w') : MU w' b n q g := by obtain ⟨D, h, r⟩ := h; exact ⟨D, ownsMap_below h hb, r⟩
theorem MB.grown {row : Option Nat} (h : MB w b n f) (hg : w.grownBy w' row) (hne : some b ≠ row) : MB w' b n f := by obtain ⟨D, h, r⟩ := h; exact ⟨D, h.kept hg hne, r⟩
theorem MU.grown {row : Option Nat} (h : MU w b n q g) (hg : w.grownBy w' row) (hne : some b ≠ row) : MU w' b n q g := by obtain ⟨D, h, r⟩ := h; exact ⟨D, h.kept hg hne, r⟩
theorem MB.lay (h : MB w b n f) (o : Obj) : MB (w.alloc o) b n f := h.up below1
theorem MU.lay (h : MU w b n q g) (o : Obj) : MU (w.alloc o) b n q g := h.up below1
theorem MB.like {f' : Int → Bool} (h : MB w b n f) (e : ∀ k, f k = f' k) : MB w b n f' := by obtain ⟨D, h, r⟩ := h; exact ⟨D, h, fun k => by rw [r, e]⟩
end

section
variable (w : World) {ops : Array Oper} {rest : List Oper} {o : Oper} {a : Act} {Q : Exit → Act → World → Prop}

/-- 'm[k]', of bools. -/
theorem look_b (hg : o.guard = none) (m x : Operand) (hop : o.op = Op.lookup 34 m x false) {b n : Nat} {f : Int → Bool} (hm : a.eval m = .map (some b)) (h : MB w b n f) {k : Int} (hx : a.eval x = .int .u64 k) (hk : U64 k) {y : Bool} (hy : f k = y)
    (hK : wpList Try.prog ops Q rest (a.put o.dst (.bool y)) w) : wpList Try.prog ops Q (o :: rest) a w := by
  subst hy
  obtain ⟨D, hown, hf⟩ := h
  refine wpList_plain hg fun K' hK' => ?_
  obtain ⟨v, ps, hrun, hv⟩ := hown.lookup keyU Try.underlying34 (zero_b w) (plainElem_bool Try.underlying4 false) (key_u hk)
  rw [hf k] at hv
  have e : v = .bool (f k) := by
    unfold plainElem at hv
    rw [Try.underlying4] at hv
    cases v <;> simp at hv
    rw [hv.1]
  subst e
  unfold Oper.wp
  simp [execOp, hop, hm, hx, hrun, Result.andThen]
  exact hK' _ _ hK

/-- 'm[k]', of numbers. -/
theorem look_u (hg : o.guard = none) (m x : Operand) (hop : o.op = Op.lookup 35 m x false) {b n : Nat} {f : Int → Int} {g : Int → Bool} (hm : a.eval m = .map (some b)) (h : MU w b n f g) {k : Int} (hx : a.eval x = .int .u64 k) (hk : U64 k) {y : Int} (hy : f k = y)
    (hK : wpList Try.prog ops Q rest (a.put o.dst (.int .u64 y)) w) : wpList Try.prog ops Q (o :: rest) a w := by
  subst hy
  obtain ⟨D, hown, hf, _⟩ := h
  refine wpList_lookup_own_int w hg m x _ hop _ _ .u64 keyU Try.underlying35 Try.underlying23 (zero_u w) b n D hm hown _ _ hx (key_u hk) ?_
  intro c hc _
  rw [hf k] at hc
  injection hc with hc
  injection hc with _ hc
  subst hc
  exact hK

/-- 'v, ok := m[k]', of numbers. -/
theorem look_ok (hg : o.guard = none) (m x : Operand) (hop : o.op = Op.lookup 35 m x true) {b n : Nat} {f : Int → Int} {g : Int → Bool} (hm : a.eval m = .map (some b)) (h : MU w b n f g) {k : Int} (hx : a.eval x = .int .u64 k) (hk : U64 k) {y : Int} (hy : f k = y) {z : Bool} (hz : g k = z)
    (hK : wpList Try.prog ops Q rest (a.put o.dst (.tuple #[.int .u64 y, .bool z])) w) : wpList Try.prog ops Q (o :: rest) a w := by
  subst hy
  subst hz
  obtain ⟨D, hown, hf, hh⟩ := h
  refine wpList_lookup_own_ok_int w hg m x _ hop _ _ .u64 keyU Try.underlying35 Try.underlying23 (zero_u w) b n D hm hown _ _ hx (key_u hk) ?_
  intro c hc _
  rw [hf k] at hc
  injection hc with hc
  injection hc with _ hc
  subst hc
  rw [hh k]
  exact hK

theorem put_at {H : Type} {D : DataW H} (hD : IsMap D) {k : Int} (hk : U64 k) (d z : DataW H) (x : Int) : (D.put (.int .u64 k) d).atKey (.int .u64 x) z = if x = k then d else D.atKey (.int .u64 x) z := by
  by_cases e : x = k
  · subst e
    rw [if_pos rfl, atKey_put_same hD (isKey_u hk)]
  · rw [if_neg e, atKey_put_other (fun q => e (by injection q))]

theorem put_has {H : Type} {D : DataW H} (hD : IsMap D) {k : Int} (hk : U64 k) (d : DataW H) (x : Int) : Maps.has (D.put (.int .u64 k) d) (.int .u64 x) = if x = k then true else Maps.has D (.int .u64 x) := by
  by_cases e : x = k
  · subst e
    rw [if_pos rfl, has_put_same hD (isKey_u hk)]
  · rw [if_neg e, has_put_other (fun q => e (by injection q))]

/-- 'm[k] = v', of bools. -/
theorem put_b (hg : o.guard = none) (m x v : Operand) (hop : o.op = Op.mapUpdate 34 m x v) {b n : Nat} {f : Int → Bool} (hm : a.eval m = .map (some b)) (h : MB w b n f) (hn : n < maxLen) {k : Int} {y : Bool} (hx : a.eval x = .int .u64 k) (hv : a.eval v = .bool y) (hk : U64 k)
    (hK : ∀ w', MB w' b (n + 1) (fun z => if z = k then y else f z) → w.grownBy w' (some b) → wpList Try.prog ops Q rest (a.put o.dst undef) w') : wpList Try.prog ops Q (o :: rest) a w := by
  obtain ⟨D, hown, hf⟩ := h
  refine wpList_mapUpdate_own w hg m x v _ hop _ _ keyU Try.underlying34 _ b n D hm hown hn _ _ _ hx hv (key_u hk) _ _ (plainElem_bool Try.underlying4 y) ?_
  intro w' h' g'
  refine hK w' ⟨_, h', fun z => ?_⟩ g'
  rw [put_at hown.isMap hk]
  by_cases e : z = k
  · simp only [if_pos e]
  · simp only [if_neg e, hf]

/-- .. written in a literal. -/
theorem lit_b (hg : o.guard = none) (m x v : Operand) (hop : o.op = Op.insert 34 m x v) {b n : Nat} {f : Int → Bool} (hm : a.eval m = .map (some b)) (h : MB w b n f) (hn : n < maxLen) {k : Int} {y : Bool} (hx : a.eval x = .int .u64 k) (hv : a.eval v = .bool y) (hk : U64 k)
    (hK : ∀ w', MB w' b (n + 1) (fun z => if z = k then y else f z) → w.grownBy w' (some b) → wpList Try.prog ops Q rest (a.put o.dst undef) w') : wpList Try.prog ops Q (o :: rest) a w := by
  obtain ⟨D, hown, hf⟩ := h
  refine wpList_plain hg fun K' hK' => ?_
  obtain ⟨w', hrun, r1, r2⟩ := hown.update keyU Try.underlying34 hn (key_u hk) (plainElem_bool Try.underlying4 y)
  unfold Oper.wp
  simp [execOp, hop, hm, hx, hv, hrun, Result.andThen]
  refine hK' _ _ (hK w' ⟨_, r1, fun z => ?_⟩ r2)
  rw [put_at hown.isMap hk]
  by_cases e : z = k
  · simp only [if_pos e]
  · simp only [if_neg e, hf]

/-- 'm[k] = v', of numbers. -/
theorem put_u (hg : o.guard = none) (m x v : Operand) (hop : o.op = Op.mapUpdate 35 m x v) {b n : Nat} {f : Int → Int} {g : Int → Bool} (hm : a.eval m = .map (some b)) (h : MU w b n f g) (hn : n < maxLen) {k y : Int} (hx : a.eval x = .int .u64 k) (hv : a.eval v = .int .u64 y) (hk : U64 k) (hy : U64 y)
    (hK : ∀ w', MU w' b (n + 1) (fun z => if z = k then y else f z) (fun z => if z = k then true else g z) → w.grownBy w' (some b) → wpList Try.prog ops Q rest (a.put o.dst undef) w') : wpList Try.prog ops Q (o :: rest) a w := by
  obtain ⟨D, hown, hf, hh⟩ := h
  refine wpList_mapUpdate_own w hg m x v _ hop _ _ keyU Try.underlying35 _ b n D hm hown hn _ _ _ hx hv (key_u hk) _ _ (plainElem_int Try.underlying23 hy) ?_
  intro w' h' g'
  refine hK w' ⟨_, h', fun z => ?_, fun z => ?_⟩ g'
  · rw [put_at hown.isMap hk]
    by_cases e : z = k
    · simp only [if_pos e]
    · simp only [if_neg e, hf]
  · rw [put_has hown.isMap hk]
    by_cases e : z = k
    · simp only [if_pos e]
    · simp only [if_neg e, hh]
end

theorem run_makeN (n : Int) (w : World) : (Instr.makeMap 35 (some (.int .i64 n))).run Try.prog w = .ok (.map (some w.heap.size)) (w.alloc (.map #[] 0)) := by
  simp [Instr.makeMap, run_underlying Try.underlying35, Result.andThen]
  rfl
end Go.Proofs.Ytpipindifeklbaa
