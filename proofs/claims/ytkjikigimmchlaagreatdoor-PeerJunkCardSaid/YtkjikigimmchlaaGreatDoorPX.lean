/- A call carried out plainly: slots and blocks of its own as functions, what it asks of others as a tree; an order that is left open is like each other. No condition. -/
import Derived.OrdersHeld
import Derived.Below
import Derived.Laws.BytesArg
import Derived.Deep.MidRow
import Derived.Deep.LoopGhost
import Derived.KernelRfl
namespace Go.Proofs.YtkjikigimmchlaaGreatDoor
open Go.RowKit
namespace PX
inductive AV where
  | v (x : Value)
  | lp (b off : Nat)
  | ls (b n : Nat)
def AV.conc (r : Nat → Nat) : AV → Value
  | .v x => x
  | .lp b o => .pointer (some ⟨r b, o, none⟩)
  | .ls b n => .slice (some ⟨r b, 0, none⟩) n n
def AV.val : AV → Value
  | .v x => x
  | _ => undef
def AV.isV : AV → Bool
  | .v _ => true
  | _ => false
def AV.blk : AV → Option Nat
  | .v _ => none
  | .lp b _ | .ls b _ => some b
def upd {α : Type} (f : Nat → α) (i : Nat) (x : α) (j : Nat) : α := cond (Nat.beq j i) x (f j)
theorem upd_same {α : Type} (f : Nat → α) (i : Nat) (x : α) : upd f i x i = x := by simp [upd]
theorem upd_other {α : Type} (f : Nat → α) {i j : Nat} (x : α) (h : j ≠ i) : upd f i x j = f j := by
  have : Nat.beq j i = false := by
    cases e : Nat.beq j i with
    | false => rfl
    | true => exact absurd (Nat.eq_of_beq_eq_true e) h
  simp [upd, this]
theorem upd_apply {α : Type} (f : Nat → α) (i : Nat) (x : α) (j : Nat) : upd f i x j = if j = i then x else f j := by
  by_cases h : j = i
  · subst h; simp [upd_same]
  · simp [upd_other _ _ h, h]
theorem upd_comm {α : Type} (f : Nat → α) {i j : Nat} (x y : α) (h : i ≠ j) : upd (upd f i x) j y = upd (upd f j y) i x := by
  funext k
  simp only [upd_apply]
  by_cases h1 : k = j <;> by_cases h2 : k = i <;> simp_all
abbrev Blk := TypeId × List Value
structure S where
  fr : Nat → AV
  hp : Nat → Option Blk
  nx : Nat
def S.ev (s : S) : Operand → AV
  | .tmp t => s.fr t
  | .const v => .v v
  | .global g => .v (.pointer (some ⟨g, 0, none⟩))
  | .func f => .v (.func (.func f) #[] #[])
def S.put (s : S) (d : Option Nat) (x : AV) : S := match d with | none => s | some d => { s with fr := upd s.fr d x }
def S.set (s : S) (b : Nat) (x : Option Blk) : S := { s with hp := upd s.hp b x }
inductive Ex where
  | normal
  | exit (id : Nat)
  | ret
def Ex.real : Ex → Exit
  | .normal => .normal
  | .exit id => .exit id
  | .ret => .ret
inductive Tgt where
  | fn (f : FuncId)
  | app (ts : Array TypeId) (ty : TypeId)
def Does (P : Program) (x : Tgt) (args : Array Value) (w : World) (R : Ending → World → Prop) : Prop :=
  match x with
  | .fn f => Calls P f args w R
  | .app ts ty => ∃ v w', (Builtin.append_ ts ty args).run P w = .ok v w' ∧ R (.returned v) w'
inductive Tree where
  | ret (v : Value) (s : S)
  | call (f : Tgt) (args : List Value) (k : Value → Tree)
  | cref (f : FuncId) (T : TypeId) (cs : List Value) (args : List Value) (k : Value → List Value → Tree)
  | cgrow (f : FuncId) (T : TypeId) (cs : List Value) (args : List Value) (k : Value → List Value → Tree)
  | load (m : Sem Value) (k : Value → Tree)
  | fresh (t : TypeId) (cs : List Value) (k : Nat → Tree)
  | app (f : Tgt) (args : List Value) (k : Value → Tree)
  | ck (p : Prop) (k : Tree)
  | br (b : Bool) (x y : Tree)
  | leaf (s : S) (p : S → (World → Prop) → Prop)
  | loop (nt : Nat) (x : Code) (s : S) (k : Ex → S → Tree)
  | bad
inductive Gen where
  | now (x : AV)
  | rd (b : Nat) (g : Blk → Option Value)
  | wr (b : Nat) (g : Option Blk → Option Blk) (x : AV)
  | call (f : Tgt) (args : List Value)
  | cref (f : FuncId) (b : Nat) (args : List Value)
  | cgrow (f : FuncId) (b : Nat) (args : List Value)
  | load (m : Sem Value)
  | fresh (t : TypeId) (cs : List Value) (mk : Nat → Value)
  | app (f : Tgt) (args : List Value)
  | ck (p : Prop) (x : AV)
  | bad
def perform (s : S) (d : Option Nat) (k : S → Tree) : Gen → Tree
  | .now x => k (s.put d x)
  | .rd b g => match s.hp b with
    | some y => match g y with
      | some v => k (s.put d (.v v))
      | none => .bad
    | none => .bad
  | .wr b g x => match g (s.hp b) with
    | some y => k ((s.set b (some y)).put d x)
    | none => .bad
  | .call f args => .call f args fun v => k (s.put d (.v v))
  | .cref f b args => match s.hp b with
    | some y => .cref f y.1 y.2 args fun v cs => k ((s.set b (some (y.1, cs))).put d (.v v))
    | none => .bad
  | .cgrow f b args => match s.hp b with
    | some y => .cgrow f y.1 y.2 args fun v cs => k ((s.set b (some (y.1, cs))).put d (.v v))
    | none => .bad
  | .load m => .load m fun v => k (s.put d (.v v))
  | .fresh t cs mk => .fresh t cs fun r => k (s.put d (.v (mk r)))
  | .app f args => .app f args fun v => k (s.put d (.v v))
  | .ck p x => .ck p (k (s.put d x))
  | .bad => .bad
structure Cx where
  P : Program
  ap : TypeId → Bool
  w0 : World
  bo : List Nat
  rows : List Nat
def But (bo : List Nat) (B : Nat) (w w' : World) : Prop :=
  w'.os = w.os ∧ w'.tape = w.tape ∧ w'.output = w.output ∧ w.heap.size ≤ w'.heap.size ∧ ∀ k, k < B → k ∉ bo → w'.heap[k]? = w.heap[k]?
theorem But.refl (bo : List Nat) (B : Nat) (w : World) : But bo B w w := ⟨rfl, rfl, rfl, Nat.le_refl _, fun _ _ _ => rfl⟩
theorem But.trans {bo : List Nat} {B : Nat} {a b c : World} (h : But bo B a b) (k : But bo B b c) : But bo B a c :=
  ⟨k.1.trans h.1, k.2.1.trans h.2.1, k.2.2.1.trans h.2.2.1, Nat.le_trans h.2.2.2.1 k.2.2.2.1, fun i hi hb => (k.2.2.2.2 i hi hb).trans (h.2.2.2.2 i hi hb)⟩
theorem But.of_below {bo : List Nat} {B : Nat} {w w' : World} (h : Below B w w') : But bo B w w' := ⟨h.os, h.tape, h.output, h.size, fun k hk _ => h.block k hk⟩
theorem But.below {B : Nat} {w w' : World} (h : But [] B w w') : Below B w w' := ⟨h.1, h.2.1, h.2.2.1, h.2.2.2.1, fun k hk => h.2.2.2.2 k hk (by simp)⟩
def Cx.base (c : Cx) (w : World) : Prop := But (c.bo ++ c.rows) c.w0.heap.size c.w0 w
def BoxO (w : World) (b : Nat) (T : TypeId) (cs : List Value) : Prop := w.heap[b]? = some (.cells cs.toArray T (0, 0))
structure Ext (ap : TypeId → Bool) (w w' : World) : Prop where
  size : w.heap.size ≤ w'.heap.size
  blk : ∀ k, k < w.heap.size → w'.heap[k]? = w.heap[k]? ∨ ∃ T cs cs', ap T = true ∧ BoxO w k T cs ∧ BoxO w' k T cs'
theorem Ext.refl (ap : TypeId → Bool) (w : World) : Ext ap w w := ⟨Nat.le_refl _, fun _ _ => .inl rfl⟩
theorem Ext.of_below {ap : TypeId → Bool} {w w' : World} (h : Below w.heap.size w w') : Ext ap w w' := ⟨h.size, fun k hk => .inl (h.block k hk)⟩
def Stab (ap : TypeId → Bool) (K : World → Prop) : Prop := ∀ w w', Ext ap w w' → K w → K w'
theorem Stab.and {ap : TypeId → Bool} {K L : World → Prop} (h : Stab ap K) (g : Stab ap L) : Stab ap (fun w => K w ∧ L w) := fun w w' e k => ⟨h w w' e k.1, g w w' e k.2⟩
theorem Stab.box {ap : TypeId → Bool} {r : Nat} {T : TypeId} {cs : List Value} (hT : ap T = false) : Stab ap fun w => BoxO w r T cs := fun w w' e h => by
  have hr : r < w.heap.size := (Array.getElem?_eq_some_iff.1 h).1
  rcases e.blk r hr with h1 | ⟨T', c1, c2, h1, h2, _⟩
  · exact h1.trans h
  · unfold BoxO at h h2
    rw [h] at h2
    injection h2 with h2
    injection h2 with _ h2
    subst h2
    rw [hT] at h1
    cases h1
structure RR (c : Cx) (nt : Nat) (r : Nat → Nat) (s : S) (a : Go.Act) (w : World) : Prop where
  defers : a.defers = []
  size : a.tmps.size = nt
  tmp : ∀ t, a.tmps.getD t undef = (s.fr t).conc r
  live : ∀ t b, (s.fr t).blk = some b → (s.hp b).isSome = true
  blk : ∀ b y, s.hp b = some y → BoxO w (r b) y.1 y.2
  inj : ∀ b b', (s.hp b).isSome = true → (s.hp b').isSome = true → r b = r b' → b = b'
  own : ∀ b, (s.hp b).isSome = true → c.w0.heap.size ≤ r b ∨ r b ∈ c.bo
  base : c.base w
  bor : ∀ i x, c.bo[i]? = some x → r i = x ∧ (s.hp i).isSome = true
  tys : ∀ b y, s.hp b = some y → c.ap y.1 = true
def R (c : Cx) (nt : Nat) (s : S) (a : Go.Act) (w : World) : Prop := ∃ r, RR c nt r s a w
def Reads (P : Program) (w : World) (t : TypeId) (p : Addr) (v : Value) : Prop := (loadVar t p).run P w = .ok v w
structure Grown (c : Cx) (w w' : World) : Prop where
  os : w'.os = w.os
  tape : w'.tape = w.tape
  output : w'.output = w.output
  size : w.heap.size ≤ w'.heap.size
  blk : ∀ k, k < w.heap.size → w'.heap[k]? = w.heap[k]? ∨ (c.w0.heap.size ≤ k ∨ k ∈ c.rows) ∧ ∃ cs T fz, c.ap T = false ∧ w.heap[k]? = some (.cells cs T fz)
theorem Grown.base {c : Cx} {w w' : World} (h : Grown c w w') (hb : c.base w) : c.base w' := by
  obtain ⟨h1, h2, h3, h4, h5⟩ := hb
  refine ⟨h.os.trans h1, h.tape.trans h2, h.output.trans h3, Nat.le_trans h4 h.size, fun k hk hn => ?_⟩
  rcases h.blk k (by omega) with e | ⟨e | e, _⟩
  · exact e.trans (h5 k hk hn)
  · omega
  · exact absurd (List.mem_append_right _ e) hn
structure GrownB (c : Cx) (b : Nat) (w w' : World) : Prop where
  os : w'.os = w.os
  tape : w'.tape = w.tape
  output : w'.output = w.output
  size : w.heap.size ≤ w'.heap.size
  blk : ∀ k, k < w.heap.size → k ≠ b → w'.heap[k]? = w.heap[k]? ∨ (c.w0.heap.size ≤ k ∨ k ∈ c.rows) ∧ ∃ cs T fz, c.ap T = false ∧ w.heap[k]? = some (.cells cs T fz)
theorem GrownB.base {c : Cx} {b : Nat} {w w' : World} (h : GrownB c b w w') (hb : c.base w) (ho : c.w0.heap.size ≤ b ∨ b ∈ c.bo) : c.base w' := by
  obtain ⟨h1, h2, h3, h4, h5⟩ := hb
  refine ⟨h.os.trans h1, h.tape.trans h2, h.output.trans h3, Nat.le_trans h4 h.size, fun k hk hn => ?_⟩
  have hne : k ≠ b := by
    rintro rfl
    rcases ho with e | e
    · omega
    · exact hn (List.mem_append_left _ e)
  rcases h.blk k (by omega) hne with e | ⟨e | e, _⟩
  · exact e.trans (h5 k hk hn)
  · omega
  · exact absurd (List.mem_append_right _ e) hn
def TreeOK (c : Cx) (F : Value → S → World → Prop) : Tree → (World → Prop) → Prop
  | .ret v s, K => ∀ w, K w → c.base w → (∀ i x y, c.bo[i]? = some x → s.hp i = some y → BoxO w x y.1 y.2) → F v s w
  | .call f args k, K => ∀ w, K w → c.base w → Does c.P f args.toArray w fun e w' => ∃ v K1, e = .returned v ∧ Below w.heap.size w w' ∧ Stab c.ap K1 ∧ K1 w' ∧ TreeOK c F (k v) fun u => K u ∧ K1 u
  | .cref f T cs args k, K => c.ap T = true ∧ ∀ w b, K w → c.base w → c.w0.heap.size ≤ b ∨ b ∈ c.bo → BoxO w b T cs → Calls c.P f (.pointer (some ⟨b, 0, none⟩) :: args).toArray w fun e w' => ∃ v cs' K1, e = .returned v ∧ But [b] w.heap.size w w' ∧ BoxO w' b T cs' ∧ Stab c.ap K1 ∧ K1 w' ∧ TreeOK c F (k v cs') fun u => K u ∧ K1 u
  | .cgrow f T cs args k, K => c.ap T = true ∧ ∀ w b, K w → c.base w → c.w0.heap.size ≤ b ∨ b ∈ c.bo → BoxO w b T cs → Calls c.P f (.pointer (some ⟨b, 0, none⟩) :: args).toArray w fun e w' => ∃ v cs' K', e = .returned v ∧ GrownB c b w w' ∧ BoxO w' b T cs' ∧ Stab c.ap K' ∧ K' w' ∧ TreeOK c F (k v cs') K'
  | .load m k, K => ∃ v, (∀ w, K w → c.base w → m.run c.P w = .ok v w) ∧ TreeOK c F (k v) K
  | .fresh T cs k, K => c.ap T = false ∧ ∀ r w, K w → c.base w → c.w0.heap.size ≤ r → BoxO w r T cs → TreeOK c F (k r) fun u => K u ∧ BoxO u r T cs
  | .app f args k, K => ∀ w, K w → c.base w → Does c.P f args.toArray w fun e w' => ∃ v K', e = .returned v ∧ Grown c w w' ∧ Stab c.ap K' ∧ K' w' ∧ TreeOK c F (k v) K'
  | .ck p t, K => p ∧ TreeOK c F t K
  | .br b x y, K => (b = true → TreeOK c F x K) ∧ (b = false → TreeOK c F y K)
  | .leaf s p, K => p s K
  | .loop nt x s k, K => ∀ (a : Go.Act) (w : World) (Q : Exit → Go.Act → World → Prop), R c nt s a w → Stab c.ap K → K w →
      (∀ e s' a' w' K', R c nt s' a' w' → Stab c.ap K' → K' w' → TreeOK c F (k e s') K' → Q e.real a' w') → (Code.loop x).wp c.P Q a w
  | .bad, _ => False
def Good (c : Cx) (K : World → Prop) : Prop := Stab c.ap K ∧ ∃ w, K w ∧ c.base w
theorem Cx.base_up {c : Cx} {w w' : World} (h : c.base w) (hb : Below w.heap.size w w') : c.base w' :=
  But.trans h (But.of_below (hb.mono h.2.2.2.1))
theorem Cx.base_but {c : Cx} {w w' : World} {b : Nat} (h : c.base w) (hb : But [b] w.heap.size w w') (ho : c.w0.heap.size ≤ b ∨ b ∈ c.bo) : c.base w' := by
  obtain ⟨h1, h2, h3, h4, h5⟩ := h
  obtain ⟨g1, g2, g3, g4, g5⟩ := hb
  refine ⟨g1.trans h1, g2.trans h2, g3.trans h3, Nat.le_trans h4 g4, fun k hk hn => ?_⟩
  have hne : k ≠ b := by
    rintro rfl
    rcases ho with ho | ho
    · omega
    · exact hn (List.mem_append_left _ ho)
  exact (g5 k (by omega) (by simp [hne])).trans (h5 k hk hn)
theorem Ext.of_but {ap : TypeId → Bool} {w w' : World} {b : Nat} {T : TypeId} {cs cs' : List Value} (h : But [b] w.heap.size w w') (hT : ap T = true) (hx : BoxO w b T cs) (hx' : BoxO w' b T cs') : Ext ap w w' :=
  ⟨h.2.2.2.1, fun k hk => by
    by_cases e : k = b
    · subst e; exact .inr ⟨T, cs, cs', hT, hx, hx'⟩
    · exact .inl (h.2.2.2.2 k hk (by simp [e]))⟩
theorem BoxO.lt {w : World} {b : Nat} {T : TypeId} {cs : List Value} (h : BoxO w b T cs) : b < w.heap.size := (Array.getElem?_eq_some_iff.1 h).1
theorem BoxO.up {w w' : World} {b : Nat} {T : TypeId} {cs : List Value} (h : BoxO w b T cs) (hb : Below w.heap.size w w') : BoxO w' b T cs := (hb.block b h.lt).trans h
theorem below_alloc (w : World) (o : Obj) : Below w.heap.size w (w.alloc o) := (Below.refl _ w).alloc (Nat.le_refl _) o
theorem BoxO.new (w : World) (T : TypeId) (cs : List Value) : BoxO (w.alloc (.cells cs.toArray T (0, 0))) w.heap.size T cs := by
  show (w.heap.push _)[w.heap.size]? = _
  simp
theorem Good.witness {c : Cx} {K : World → Prop} (h : Good c K) (T : TypeId) (cs : List Value) : ∃ w r, K w ∧ c.base w ∧ c.w0.heap.size ≤ r ∧ BoxO w r T cs := by
  obtain ⟨hs, w, hk, hb⟩ := h
  have hw := below_alloc w (.cells cs.toArray T (0, 0))
  exact ⟨_, w.heap.size, hs _ _ (.of_below hw) hk, Cx.base_up hb hw, hb.2.2.2.1, BoxO.new w T cs⟩
theorem Calls.some {P : Program} {f : FuncId} {args : Array Value} {w : World} {R : Ending → World → Prop} (h : Calls P f args w R) : ∃ e w', R e w' := by
  obtain ⟨e, w', _, hR, _⟩ := h []
  exact ⟨e, w', hR⟩
def Gen.isApp : Gen → Bool
  | .app _ _ | .cgrow _ _ _ => true
  | _ => false
theorem Does.mono {P : Program} {x : Tgt} {args : Array Value} {w : World} {R R' : Ending → World → Prop} (h : Does P x args w R) (hr : ∀ e w', R e w' → R' e w') : Does P x args w R' := by
  cases x with
  | fn f => exact Calls.mono h hr
  | app ts ty =>
    obtain ⟨v, w', h1, h2⟩ := h
    exact ⟨v, w', h1, hr _ _ h2⟩
theorem Does.some {P : Program} {x : Tgt} {args : Array Value} {w : World} {R : Ending → World → Prop} (h : Does P x args w R) : ∃ e w', R e w' := by
  cases x with
  | fn f => exact Calls.some h
  | app ts ty =>
    obtain ⟨v, w', h1, h2⟩ := h
    exact ⟨_, w', h2⟩
section
variable {c : Cx} {F : Value → S → World → Prop} {K : World → Prop}
theorem perform_mono {s : S} {d : Option Nat} {k k' : S → Tree} {g : Gen} (hg : Good c K) (hk : ∀ s' K', Good c K' → (g.isApp = false → ∀ w, K' w → K w) → (∃ x, s'.fr = (s.put d x).fr) → TreeOK c F (k s') K' → TreeOK c F (k' s') K')
    (h : TreeOK c F (perform s d k g) K) : TreeOK c F (perform s d k' g) K := by
  have same : ∀ b y x, ((s.set b y).put d x).fr = (s.put d x).fr := fun b y x => by cases d <;> rfl
  cases g with
  | now x => exact hk _ _ hg (fun _ _ h => h) ⟨_, rfl⟩ h
  | rd b g =>
    simp only [perform] at h ⊢
    split at h
    · split at h
      · exact hk _ _ hg (fun _ _ h => h) ⟨_, rfl⟩ h
      · exact h
    · exact h
  | wr b g x =>
    simp only [perform] at h ⊢
    split at h
    · exact hk _ _ hg (fun _ _ h => h) ⟨_, same _ _ _⟩ h
    · exact h
  | call f args =>
    intro w hw hb
    refine (h w hw hb).mono ?_
    rintro e w' ⟨v, K1, he, hw', hs, h1, ht⟩
    exact ⟨v, K1, he, hw', hs, h1, hk _ _ ⟨hg.1.and hs, w', ⟨hg.1 _ _ (.of_below hw') hw, h1⟩, Cx.base_up hb hw'⟩ (fun _ _ h => h.1) ⟨_, rfl⟩ ht⟩
  | cref f b args =>
    simp only [perform] at h ⊢
    split at h
    · refine ⟨h.1, fun w b hw hb ho hx => ?_⟩
      refine (h.2 w b hw hb ho hx).mono ?_
      rintro e w' ⟨v, cs', K1, he, hw', hx', hs, h1, ht⟩
      exact ⟨v, cs', K1, he, hw', hx', hs, h1, hk _ _ ⟨hg.1.and hs, w', ⟨hg.1 _ _ (.of_but hw' h.1 hx hx') hw, h1⟩, Cx.base_but hb hw' ho⟩ (fun _ _ h => h.1) ⟨_, same _ _ _⟩ ht⟩
    · exact h
  | cgrow f b args =>
    simp only [perform] at h ⊢
    split at h
    · refine ⟨h.1, fun w b hw hb ho hx => ?_⟩
      refine (h.2 w b hw hb ho hx).mono ?_
      rintro e w' ⟨v, cs', K', he, hw', hx', hs, h1, ht⟩
      exact ⟨v, cs', K', he, hw', hx', hs, h1, hk _ _ ⟨hs, w', h1, hw'.base hb ho⟩ (fun e => by cases e) ⟨_, same _ _ _⟩ ht⟩
    · exact h
  | load m =>
    obtain ⟨v, h1, h2⟩ := h
    exact ⟨v, h1, hk _ _ hg (fun _ _ h => h) ⟨_, rfl⟩ h2⟩
  | fresh T cs mk =>
    refine ⟨h.1, fun r w hw hb hr hx => ?_⟩
    exact hk _ _ ⟨hg.1.and (Stab.box h.1), w, ⟨hw, hx⟩, hb⟩ (fun _ _ h => h.1) ⟨_, rfl⟩ (h.2 r w hw hb hr hx)
  | app f args =>
    intro w hw hb
    refine (h w hw hb).mono ?_
    rintro e w' ⟨v, K', h1, h2, h3, h4, ht⟩
    exact ⟨v, K', h1, h2, h3, h4, hk _ _ ⟨h3, w', h4, h2.base hb⟩ (fun e => by cases e) ⟨_, rfl⟩ ht⟩
  | ck p x => exact ⟨h.1, hk _ _ hg (fun _ _ h => h) ⟨_, rfl⟩ h.2⟩
  | bad => exact h
theorem perform_pure {s : S} {d : Option Nat} {k : S → Tree} {g : Gen} {p : Prop} (hg : Good c K) (h : TreeOK c F (perform s d k g) K) (hk : ∀ s' K', Good c K' → (∃ x, s'.fr = (s.put d x).fr) → TreeOK c F (k s') K' → p) : p := by
  have same : ∀ b y x, ((s.set b y).put d x).fr = (s.put d x).fr := fun b y x => by cases d <;> rfl
  obtain ⟨w, hw, hb⟩ := hg.2
  cases g with
  | now x => exact hk _ _ hg ⟨_, rfl⟩ h
  | rd b g =>
    simp only [perform] at h
    split at h
    · split at h
      · exact hk _ _ hg ⟨_, rfl⟩ h
      · exact h.elim
    · exact h.elim
  | wr b g x =>
    simp only [perform] at h
    split at h
    · exact hk _ _ hg ⟨_, same _ _ _⟩ h
    · exact h.elim
  | call f args =>
    obtain ⟨e, w', v, K1, he, hw', hs, h1, ht⟩ := Does.some (h w hw hb)
    exact hk _ _ ⟨hg.1.and hs, w', ⟨hg.1 _ _ (.of_below hw') hw, h1⟩, Cx.base_up hb hw'⟩ ⟨_, rfl⟩ ht
  | cref f b args =>
    simp only [perform] at h
    split at h
    · rename_i y _
      obtain ⟨w8, r8, hw8, hb8, hr8, hx8⟩ := hg.witness y.1 y.2
      obtain ⟨e, w', v, cs', K1, he, hw', hx', hs, h1, ht⟩ := Calls.some (h.2 w8 r8 hw8 hb8 (.inl hr8) hx8)
      exact hk _ _ ⟨hg.1.and hs, w', ⟨hg.1 _ _ (.of_but hw' h.1 hx8 hx') hw8, h1⟩, Cx.base_but hb8 hw' (.inl hr8)⟩ ⟨_, same _ _ _⟩ ht
    · exact h.elim
  | cgrow f b args =>
    simp only [perform] at h
    split at h
    · rename_i y _
      obtain ⟨w8, r8, hw8, hb8, hr8, hx8⟩ := hg.witness y.1 y.2
      obtain ⟨e, w', v, cs', K', he, hw', hx', hs, h1, ht⟩ := Calls.some (h.2 w8 r8 hw8 hb8 (.inl hr8) hx8)
      exact hk _ _ ⟨hs, w', h1, hw'.base hb8 (.inl hr8)⟩ ⟨_, same _ _ _⟩ ht
    · exact h.elim
  | load m =>
    obtain ⟨v, h1, h2⟩ := h
    exact hk _ _ hg ⟨_, rfl⟩ h2
  | fresh T cs mk =>
    obtain ⟨w8, r8, hw8, hb8, hr8, hx8⟩ := hg.witness T cs
    exact hk _ _ ⟨hg.1.and (Stab.box h.1), w8, ⟨hw8, hx8⟩, hb8⟩ ⟨_, rfl⟩ (h.2 r8 w8 hw8 hb8 hr8 hx8)
  | app f args =>
    obtain ⟨e, w', v, K', h1, h2, h3, h4, ht⟩ := Does.some (h w hw hb)
    exact hk _ _ ⟨h3, w', h4, h2.base hb⟩ ⟨_, rfl⟩ ht
  | ck p x => exact hk _ _ hg ⟨_, rfl⟩ h.2
  | bad => exact h.elim
end
def okPair : Gen → Gen → Bool
  | .bad, _ | _, .bad => false
  | .now _, _ => true
  | .rd b _, .wr b' _ _ | .rd b _, .cref _ b' _ | .rd b _, .cgrow _ b' _ => !Nat.beq b b'
  | .rd _ _, _ => true
  | .wr b _ _, .rd b' _ | .wr b _ _, .wr b' _ _ | .wr b _ _, .cref _ b' _ | .wr b _ _, .cgrow _ b' _ => !Nat.beq b b'
  | .wr _ _ _, _ => true
  | .call _ _, .call _ _ | .call _ _, .cref _ _ _ | .call _ _, .cgrow _ _ _ | .call _ _, .load _ | .call _ _, .app _ _ => false
  | .call _ _, _ => true
  | .cref _ _ _, .call _ _ | .cref _ _ _, .cref _ _ _ | .cref _ _ _, .cgrow _ _ _ | .cref _ _ _, .load _ | .cref _ _ _, .app _ _ => false
  | .cref _ b _, .rd b' _ | .cref _ b _, .wr b' _ _ => !Nat.beq b b'
  | .cref _ _ _, _ => true
  | .cgrow _ _ _, .call _ _ | .cgrow _ _ _, .cref _ _ _ | .cgrow _ _ _, .cgrow _ _ _ | .cgrow _ _ _, .load _ | .cgrow _ _ _, .fresh _ _ _ | .cgrow _ _ _, .app _ _ => false
  | .cgrow _ b _, .rd b' _ | .cgrow _ b _, .wr b' _ _ => !Nat.beq b b'
  | .cgrow _ _ _, _ => true
  | .load _, .app _ _ | .load _, .cgrow _ _ _ => false
  | .load _, _ => true
  | .fresh _ _ _, .load _ | .fresh _ _ _, .call _ _ | .fresh _ _ _, .cref _ _ _ | .fresh _ _ _, .cgrow _ _ _ | .fresh _ _ _, .app _ _ => false
  | .fresh _ _ _, _ => true
  | .app _ _, .call _ _ | .app _ _, .cref _ _ _ | .app _ _, .cgrow _ _ _ | .app _ _, .load _ | .app _ _, .fresh _ _ _ | .app _ _, .app _ _ => false
  | .app _ _, _ => true
  | .ck _ _, _ => true
theorem ne_of_beq {b b' : Nat} (h : (!Nat.beq b b') = true) : b ≠ b' := by
  rintro rfl
  simp at h
theorem S.put_comm (s : S) {d d' : Option Nat} (x y : AV) (h : ∀ e, d = some e → d' ≠ some e) : (s.put d x).put d' y = (s.put d' y).put d x := by
  cases d with
  | none => cases d' <;> rfl
  | some e =>
    cases d' with
    | none => rfl
    | some e' =>
      have hne : e ≠ e' := fun q => h e rfl (by rw [q])
      simp only [S.put, upd_comm s.fr x y hne]
theorem S.put_set (s : S) (d : Option Nat) (x : AV) (b : Nat) (y : Option Blk) : (s.put d x).set b y = (s.set b y).put d x := by cases d <;> rfl
theorem S.set_comm (s : S) {b b' : Nat} (x y : Option Blk) (h : b ≠ b') : (s.set b x).set b' y = (s.set b' y).set b x := by
  simp only [S.set, upd_comm s.hp x y h]
theorem S.hp_put (s : S) (d : Option Nat) (x : AV) : (s.put d x).hp = s.hp := by cases d <;> rfl
theorem S.hp_set_same (s : S) (b : Nat) (y : Option Blk) : (s.set b y).hp b = y := upd_same _ _ _
theorem S.hp_set_other (s : S) {b b' : Nat} (y : Option Blk) (h : b' ≠ b) : (s.set b y).hp b' = s.hp b' := upd_other _ _ h
section
variable {c : Cx} {F : Value → S → World → Prop} {K : World → Prop}
theorem perform_put (s : S) {d d' : Option Nat} (x : AV) (k : S → Tree) (g : Gen) (h : ∀ e, d' = some e → d ≠ some e) : perform (s.put d' x) d k g = perform s d (fun s2 => k (s2.put d' x)) g := by
  cases g <;> simp only [perform, S.hp_put, S.put_set] <;> first
    | (simp only [S.put_comm s x _ h])
    | rfl
    | (split <;> first | rfl | (simp only [S.put_comm _ x _ h]) | (split <;> first | rfl | simp only [S.put_comm _ x _ h]))
def Gen.at : Gen → Option Nat
  | .rd b _ | .wr b _ _ | .cref _ b _ | .cgrow _ b _ => some b
  | _ => none
def Gen.into : Gen → Option Nat
  | .wr b _ _ | .cref _ b _ | .cgrow _ b _ => some b
  | _ => none
theorem perform_set (s : S) {d : Option Nat} {b : Nat} (y : Option Blk) (k : S → Tree) (g : Gen) (h : g.at ≠ some b) : perform (s.set b y) d k g = perform s d (fun s2 => k (s2.set b y)) g := by
  cases g with
  | rd b' g =>
    have hb : b' ≠ b := fun e => h (by rw [e]; rfl)
    simp only [perform, S.hp_set_other s y hb, S.put_set]
  | wr b' g x =>
    have hb : b' ≠ b := fun e => h (by rw [e]; rfl)
    simp only [perform, S.hp_set_other s y hb, S.put_set, S.set_comm s _ y hb]
  | cref f b' a =>
    have hb : b' ≠ b := fun e => h (by rw [e]; rfl)
    simp only [perform, S.hp_set_other s y hb, S.put_set, S.set_comm s _ y hb]
  | cgrow f b' a =>
    have hb : b' ≠ b := fun e => h (by rw [e]; rfl)
    simp only [perform, S.hp_set_other s y hb, S.put_set, S.set_comm s _ y hb]
  | _ => simp only [perform, S.put_set]
theorem perform_hp (s : S) {d : Option Nat} {b : Nat} {k k' : S → Tree} (g : Gen) (h : g.into ≠ some b) (hk : ∀ s2, s2.hp b = s.hp b → k s2 = k' s2) : perform s d k g = perform s d k' g := by
  cases g with
  | now x => exact hk _ (by rw [S.hp_put])
  | rd b' g =>
    simp only [perform]
    split
    · split
      · exact hk _ (by rw [S.hp_put])
      · rfl
    · rfl
  | wr b' g x =>
    have hb : b ≠ b' := fun e => h (by rw [e]; rfl)
    simp only [perform]
    split
    · exact hk _ (by rw [S.hp_put, S.hp_set_other _ _ hb])
    · rfl
  | call f args => simp only [perform]; congr; funext v; exact hk _ (by rw [S.hp_put])
  | cref f b' a =>
    have hb : b ≠ b' := fun e => h (by rw [e]; rfl)
    simp only [perform]
    split
    · congr; funext v cs; exact hk _ (by rw [S.hp_put, S.hp_set_other _ _ hb])
    · rfl
  | cgrow f b' a =>
    have hb : b ≠ b' := fun e => h (by rw [e]; rfl)
    simp only [perform]
    split
    · congr; funext v cs; exact hk _ (by rw [S.hp_put, S.hp_set_other _ _ hb])
    · rfl
  | load m => simp only [perform]; congr; funext v; exact hk _ (by rw [S.hp_put])
  | fresh T cs mk => simp only [perform]; congr; funext v; exact hk _ (by rw [S.hp_put])
  | app f args => simp only [perform]; congr; funext v; exact hk _ (by rw [S.hp_put])
  | ck p x => simp only [perform]; congr; exact hk _ (by rw [S.hp_put])
  | bad => rfl
theorem swapK {K A B : World → Prop} : (fun u => (K u ∧ A u) ∧ B u) = fun u => (K u ∧ B u) ∧ A u := by
  funext u
  exact propext ⟨fun h => ⟨⟨h.1.1, h.2⟩, h.1.2⟩, fun h => ⟨⟨h.1.1, h.2⟩, h.1.2⟩⟩
theorem perform_now (s : S) (d : Option Nat) (k : S → Tree) (x : AV) : perform s d k (.now x) = k (s.put d x) := rfl
theorem perform_rd (s : S) (d : Option Nat) (k : S → Tree) (b : Nat) (g : Blk → Option Value) : perform s d k (.rd b g) = match s.hp b with
    | some y => match g y with
      | some v => k (s.put d (.v v))
      | none => .bad
    | none => .bad := rfl
theorem perform_wr (s : S) (d : Option Nat) (k : S → Tree) (b : Nat) (g : Option Blk → Option Blk) (x : AV) : perform s d k (.wr b g x) = match g (s.hp b) with
    | some y => k ((s.set b (some y)).put d x)
    | none => .bad := rfl
theorem perform_cref (s : S) (d : Option Nat) (k : S → Tree) (f : FuncId) (b : Nat) (args : List Value) : perform s d k (.cref f b args) = match s.hp b with
    | some y => .cref f y.1 y.2 args fun v cs => k ((s.set b (some (y.1, cs))).put d (.v v))
    | none => .bad := rfl
theorem perform_cgrow (s : S) (d : Option Nat) (k : S → Tree) (f : FuncId) (b : Nat) (args : List Value) : perform s d k (.cgrow f b args) = match s.hp b with
    | some y => .cgrow f y.1 y.2 args fun v cs => k ((s.set b (some (y.1, cs))).put d (.v v))
    | none => .bad := rfl
theorem adj (hg : Good c K) {gi gj : Gen} {di dj : Option Nat} (hp : okPair gj gi = true) (hd : ∀ e, dj = some e → di ≠ some e) {s : S} {k : S → Tree}
    (h : TreeOK c F (perform s dj (fun s1 => perform s1 di k gi) gj) K) : TreeOK c F (perform s di (fun s2 => perform s2 dj k gj) gi) K := by
  cases gj with
  | now x =>
    rw [perform_now, perform_put s x k gi hd] at h
    exact h
  | ck p x =>
    obtain ⟨h1, h2⟩ := h
    replace h2 : TreeOK c F (perform (s.put dj x) di k gi) K := h2
    rw [perform_put s x k gi hd] at h2
    exact perform_mono hg (fun s' K' _ _ _ ht => ⟨h1, ht⟩) h2
  | load m =>
    obtain ⟨v, h1, h2⟩ := h
    replace h2 : TreeOK c F (perform (s.put dj (.v v)) di k gi) K := h2
    rw [perform_put s _ k gi hd] at h2
    exact perform_mono hg (fun s' K' _ hK _ ht => ⟨v, fun w hw => h1 w (hK (by cases gi <;> simp_all [okPair, Gen.isApp]) w hw), ht⟩) h2
  | bad => exact h.elim
  | rd b g =>
    rw [perform_rd] at h
    split at h
    · rename_i y hy
      split at h
      · rename_i v hv
        rw [perform_put s _ k gi hd] at h
        refine (congrArg (fun t => TreeOK c F t K) (perform_hp (b := b) s gi ?_ fun s2 e => ?_)).mpr h
        · intro e
          cases gi <;> simp only [Gen.into, Option.some.injEq, reduceCtorEq] at e <;> exact ne_of_beq hp e.symm
        · simp only [perform, e, hy, hv]
      · exact h.elim
    · exact h.elim
  | wr b g x =>
    rw [perform_wr] at h
    split at h
    · rename_i y hy
      have hat : gi.at ≠ some b := by
        intro e
        cases gi <;> simp only [Gen.at, Option.some.injEq, reduceCtorEq] at e <;> exact ne_of_beq hp e.symm
      rw [perform_put _ _ k gi hd, perform_set s _ _ gi hat] at h
      refine (congrArg (fun t => TreeOK c F t K) (perform_hp (b := b) s gi ?_ fun s2 e => ?_)).mpr h
      · intro e
        exact hat (by cases gi <;> simp_all [Gen.at, Gen.into])
      · simp only [perform, e, hy]
    · exact h.elim
  | call f args =>
    obtain ⟨w9, hw9, hb9⟩ := hg.2
    replace h : ∀ w, K w → c.base w → Does c.P f args.toArray w fun e w' => ∃ v K1, e = .returned v ∧ Below w.heap.size w w' ∧ Stab c.ap K1 ∧ K1 w' ∧ TreeOK c F (perform (s.put dj (.v v)) di k gi) fun u => K u ∧ K1 u := h
    cases gi with
    | now x =>
      intro w hw hb
      refine (h w hw hb).mono ?_
      rintro e w' ⟨v, K1, he, hw', hs, h1, ht⟩
      rw [perform_put s _ k _ hd] at ht
      exact ⟨v, K1, he, hw', hs, h1, ht⟩
    | rd b g =>
      obtain ⟨_, _, v, K1, _, _, _, _, ht⟩ := Does.some (h w9 hw9 hb9)
      simp only [perform, S.hp_put] at ht h ⊢
      split at ht
      · rename_i y hy
        split at ht
        · rename_i u hu
          simp only [hy, hu] at h ⊢
          intro w hw hb
          refine (h w hw hb).mono ?_
          rintro e w' ⟨v, K1, he, hw', hs, h1, ht⟩
          rw [S.put_comm s _ _ hd] at ht
          exact ⟨v, K1, he, hw', hs, h1, ht⟩
        · exact ht.elim
      · exact ht.elim
    | wr b g x =>
      obtain ⟨_, _, v, K1, _, _, _, _, ht⟩ := Does.some (h w9 hw9 hb9)
      simp only [perform, S.hp_put] at ht h ⊢
      split at ht
      · rename_i y hy
        simp only [hy] at h ⊢
        intro w hw hb
        refine (h w hw hb).mono ?_
        rintro e w' ⟨v, K1, he, hw', hs, h1, ht⟩
        rw [S.put_set, S.put_comm _ _ _ hd] at ht
        exact ⟨v, K1, he, hw', hs, h1, ht⟩
      · exact ht.elim
    | fresh T cs mk =>
      refine ⟨(by
        obtain ⟨_, _, v, K1, _, _, _, _, ht⟩ := Does.some (h w9 hw9 hb9)
        exact ht.1), fun r w hw hb hr hx w2 hw2 hb2 => ?_⟩
      refine (h w2 hw2.1 hb2).mono ?_
      rintro e w' ⟨v, K1, he, hw', hs, h1, ht⟩
      have := ht.2 r w' ⟨hg.1 _ _ (.of_below hw') hw2.1, h1⟩ (Cx.base_up hb2 hw') hr (hw2.2.up hw')
      try dsimp only at this
      rw [S.put_comm s _ _ hd] at this
      exact ⟨v, K1, he, hw', hs, h1, by rw [swapK]; exact this⟩
    | ck p x =>
      obtain ⟨_, _, v, K1, _, _, _, _, ht⟩ := Does.some (h w9 hw9 hb9)
      refine ⟨ht.1, fun w hw hb => ?_⟩
      refine (h w hw hb).mono ?_
      rintro e w' ⟨v, K1, he, hw', hs, h1, ht⟩
      have := ht.2
      try dsimp only at this
      rw [S.put_comm s _ _ hd] at this
      exact ⟨v, K1, he, hw', hs, h1, this⟩
    | _ => simp [okPair] at hp
  | cref f b args =>
    obtain ⟨w9, hw9, hb9⟩ := hg.2
    rw [perform_cref] at h
    split at h
    · rename_i y hy
      obtain ⟨hT0, h⟩ := h
      obtain ⟨w8, r8, hw8, hb8, hr8, hx8⟩ := hg.witness y.1 y.2
      cases gi with
      | now x =>
        simp only [perform, S.hp_put, hy]
        refine ⟨hT0, fun w b hw hb ho hx => ?_⟩
        refine (h w b hw hb ho hx).mono ?_
        rintro e w' ⟨v, cs', K1, he, hw', hx', hs, h1, ht⟩
        simp only [perform] at ht
        rw [S.put_comm _ _ _ hd] at ht
        exact ⟨v, cs', K1, he, hw', hx', hs, h1, by dsimp only; rw [S.put_set]; exact ht⟩
      | rd b' g =>
        have hne := ne_of_beq hp
        obtain ⟨_, _, v, cs', K1, _, _, _, _, _, ht⟩ := Calls.some (h w8 r8 hw8 hb8 (.inl hr8) hx8)
        simp only [perform, S.hp_put, S.hp_set_other _ _ hne.symm] at ht h ⊢
        split at ht
        · rename_i z hz
          split at ht
          · rename_i u hu
            simp only [hz, hu] at h ⊢
            simp only [hy]
            refine ⟨hT0, fun w b hw hb ho hx => ?_⟩
            refine (h w b hw hb ho hx).mono ?_
            rintro e w' ⟨v, cs', K1, he, hw', hx', hs, h1, ht⟩
            rw [S.put_comm _ _ _ hd] at ht
            exact ⟨v, cs', K1, he, hw', hx', hs, h1, by dsimp only; rw [S.put_set]; exact ht⟩
          · exact ht.elim
        · exact ht.elim
      | wr b' g x =>
        have hne := ne_of_beq hp
        obtain ⟨_, _, v, cs', K1, _, _, _, _, _, ht⟩ := Calls.some (h w8 r8 hw8 hb8 (.inl hr8) hx8)
        simp only [perform, S.hp_put, S.hp_set_other _ _ hne.symm] at ht h ⊢
        split at ht
        · rename_i z hz
          simp only [hz] at h ⊢
          simp only [S.hp_set_other _ _ hne, hy]
          refine ⟨hT0, fun w b hw hb ho hx => ?_⟩
          refine (h w b hw hb ho hx).mono ?_
          rintro e w' ⟨v, cs', K1, he, hw', hx', hs, h1, ht⟩
          rw [S.put_set, S.put_comm _ _ _ hd, S.set_comm _ _ _ hne] at ht
          exact ⟨v, cs', K1, he, hw', hx', hs, h1, by dsimp only; rw [S.put_set]; exact ht⟩
        · exact ht.elim
      | fresh T cs mk =>
        have hT : c.ap T = false := by
          obtain ⟨_, _, v, cs', K1, _, _, _, _, _, ht⟩ := Calls.some (h w8 r8 hw8 hb8 (.inl hr8) hx8)
          exact ht.1
        refine ⟨hT, fun r w hw hb hr hx => ?_⟩
        simp only [perform, S.hp_put, hy]
        refine ⟨hT0, fun w2 b2 hw2 hb2 ho2 hx2 => ?_⟩
        refine (h w2 b2 hw2.1 hb2 ho2 hx2).mono ?_
        rintro e w' ⟨v, cs', K1, he, hw', hx', hs, h1, ht⟩
        have hE := Ext.of_but (ap := c.ap) hw' hT0 hx2 hx'
        have := ht.2 r w' ⟨hg.1 _ _ hE hw2.1, h1⟩ (Cx.base_but hb2 hw' ho2) hr (Stab.box hT _ _ hE hw2.2)
        try dsimp only at this
        rw [S.put_comm _ _ _ hd] at this
        exact ⟨v, cs', K1, he, hw', hx', hs, h1, by dsimp only; rw [swapK, S.put_set]; exact this⟩
      | ck p x =>
        obtain ⟨_, _, v, cs', K1, _, _, _, _, _, ht⟩ := Calls.some (h w8 r8 hw8 hb8 (.inl hr8) hx8)
        refine ⟨ht.1, ?_⟩
        simp only [perform, S.hp_put, hy]
        refine ⟨hT0, fun w b hw hb ho hx => ?_⟩
        refine (h w b hw hb ho hx).mono ?_
        rintro e w' ⟨v, cs', K1, he, hw', hx', hs, h1, ht⟩
        have := ht.2
        try dsimp only at this
        rw [S.put_comm _ _ _ hd] at this
        exact ⟨v, cs', K1, he, hw', hx', hs, h1, by dsimp only; rw [S.put_set]; exact this⟩
      | _ => simp [okPair] at hp
    · exact h.elim
  | cgrow f b args =>
    obtain ⟨w9, hw9, hb9⟩ := hg.2
    rw [perform_cgrow] at h
    split at h
    · rename_i y hy
      obtain ⟨hT0, h⟩ := h
      obtain ⟨w8, r8, hw8, hb8, hr8, hx8⟩ := hg.witness y.1 y.2
      cases gi with
      | now x =>
        simp only [perform, S.hp_put, hy]
        refine ⟨hT0, fun w b hw hb ho hx => ?_⟩
        refine (h w b hw hb ho hx).mono ?_
        rintro e w' ⟨v, cs', K1, he, hw', hx', hs, h1, ht⟩
        simp only [perform] at ht
        rw [S.put_comm _ _ _ hd] at ht
        exact ⟨v, cs', K1, he, hw', hx', hs, h1, by dsimp only; rw [S.put_set]; exact ht⟩
      | rd b' g =>
        have hne := ne_of_beq hp
        obtain ⟨_, _, v, cs', K1, _, _, _, _, _, ht⟩ := Calls.some (h w8 r8 hw8 hb8 (.inl hr8) hx8)
        simp only [perform, S.hp_put, S.hp_set_other _ _ hne.symm] at ht h ⊢
        split at ht
        · rename_i z hz
          split at ht
          · rename_i u hu
            simp only [hz, hu] at h ⊢
            simp only [hy]
            refine ⟨hT0, fun w b hw hb ho hx => ?_⟩
            refine (h w b hw hb ho hx).mono ?_
            rintro e w' ⟨v, cs', K1, he, hw', hx', hs, h1, ht⟩
            rw [S.put_comm _ _ _ hd] at ht
            exact ⟨v, cs', K1, he, hw', hx', hs, h1, by dsimp only; rw [S.put_set]; exact ht⟩
          · exact ht.elim
        · exact ht.elim
      | wr b' g x =>
        have hne := ne_of_beq hp
        obtain ⟨_, _, v, cs', K1, _, _, _, _, _, ht⟩ := Calls.some (h w8 r8 hw8 hb8 (.inl hr8) hx8)
        simp only [perform, S.hp_put, S.hp_set_other _ _ hne.symm] at ht h ⊢
        split at ht
        · rename_i z hz
          simp only [hz] at h ⊢
          simp only [S.hp_set_other _ _ hne, hy]
          refine ⟨hT0, fun w b hw hb ho hx => ?_⟩
          refine (h w b hw hb ho hx).mono ?_
          rintro e w' ⟨v, cs', K1, he, hw', hx', hs, h1, ht⟩
          rw [S.put_set, S.put_comm _ _ _ hd, S.set_comm _ _ _ hne] at ht
          exact ⟨v, cs', K1, he, hw', hx', hs, h1, by dsimp only; rw [S.put_set]; exact ht⟩
        · exact ht.elim
      | ck p x =>
        obtain ⟨_, _, v, cs', K1, _, _, _, _, _, ht⟩ := Calls.some (h w8 r8 hw8 hb8 (.inl hr8) hx8)
        refine ⟨ht.1, ?_⟩
        simp only [perform, S.hp_put, hy]
        refine ⟨hT0, fun w b hw hb ho hx => ?_⟩
        refine (h w b hw hb ho hx).mono ?_
        rintro e w' ⟨v, cs', K1, he, hw', hx', hs, h1, ht⟩
        have := ht.2
        try dsimp only at this
        rw [S.put_comm _ _ _ hd] at this
        exact ⟨v, cs', K1, he, hw', hx', hs, h1, by dsimp only; rw [S.put_set]; exact this⟩
      | _ => simp [okPair] at hp
    · exact h.elim
  | fresh T cs mk =>
    replace h : c.ap T = false ∧ ∀ r w, K w → c.base w → c.w0.heap.size ≤ r → BoxO w r T cs → TreeOK c F (perform (s.put dj (.v (mk r))) di k gi) fun u => K u ∧ BoxO u r T cs := h
    obtain ⟨hT, h⟩ := h
    obtain ⟨w8, r8, hw8, hb8, hr8, hx8⟩ := hg.witness T cs
    cases gi with
    | now x =>
      refine ⟨hT, fun r w hw hb hr hx => ?_⟩
      have := h r w hw hb hr hx
      simp only [perform] at this ⊢
      try dsimp only at this
      rw [S.put_comm _ _ _ hd] at this
      exact this
    | rd b g =>
      have ht := h r8 w8 hw8 hb8 hr8 hx8
      simp only [perform, S.hp_put] at ht h ⊢
      split at ht
      · rename_i y hy
        split at ht
        · rename_i u hu
          simp only [hy, hu] at h ⊢
          refine ⟨hT, fun r w hw hb hr hx => ?_⟩
          have := h r w hw hb hr hx
          try dsimp only at this
          rw [S.put_comm _ _ _ hd] at this
          exact this
        · exact ht.elim
      · exact ht.elim
    | wr b g x =>
      have ht := h r8 w8 hw8 hb8 hr8 hx8
      simp only [perform, S.hp_put] at ht h ⊢
      split at ht
      · rename_i y hy
        simp only [hy] at h ⊢
        refine ⟨hT, fun r w hw hb hr hx => ?_⟩
        have := h r w hw hb hr hx
        try dsimp only at this
        rw [S.put_set, S.put_comm _ _ _ hd] at this
        exact this
      · exact ht.elim
    | fresh T' cs' mk' =>
      refine ⟨(h r8 w8 hw8 hb8 hr8 hx8).1, fun r' w hw hb hr' hx' => ⟨hT, fun r w2 hw2 hb2 hr hx => ?_⟩⟩
      have := (h r w2 hw2.1 hb2 hr hx).2 r' w2 ⟨hw2.1, hx⟩ hb2 hr' hw2.2
      try dsimp only at this
      rw [S.put_comm _ _ _ hd, swapK] at this
      exact this
    | ck p x =>
      refine ⟨(h r8 w8 hw8 hb8 hr8 hx8).1, hT, fun r w hw hb hr hx => ?_⟩
      have := (h r w hw hb hr hx).2
      try dsimp only at this
      rw [S.put_comm _ _ _ hd] at this
      exact this
    | _ => simp [okPair] at hp
  | app f args =>
    obtain ⟨w9, hw9, hb9⟩ := hg.2
    replace h : ∀ w, K w → c.base w → Does c.P f args.toArray w fun e w' => ∃ v K', e = .returned v ∧ Grown c w w' ∧ Stab c.ap K' ∧ K' w' ∧ TreeOK c F (perform (s.put dj (.v v)) di k gi) K' := h
    cases gi with
    | now x =>
      intro w hw hb
      refine (h w hw hb).mono ?_
      rintro e w' ⟨v, K', h1, h2, h3, h4, ht⟩
      rw [perform_put s _ k _ hd] at ht
      exact ⟨v, K', h1, h2, h3, h4, ht⟩
    | rd b g =>
      obtain ⟨e, w', v, K', h1, h2, h3, h4, ht⟩ := Does.some (h w9 hw9 hb9)
      simp only [perform, S.hp_put] at ht h ⊢
      split at ht
      · rename_i y hy
        split at ht
        · rename_i u hu
          simp only [hy, hu] at h ⊢
          intro w hw hb
          refine (h w hw hb).mono ?_
          rintro e w' ⟨v, K', h1, h2, h3, h4, ht⟩
          rw [S.put_comm s _ _ hd] at ht
          exact ⟨v, K', h1, h2, h3, h4, ht⟩
        · exact ht.elim
      · exact ht.elim
    | wr b g x =>
      obtain ⟨e, w', v, K', h1, h2, h3, h4, ht⟩ := Does.some (h w9 hw9 hb9)
      simp only [perform, S.hp_put] at ht h ⊢
      split at ht
      · rename_i y hy
        simp only [hy] at h ⊢
        intro w hw hb
        refine (h w hw hb).mono ?_
        rintro e w' ⟨v, K', h1, h2, h3, h4, ht⟩
        rw [S.put_set, S.put_comm _ _ _ hd] at ht
        exact ⟨v, K', h1, h2, h3, h4, ht⟩
      · exact ht.elim
    | ck p x =>
      obtain ⟨e, w', v, K', h1, h2, h3, h4, ht⟩ := Does.some (h w9 hw9 hb9)
      refine ⟨ht.1, fun w hw hb => ?_⟩
      refine (h w hw hb).mono ?_
      rintro e w' ⟨v, K', h1, h2, h3, h4, ht⟩
      have := ht.2
      rw [S.put_comm s _ _ hd] at this
      exact ⟨v, K', h1, h2, h3, h4, this⟩
    | _ => simp [okPair] at hp
end
def pureRun (P : Program) {α : Type} : Sem α → Option α
  | .pure a => some a
  | .program k => pureRun P (k P)
  | .mark _ k => pureRun P k
  | _ => none
theorem pureRun_run {P : Program} {α : Type} : ∀ {m : Sem α} {a : α}, pureRun P m = some a → ∀ w, m.run P w = .ok a w
  | .pure a, b, h, w => by simp only [pureRun, Option.some.injEq] at h; subst h; rfl
  | .program k, b, h, w => pureRun_run (m := k P) h w
  | .mark _ k, b, h, w => pureRun_run (m := k) h w
  | .load _ _ _, _, h, _ => by simp [pureRun] at h
  | .store _ _ _ _, _, h, _ => by simp [pureRun] at h
  | .new _ _, _, h, _ => by simp [pureRun] at h
  | .shape _ _, _, h, _ => by simp [pureRun] at h
  | .freeze _ _ _, _, h, _ => by simp [pureRun] at h
  | .frozen _ _, _, h, _ => by simp [pureRun] at h
  | .getObj _ _, _, h, _ => by simp [pureRun] at h
  | .setObj _ _ _, _, h, _ => by simp [pureRun] at h
  | .choose _ _, _, h, _ => by simp [pureRun] at h
  | .sys _ _, _, h, _ => by simp [pureRun] at h
  | .halt _, _, h, _ => by simp [pureRun] at h
def tyAgg (P : Program) (t : TypeId) : Option Bool := pureRun P (isAgg t)
def tySize (P : Program) (t : TypeId) : Option Nat := pureRun P (sizeOf t)
def tyZero (P : Program) (t : TypeId) : Option Value := pureRun P (zeroValue t)
def ldL (P : Program) (t : TypeId) (off : Nat) (y : Blk) : Option Value :=
  match tyAgg P t, tySize P t with
  | some true, some n => cond (Nat.ble (off + n) y.2.length) (some (.agg ((y.2.drop off).take n).toArray)) none
  | some false, _ => y.2[off]?
  | _, _ => none
def setL : List Value → Nat → List Value → List Value
  | cs, _, [] => cs
  | cs, o, v :: r => setL (cs.set o v) (o + 1) r
def allOne : List Value → Bool
  | [] => true
  | v :: r => v.oneCell' && allOne r
def stL (P : Program) (ap : TypeId → Bool) (t : TypeId) (off : Nat) (x : Value) : Option Blk → Option Blk
  | none => none
  | some (T, cs) => match tySize P t with
    | some n => cond (ap T && (Nat.beq x.cells.toList.length n && (allOne x.cells.toList && Nat.ble (off + n) cs.length))) (some (T, setL cs off x.cells.toList)) none
    | none => none
def nwL (ap : TypeId → Bool) (T : TypeId) (cs : List Value) : Option Blk → Option Blk
  | none => cond (ap T) (some (T, cs)) none
  | some _ => none
def u8s : List Value → Option (List Int)
  | [] => some []
  | .int .u8 a :: l => (u8s l).map (a :: ·)
  | _ :: _ => none
def cvL (P : Program) (src dst : TypeId) (n : Nat) (y : Blk) : Option Value :=
  match P.underlying src, P.underlying dst with
  | some (.slice e), some .string => match P.underlying e with
    | some (.int .u8) => match u8s y.2 with
      | some l => cond (Nat.beq l.length n) (some (.string (strOfNums l))) none
      | none => none
    | _ => none
  | _, _ => none
def allV (ev : Operand → AV) : List Operand → Bool
  | [] => true
  | x :: l => (ev x).isV && allV ev l
def gen (P : Program) (o : Oper) (ev : Operand → AV) : Gen :=
  cond (allV ev o.op.operands.toList) (match pureRun P (execOp (fun x => (ev x).val) o) with
    | some (.value v) => .now (.v v)
    | _ => .bad) .bad
def fOff (P : Program) (s : TypeId) (f : Nat) : Option Nat :=
  match P.underlying s with
  | some (.struct fs) => match fs[f]? with
    | some fl => match tySize P fl.type with
      | some (_ + 1) => some fl.offset
      | _ => none
    | none => none
  | _ => none
def aElem (P : Program) (t : TypeId) : Option (Nat × Nat) :=
  match P.underlying t with
  | some (.array n e) => (tySize P e).map fun z => (n, z)
  | _ => none
def sElem (P : Program) (t : TypeId) : Option Nat :=
  match P.underlying t with
  | some (.slice e) => tySize P e
  | _ => none
def enters (P : Program) (f : FuncId) : Bool :=
  match P.funcs[f]? with
  | some fn => fn.body.isSome && !(fn.name == "runtime.NumGoroutine")
  | none => false
def vals (ev : Operand → AV) : List Operand → List Value
  | [] => []
  | x :: l => (ev x).val :: vals ev l
def bnd (ev : Operand → AV) : Option Operand → Option (Option Int)
  | none => some none
  | some x => match ev x with
    | .v (.int _ i) => some (some i)
    | _ => none
def inB : Option Int → Nat → Prop
  | none, _ => True
  | some i, n => 0 ≤ i ∧ i ≤ (n : Int)
def atB : Option Int → Nat → Nat
  | none, d => d
  | some i, _ => i.toNat
def sliceG (P : Program) (t : TypeId) (x : AV) (lo hi : Option (Option Int)) : Gen :=
  match lo, hi, x with
  | some l, some h, .v (.string s) => match P.underlying t with
    | some .string => .ck (inB h s.size ∧ inB l (atB h s.size)) (.v (.string (s.extract (atB l 0) (atB h s.size))))
    | _ => .bad
  | some l, some h, .v (.slice a n c) => match sElem P t with
    | some z => .ck (inB h c ∧ inB l (atB h n)) (.v (.slice (if c = atB l 0 then a else a.map (·.add (atB l 0 * z))) (atB h n - atB l 0) (c - atB l 0)))
    | none => .bad
  | _, _, _ => .bad
def act (P : Program) (ap : TypeId → Bool) (z : Bool) (id : Nat) (o : Oper) (ev : Operand → AV) : Gen :=
  match o.op with
  | .move x | .assign x => .now (ev x)
  | .load t x => match ev x with
    | .lp b off => .rd b (ldL P t off)
    | .v (.pointer (some p)) => .load (loadVar t p)
    | _ => .bad
  | .store t x y => match ev x, ev y with
    | .lp b off, .v z => .wr b (stL P ap t off z) (.v undef)
    | _, _ => .bad
  | .alloc t => match tyZero P t with
    | some z => .wr id (nwL ap t z.cells.toList) (.lp id 0)
    | none => .bad
  | .box t x => match ev x with
    | .v z => .wr id (nwL ap t z.cells.toList) (.lp id 0)
    | _ => .bad
  | .fieldAddr s x f => match ev x with
    | .lp b off => match fOff P s f with
      | some n => .now (.lp b (off + n))
      | none => .bad
    | _ => gen P o ev
  | .indexAddr t x ix => match ev x, ev ix with
    | .lp b off, .v (.int _ i) => match aElem P t with
      | some (n, z) => .ck (0 ≤ i ∧ i < (n : Int)) (.lp b (off + i.toNat * z))
      | none => .bad
    | .v (.slice (some a) n _), .v (.int _ i) => match sElem P t with
      | some z => .ck (0 ≤ i ∧ i < (n : Int)) (.v (.pointer (some (a.add (i.toNat * z)))))
      | none => .bad
    | _, _ => .bad
  | .nilCheck x => match ev x with
    | .lp b off => .now (.lp b off)
    | _ => gen P o ev
  | .slice t x lo hi none => sliceG P t (ev x) (bnd ev lo) (bnd ev hi)
  | .index t x ix => match ev x, ev ix, P.underlying t with
    | .v (.string s), .v (.int _ i), some .string => .ck (0 ≤ i ∧ i < (s.size : Int)) (.v (.int .u8 ((s[i.toNat]?.getD 0).toNat : Nat)))
    | _, _, _ => gen P o ev
  | .binOp .add _ x y _ => match ev x, ev y with
    | .v (.string a), .v (.string b) => .ck (¬ ((a.size + b.size : Nat) : Int) > IntKind.i64.max) (.v (.string (a ++ b)))
    | _, _ => gen P o ev
  | .buildSlice t len parts => cond (allV ev o.op.operands.toList) (match pureNew P (Instr.buildSlice t len (parts.map fun p => (p.1, (ev p.2).val))) with
    | some (T, cs) => cond (ap T) (.wr id (nwL ap T cs) (.ls id len)) (.fresh T cs (fun r => .slice (some ⟨r, 0, none⟩) len len))
    | none => .bad) .bad
  | .call c => match c.callee with
    | .value f => match ev f with
      | .v (.func (.func F) first captured) => cond (first.isEmpty && (captured.isEmpty && enters P F)) (cond (allV ev c.args.toList) (cond (ap (F + 1000000)) (.app (.fn F) (vals ev c.args.toList)) (.call (.fn F) (vals ev c.args.toList))) (match c.args.toList with
        | x :: l => match ev x with
          | .lp b 0 => cond (allV ev l) (cond (ap (F + 1000000)) (.cgrow F b (vals ev l)) (.cref F b (vals ev l))) .bad
          | _ => .bad
        | [] => .bad)) .bad
      | _ => .bad
    | .builtin .append => cond (allV ev c.args.toList) (cond z (.call (.app c.argTypes o.type) (vals ev c.args.toList)) (.app (.app c.argTypes o.type) (vals ev c.args.toList))) .bad
    | .builtin _ => gen P o ev
    | .invoke _ _ => .bad
  | .convert src dst x => match ev x with
    | .v (.slice a n k) => .load (convert src dst (.slice a n k))
    | .ls b n => .rd b (cvL P src dst n)
    | _ => gen P o ev
  | .binOp op t x y _ => match ev x, ev y with
    | .v (.agg a), .v (.agg b) => .load (do eqGuard op t x y (.agg a) (.agg b); binOp op t (.agg a) (.agg b))
    | _, _ => gen P o ev
  | .select _ _ | .go _ | .defer _ => .bad
  | _ => gen P o ev
where
  pureNew (P : Program) : Sem Value → Option (TypeId × List Value)
    | .new (.cells cs T (0, 0)) _ => some (T, cs.toList)
    | .program k => pureNew P (k P)
    | .mark _ k => pureNew P k
    | _ => none
theorem allV_mem {ev : Operand → AV} : ∀ {l : List Operand}, allV ev l = true → ∀ x ∈ l, (ev x).isV = true
  | [], _, _, h => by simp at h
  | y :: l, h, x, hx => by
    simp only [allV, Bool.and_eq_true] at h
    rcases List.mem_cons.1 hx with rfl | hx
    · exact h.1
    · exact allV_mem h.2 x hx
theorem allV_congr {ev ev' : Operand → AV} : ∀ {l : List Operand}, (∀ x ∈ l, ev x = ev' x) → allV ev l = allV ev' l
  | [], _ => rfl
  | y :: l, h => by
    simp only [allV]
    rw [h y (by simp), allV_congr (l := l) fun x hx => h x (by simp [hx])]
theorem vals_congr {ev ev' : Operand → AV} : ∀ {l : List Operand}, (∀ x ∈ l, ev x = ev' x) → vals ev l = vals ev' l
  | [], _ => rfl
  | y :: l, h => by
    simp only [vals]
    rw [h y (by simp), vals_congr (l := l) fun x hx => h x (by simp [hx])]
theorem isV_val {r : Nat → Nat} {x : AV} (h : x.isV = true) : x.conc r = x.val := by
  cases x with
  | v x => rfl
  | lp b o => cases h
  | ls b n => cases h
theorem gen_congr {P : Program} {o : Oper} {ev ev' : Operand → AV} (hs : ∀ cs b, o.op ≠ .select cs b) (h : ∀ x ∈ o.op.operands, ev x = ev' x) : gen P o ev = gen P o ev' := by
  unfold gen
  rw [allV_congr (ev := ev) (ev' := ev') (by simpa using h), execOp_congr o hs (ρ := fun x => (ev x).val) (ρ' := fun x => (ev' x).val) (fun x hx => by rw [h x hx])]
theorem act_congr {P : Program} {ap : TypeId → Bool} {z : Bool} {id : Nat} {o : Oper} {ev ev' : Operand → AV} (h : ∀ x ∈ o.op.operands, ev x = ev' x) : act P ap z id o ev = act P ap z id o ev' := by
  have hg : (∀ cs b, o.op ≠ .select cs b) → gen P o ev = gen P o ev' := fun hs => gen_congr hs h
  have hv := allV_congr (ev := ev) (ev' := ev') (l := o.op.operands.toList) (by simpa using h)
  obtain ⟨dst, op, type, pos, after, guard⟩ := o
  dsimp only at h hg hv
  cases op <;> first
    | (simp only [act]; done)
    | (simp only [act]; exact hg (by simp))
    | (simp only [Op.operands] at h; simp only [act]; rw [h _ (by simp)]; done)
    | (simp only [Op.operands] at h; simp only [act]; rw [h _ (by simp), h _ (by simp)]; done)
    | (simp only [Op.operands] at h; simp only [act]; rw [h _ (by simp), hg (by simp)]; done)
    | skip
  case index t x ix =>
    simp only [Op.operands] at h
    simp only [act]
    rw [h x (by simp), h ix (by simp), hg (by simp)]
  case slice t x lo hi mx =>
    simp only [Op.operands] at h
    cases mx with
    | some m => simp only [act]; exact hg (by simp)
    | none =>
      simp only [act]
      have hlo : bnd ev lo = bnd ev' lo := by
        cases lo with
        | none => rfl
        | some y => simp only [bnd]; rw [h y (by simp)]
      have hhi : bnd ev hi = bnd ev' hi := by
        cases hi with
        | none => rfl
        | some y => simp only [bnd]; rw [h y (by simp)]
      rw [h x (by simp), hlo, hhi]
  case binOp op xt x y yt =>
    simp only [Op.operands] at h
    cases op <;> simp only [act] <;> first
      | exact hg (by simp)
      | rw [h x (by simp), h y (by simp), hg (by simp)]
  case buildSlice t n ps =>
    simp only [Op.operands] at h hv
    simp only [act, Op.operands]
    have hp : (ps.map fun p => (p.1, (ev p.2).val)) = ps.map fun p => (p.1, (ev' p.2).val) := Array.map_congr_left fun p hp => by
      rw [h p.2 (by simp; exact ⟨p.1, hp⟩)]
    rw [hp, hv]
  case call c =>
    obtain ⟨callee, args, argTypes⟩ := c
    simp only [Op.operands, Call.operands] at h
    cases callee with
    | invoke r m => rfl
    | builtin b =>
      have ha : ∀ x ∈ args.toList, ev x = ev' x := fun x hx => h x (by simp at hx ⊢; exact hx)
      cases b <;> simp only [act] <;> first
        | exact hg (by simp)
        | rw [allV_congr ha, vals_congr ha]
    | value f =>
      have hf : ev f = ev' f := h f (by simp)
      have ha : ∀ x ∈ args.toList, ev x = ev' x := fun x hx => h x (by simp at hx ⊢; exact Or.inr hx)
      simp only [act]
      rw [hf, allV_congr ha, vals_congr ha]
      cases hl : args.toList with
      | nil => rfl
      | cons x l =>
        rw [hl] at ha
        dsimp only
        rw [ha x (by simp), allV_congr (l := l) (fun y hy => ha y (by simp [hy])), vals_congr (l := l) (fun y hy => ha y (by simp [hy]))]
section
variable {c : Cx} {nt : Nat} {r : Nat → Nat} {s : S} {a : Go.Act} {w w' : World}
theorem RR.ev (h : RR c nt r s a w) (x : Operand) : a.eval x = (s.ev x).conc r := by
  cases x with
  | tmp t => exact h.tmp t
  | _ => rfl
theorem RR.evLive' (h : RR c nt r s a w) {x : Operand} {b : Nat} (e : (s.ev x).blk = some b) : (s.hp b).isSome = true := by
  cases x with
  | tmp t => exact h.live t b e
  | _ => cases e
theorem RR.evLive (h : RR c nt r s a w) {x : Operand} {b o : Nat} (e : s.ev x = .lp b o) : (s.hp b).isSome = true := h.evLive' (by rw [e]; rfl)
theorem RR.put (h : RR c nt r s a w) {d : Option Nat} {x : AV} (hd : ∀ e, d = some e → e < nt) (hx : ∀ b, x.blk = some b → (s.hp b).isSome = true) {v : Value} (hv : v = x.conc r) : RR c nt r (s.put d x) (a.put d v) w := by
  subst hv
  cases d with
  | none => exact h
  | some d =>
    have hlt := hd d rfl
    refine ⟨h.defers, by simpa [Act.put] using h.size, fun t => ?_, fun t b e => ?_, h.blk, h.inj, h.own, h.base, h.bor, h.tys⟩
    · simp only [S.put, upd_apply]
      by_cases ht : t = d
      · subst ht
        simp [Act.put, h.size, hlt]
      · have := h.tmp t
        simp only [ht, if_false]
        rw [← this]
        simp [Act.put, Array.getElem?_setIfInBounds_ne (Ne.symm ht)]
    · simp only [S.put, upd_apply] at e
      split at e
      · exact hx b e
      · exact h.live t b e
theorem RR.up (h : RR c nt r s a w) (hb : Below w.heap.size w w') : RR c nt r s a w' :=
  ⟨h.defers, h.size, h.tmp, h.live, fun b y e => (h.blk b y e).up hb, h.inj, h.own, Cx.base_up h.base hb, h.bor, h.tys⟩
theorem RR.stored (h : RR c nt r s a w) {b : Nat} {T : TypeId} {cs cs' : List Value} (hb : s.hp b = some (T, cs)) (hx : BoxO w' (r b) T cs') (hw : But [r b] w.heap.size w w') : RR c nt r (s.set b (some (T, cs'))) a w' := by
  have hs : ∀ b', ((s.set b (some (T, cs'))).hp b').isSome = true → (s.hp b').isSome = true := fun b' e => by
    simp only [S.set, upd_apply] at e
    split at e
    · rename_i q; subst q; rw [hb]; rfl
    · exact e
  refine ⟨h.defers, h.size, h.tmp, fun t b' e => ?_, fun b' y e => ?_, fun b1 b2 h1 h2 => h.inj b1 b2 (hs _ h1) (hs _ h2), fun b' e => h.own b' (hs _ e), Cx.base_but h.base hw (h.own b (by rw [hb]; rfl)), fun i x e => ?_, fun b' y e => ?_⟩
  · have := h.live t b' e
    simp only [S.set, upd_apply]
    split
    · rfl
    · exact this
  · simp only [S.set, upd_apply] at e
    split at e
    · rename_i q
      subst q
      injection e with e
      subst e
      exact hx
    · rename_i q
      have h1 := h.blk b' y e
      have hne : r b' ≠ r b := fun e2 => q (h.inj b' b (by rw [e]; rfl) (by rw [hb]; rfl) e2)
      exact (hw.2.2.2.2 (r b') h1.lt (by simpa using hne)).trans h1
  · obtain ⟨h1, h2⟩ := h.bor i x e
    refine ⟨h1, ?_⟩
    simp only [S.set, upd_apply]
    split
    · rfl
    · exact h2
  · simp only [S.set, upd_apply] at e
    split at e
    · injection e with e
      subst e
      exact h.tys b (T, cs) hb
    · exact h.tys b' y e
theorem RR.grown (h : RR c nt r s a w) (hg : Grown c w w') : RR c nt r s a w' := by
  refine ⟨h.defers, h.size, h.tmp, h.live, fun b y e => ?_, h.inj, h.own, hg.base h.base, h.bor, h.tys⟩
  have hb := h.blk b y e
  rcases hg.blk (r b) hb.lt with q | ⟨_, cs, T, fz, hT, q⟩
  · exact q.trans hb
  · exfalso
    unfold BoxO at hb
    rw [hb] at q
    injection q with q
    injection q with _ q _
    have := h.tys b y e
    rw [q, hT] at this
    cases this
theorem RR.grownB (h : RR c nt r s a w) {b : Nat} {T : TypeId} {cs cs' : List Value} (hb : s.hp b = some (T, cs)) (hx : BoxO w' (r b) T cs') (hg : GrownB c (r b) w w') : RR c nt r (s.set b (some (T, cs'))) a w' := by
  have hs : ∀ b', ((s.set b (some (T, cs'))).hp b').isSome = true → (s.hp b').isSome = true := fun b' e => by
    simp only [S.set, upd_apply] at e
    split at e
    · rename_i q; subst q; rw [hb]; rfl
    · exact e
  refine ⟨h.defers, h.size, h.tmp, fun t b' e => ?_, fun b' y e => ?_, fun b1 b2 h1 h2 => h.inj b1 b2 (hs _ h1) (hs _ h2), fun b' e => h.own b' (hs _ e), hg.base h.base (h.own b (by rw [hb]; rfl)), fun i x e => ?_, fun b' y e => ?_⟩
  · have := h.live t b' e
    simp only [S.set, upd_apply]
    split
    · rfl
    · exact this
  · simp only [S.set, upd_apply] at e
    split at e
    · rename_i q
      subst q
      injection e with e
      subst e
      exact hx
    · rename_i q
      have h1 := h.blk b' y e
      have hne : r b' ≠ r b := fun e2 => q (h.inj b' b (by rw [e]; rfl) (by rw [hb]; rfl) e2)
      rcases hg.blk (r b') h1.lt hne with q | ⟨_, cs, T, fz, hT, q⟩
      · exact q.trans h1
      · exfalso
        unfold BoxO at h1
        rw [h1] at q
        injection q with q
        injection q with _ q _
        have := h.tys b' y e
        rw [q, hT] at this
        cases this
  · obtain ⟨h1, h2⟩ := h.bor i x e
    refine ⟨h1, ?_⟩
    simp only [S.set, upd_apply]
    split
    · rfl
    · exact h2
  · simp only [S.set, upd_apply] at e
    split at e
    · injection e with e
      subst e
      exact h.tys b (T, cs) hb
    · exact h.tys b' y e
theorem RR.new (h : RR c nt r s a w) {id : Nat} (hid : s.hp id = none) (T : TypeId) (cs : List Value) (hT : c.ap T = true) : RR c nt (upd r id w.heap.size) (s.set id (some (T, cs))) a (w.alloc (.cells cs.toArray T (0, 0))) := by
  have hb := below_alloc w (.cells cs.toArray T (0, 0))
  have hne : ∀ b, (s.hp b).isSome = true → b ≠ id := fun b e q => by rw [q, hid] at e; cases e
  refine ⟨h.defers, h.size, fun t => ?_, fun t b e => ?_, fun b y e => ?_, fun b1 b2 h1 h2 e => ?_, fun b e => ?_, Cx.base_up h.base hb, fun i x e => ?_, fun b y e => ?_⟩
  · show _ = (s.fr t).conc _
    rw [h.tmp t]
    cases e : s.fr t with
    | v x => rfl
    | lp b o => simp only [AV.conc, upd_other _ _ (hne b (h.live t b (by rw [e]; rfl)))]
    | ls b n => simp only [AV.conc, upd_other _ _ (hne b (h.live t b (by rw [e]; rfl)))]
  · have := h.live t b e
    simp only [S.set, upd_apply]
    split
    · rfl
    · exact this
  · simp only [S.set, upd_apply] at e
    split at e
    · rename_i q
      subst q
      injection e with e
      subst e
      simp only [upd_same]
      exact BoxO.new w T cs
    · rename_i q
      simp only [upd_other _ _ q]
      exact (h.blk b y e).up hb
  · have key : ∀ b, ((s.set id (some (T, cs))).hp b).isSome = true → b = id ∨ b ≠ id ∧ (s.hp b).isSome = true := fun b e => by
      simp only [S.set, upd_apply] at e
      split at e
      · exact .inl ‹_›
      · exact .inr ⟨‹_›, e⟩
    have low : ∀ b, (s.hp b).isSome = true → r b < w.heap.size := fun b e => by
      obtain ⟨y, hy⟩ := Option.isSome_iff_exists.1 e
      exact (h.blk b y hy).lt
    rcases key b1 h1 with q1 | ⟨q1, s1⟩ <;> rcases key b2 h2 with q2 | ⟨q2, s2⟩
    · rw [q1, q2]
    · have := low b2 s2
      rw [q1, upd_same, upd_other _ _ q2] at e
      omega
    · have := low b1 s1
      rw [q2, upd_same, upd_other _ _ q1] at e
      omega
    · rw [upd_other _ _ q1, upd_other _ _ q2] at e
      exact h.inj b1 b2 s1 s2 e
  · simp only [S.set, upd_apply] at e
    by_cases q : b = id
    · subst q
      rw [upd_same]
      exact .inl h.base.2.2.2.1
    · rw [upd_other _ _ q]
      simp only [q, if_false] at e
      exact h.own b e
  · obtain ⟨h1, h2⟩ := h.bor i x e
    have q := hne i h2
    rw [upd_other _ _ q]
    refine ⟨h1, ?_⟩
    simp only [S.set, upd_apply, q, if_false]
    exact h2
  · simp only [S.set, upd_apply] at e
    split at e
    · injection e with e
      subst e
      exact hT
    · exact h.tys b y e
end
section
variable {P : Program} {w : World} {b off : Nat} {T t : TypeId} {cs : List Value} {v : Value}
theorem BoxO.cell (h : BoxO w b T cs) (j : Nat) : w.cell? ⟨b, j, none⟩ = cs[j]? := by
  unfold BoxO at h
  simp [World.cell?, h]
theorem BoxO.frozen (h : BoxO w b T cs) (j : Nat) : w.frozen? ⟨b, j, none⟩ = false := by
  unfold BoxO at h
  simp [World.frozen?, h]
theorem BoxO.setCell (h : BoxO w b T cs) (j : Nat) (v : Value) : BoxO (w.setCell ⟨b, j, none⟩ v) b T (cs.set j v) := by
  unfold BoxO at h ⊢
  simp [World.setCell, Array.getElem?_modify, h]
theorem BoxO.setCells : ∀ (l cs : List Value) (o : Nat) (u : World), BoxO u b T cs → BoxO (u.setCells b o l) b T (setL cs o l)
  | [], _, _, _, h => h
  | v :: l, cs, o, _, h => BoxO.setCells l (cs.set o v) (o + 1) _ (h.setCell o v)
theorem But.setCells {b : Nat} : ∀ (l : List Value) (o : Nat) (w : World), But [b] w.heap.size w (w.setCells b o l)
  | [], _, w => But.refl _ _ w
  | v :: l, o, w => by
    have h := But.setCells (b := b) l (o + 1) (w.setCell ⟨b, o, none⟩ v)
    have h1 : But [b] w.heap.size w (w.setCell ⟨b, o, none⟩ v) := ⟨rfl, rfl, rfl, by simp, fun k _ hn => Below.heap_setCell w _ _ k (by simpa using hn)⟩
    refine h1.trans ?_
    rw [World.size_setCell] at h
    exact h
theorem ld_run (h : BoxO w b T cs) (hl : ldL P t off (T, cs) = some v) : (Instr.loadAt t (.pointer (some ⟨b, off, none⟩))).run P w = .ok v w := by
  unfold ldL at hl
  simp only [Instr.loadAt, Instr.sureAddr, Sem.run_bind, Sem.run_pure, Result.andThen_ok]
  unfold loadVar
  cases ha : tyAgg P t with
  | none => simp [ha] at hl
  | some ag =>
    rw [Sem.run_bind, pureRun_run ha w, Result.andThen_ok]
    cases ag with
    | false =>
      simp only [ha] at hl
      simp only [Bool.false_eq_true, if_false]
      show (load ⟨b, off, none⟩).run P w = _
      have : w.cell? ⟨b, off, none⟩ = some v := by rw [h.cell]; exact hl
      simp [load, Sem.run, this]
    | true =>
      cases hn : tySize P t with
      | none => simp [ha, hn] at hl
      | some n =>
        simp only [ha, hn] at hl
        cases hle : Nat.ble (off + n) cs.length with
        | false => simp [hle] at hl
        | true =>
          simp only [hle, cond_true, Option.some.injEq] at hl
          subst hl
          have hle := Nat.le_of_ble_eq_true hle
          have hlen : ((cs.drop off).take n).length = n := by simp; omega
          simp only [if_true, Sem.run_bind, pureRun_run hn w, Result.andThen_ok, loadCells]
          have := run_loadCells_list (P := P) w ⟨b, off, none⟩ ((cs.drop off).take n) (fun j u hu => by
            rw [Addr.add_mid, h.cell]
            simp [List.getElem?_take] at hu
            exact hu.2)
          rw [hlen] at this
          simp only [loadCells] at this
          simp only [this, Result.andThen_ok, Sem.run_pure]
theorem allOne_mem : ∀ {l : List Value}, allOne l = true → ∀ x ∈ l, x.oneCell' = true
  | [], _, _, h => by simp at h
  | y :: l, h, x, hx => by
    simp only [allOne, Bool.and_eq_true] at h
    rcases List.mem_cons.1 hx with rfl | hx
    · exact h.1
    · exact allOne_mem h.2 x hx
theorem st_run {ap : TypeId → Bool} {x : Value} {y : Blk} (h : BoxO w b T cs) (hs : stL P ap t off x (some (T, cs)) = some y) : ap T = true ∧ y = (T, setL cs off x.cells.toList) ∧ (Instr.storeAt t (.pointer (some ⟨b, off, none⟩)) x).run P w = .ok () (w.setCells b off x.cells.toList) := by
  unfold stL at hs
  dsimp only at hs
  cases hn : tySize P t with
  | none => simp [hn] at hs
  | some n =>
    simp only [hn] at hs
    cases hc : (ap T && (Nat.beq x.cells.toList.length n && (allOne x.cells.toList && Nat.ble (off + n) cs.length))) with
    | false => rw [hc] at hs; cases hs
    | true =>
      simp only [hc, cond_true, Option.some.injEq] at hs
      simp only [Bool.and_eq_true] at hc
      obtain ⟨h1, h2, h3, h4⟩ := hc
      have h2 := Nat.eq_of_beq_eq_true h2
      have h4 := Nat.le_of_ble_eq_true h4
      refine ⟨h1, hs.symm, ?_⟩
      simp only [Instr.storeAt, Instr.sureAddr, Sem.run_bind, Sem.run_pure, Result.andThen_ok, storeVar, pureRun_run hn w]
      have hsz : x.cells.size = n := by simpa using h2
      simp only [hsz, ne_eq, not_true_eq_false, if_false]
      have := run_storeCells_cells (P := P) b off x.cells.toList 0 w (fun j hj => by rw [h.cell]; simp; simp at hj; omega) (fun j hj => h.frozen _) (allOne_mem h3)
      simp only [Nat.add_zero] at this
      simpa using this
end
theorem enters_run {P : Program} {f : FuncId} (h : enters P f = true) (args : Array Value) (w : World) : (callFunc f args).run P w = .ok (.enter f args) w := by
  unfold enters at h
  cases hf : P.funcs[f]? with
  | none => simp [hf] at h
  | some fn =>
    simp only [hf, Bool.and_eq_true, Bool.not_eq_true'] at h
    obtain ⟨h1, h2⟩ := h
    have h3 : fn.body.isNone = false := by cases hb : fn.body <;> simp_all
    unfold callFunc
    simp only [Sem.run_bind, program, Sem.run, Result.andThen_ok, hf, h2, h3]
    rfl
section
variable {c : Cx} {F : Value → S → World → Prop} {nt : Nat} {r : Nat → Nat} {s : S} {a : Go.Act} {w : World} {K : World → Prop} {o : Oper} {k : S → Tree} {N : Go.Act → World → Prop} {Q : Exit → Go.Act → World → Prop}
theorem wp_val {v : Value} {w' : World} (h : (execOp a.eval o).run c.P w = .ok (.value v) w') (hN : N (a.put o.dst v) w') : o.wp c.P a w N Q := by
  unfold Oper.wp
  rw [h]
  exact hN
theorem wp_skp {w' : World} (h : (execOp a.eval o).run c.P w = .ok .skip w') (hN : N (a.put o.dst undef) w') : o.wp c.P a w N Q := by
  unfold Oper.wp
  rw [h]
  exact hN
def Goes (c : Cx) (F : Value → S → World → Prop) (nt : Nat) (k : S → Tree) (N : Go.Act → World → Prop) : Prop := ∀ s' a' w' K', R c nt s' a' w' → Stab c.ap K' → K' w' → TreeOK c F (k s') K' → N a' w'
theorem gen_sound (hR : RR c nt r s a w) (hs : Stab c.ap K) (hK : K w) (hd : ∀ e, o.dst = some e → e < nt) (hN : Goes c F nt k N) (hsel : ∀ cs b, o.op ≠ .select cs b)
    (h : TreeOK c F (perform s o.dst k (gen c.P o s.ev)) K) : o.wp c.P a w N Q := by
  unfold gen at h
  cases hv : allV s.ev o.op.operands.toList with
  | false => simp only [hv, cond_false] at h; exact h.elim
  | true =>
    simp only [hv, cond_true] at h
    have he : execOp a.eval o = execOp (fun x => (s.ev x).val) o := execOp_congr o hsel fun x hx => by rw [hR.ev, isV_val (allV_mem hv x (by simpa using hx))]
    split at h
    · rename_i v hp
      refine wp_val (v := v) (w' := w) (by rw [he]; exact pureRun_run hp w) (hN _ _ _ _ ⟨r, hR.put hd (x := .v v) (by simp [AV.blk]) rfl⟩ hs hK h)
    · exact h.elim
theorem pureNew_bind {P : Program} {α : Type} : ∀ {x : Sem α} {f : α → Sem Value} {y : α}, pureRun P x = some y → act.pureNew P (x.bind f) = act.pureNew P (f y)
  | .pure a, f, y, h => by simp only [pureRun, Option.some.injEq] at h; subst h; rfl
  | .program k, f, y, h => pureNew_bind (x := k P) h
  | .mark _ k, f, y, h => pureNew_bind (x := k) h
  | .load _ _ _, _, _, h => by simp [pureRun] at h
  | .store _ _ _ _, _, _, h => by simp [pureRun] at h
  | .new _ _, _, _, h => by simp [pureRun] at h
  | .shape _ _, _, _, h => by simp [pureRun] at h
  | .freeze _ _ _, _, _, h => by simp [pureRun] at h
  | .frozen _ _, _, _, h => by simp [pureRun] at h
  | .getObj _ _, _, _, h => by simp [pureRun] at h
  | .setObj _ _ _, _, _, h => by simp [pureRun] at h
  | .choose _ _, _, _, h => by simp [pureRun] at h
  | .sys _ _, _, _, h => by simp [pureRun] at h
  | .halt _, _, _, h => by simp [pureRun] at h
theorem pureNew_slice {P : Program} {t : TypeId} {len : Nat} {ps : Array (Nat × Value)} {T : TypeId} {cs : List Value} (h : act.pureNew P (Instr.buildSlice t len ps) = some (T, cs)) (w : World) :
    (Instr.buildSlice t len ps).run P w = .ok (.slice (some ⟨w.heap.size, 0, none⟩) len len) (w.alloc (.cells cs.toArray T (0, 0))) := by
  unfold Instr.buildSlice at h ⊢
  cases hu : P.underlying t with
  | none =>
    simp [underlying, program, bind, Sem.bind, hu, act.pureNew, stuck] at h
  | some d =>
    have h1 : pureRun P (underlying t) = some d := by simp [underlying, program, bind, Sem.bind, hu, pureRun, pure]
    simp only [bind] at h
    rw [pureNew_bind h1] at h
    rw [Sem.run_bind, pureRun_run h1 w, Result.andThen_ok]
    cases d with
    | slice elem =>
      dsimp only at h ⊢
      cases hi : P.info? elem with
      | none => simp [sizeOf, typeInfo, program, bind, Sem.bind, hi, act.pureNew, stuck] at h
      | some i =>
        have h2 : pureRun P (sizeOf elem) = some i.size := by simp [sizeOf, typeInfo, program, bind, Sem.bind, hi, pureRun, pure]
        rw [pureNew_bind h2] at h
        rw [Sem.run_bind, pureRun_run h2 w, Result.andThen_ok]
        split at h
        · simp [unsupported, act.pureNew, Sem.bind] at h
        · rename_i hc
          rw [if_neg hc]
          have key : ∀ zero : Array Value, act.pureNew P (match Instr.fill (fun j => some (j * i.size, i.size)) (Array.map (fun x => zero[x % zero.size]!) (Array.range (len * i.size))) ps.toList with
              | some cells => (newRow elem cells).bind fun a => pure (Value.slice (some a) len len)
              | x => stuck "buildSlice: a part of the wrong size") = some (T, cs) → (match Instr.fill (fun j => some (j * i.size, i.size)) (Array.map (fun x => zero[x % zero.size]!) (Array.range (len * i.size))) ps.toList with
              | some cells => (newRow elem cells).bind fun a => pure (Value.slice (some a) len len)
              | x => stuck "buildSlice: a part of the wrong size").run P w = .ok (.slice (some ⟨w.heap.size, 0, none⟩) len len) (w.alloc (.cells cs.toArray T (0, 0))) := by
            intro zero h
            split at h
            · rename_i cells _
              simp only [newRow, newObj, bind, Sem.bind, act.pureNew, Option.some.injEq, Prod.mk.injEq] at h
              obtain ⟨rfl, rfl⟩ := h
              simp only [newRow, newObj, bind, Sem.bind, pure, Sem.run]
              rfl
            · simp [stuck, act.pureNew] at h
          by_cases h0 : len * i.size = 0
          · simp only [h0, if_true] at h ⊢
            simp only [h0] at key
            exact key #[] h
          · simp only [h0, if_false] at h ⊢
            cases hz : i.zero with
            | none => simp [zeroValue, typeInfo, program, bind, Sem.bind, hi, hz, act.pureNew, unsupported, pure] at h
            | some z =>
              have h3 : pureRun P (zeroValue elem) = some z := by simp [zeroValue, typeInfo, program, bind, Sem.bind, hi, hz, pureRun, pure]
              rw [pureNew_bind h3] at h
              rw [Sem.run_bind, pureRun_run h3 w, Result.andThen_ok]
              exact key z.cells h
    | _ => simp [stuck, act.pureNew] at h
theorem fOff_run {P : Program} {t : TypeId} {f n : Nat} (h : fOff P t f = some n) (b off : Nat) (w : World) : (Instr.fieldAt t (.pointer (some ⟨b, off, none⟩)) f).run P w = .ok (.pointer (some ⟨b, off + n, none⟩)) w := by
  unfold fOff at h
  cases hu : P.underlying t with
  | none => simp [hu] at h
  | some d =>
    cases d with
    | struct fs =>
      simp only [hu] at h
      cases hf : fs[f]? with
      | none => simp [hf] at h
      | some fl =>
        simp only [hf] at h
        cases hz : tySize P fl.type with
        | none => simp [hz] at h
        | some z =>
          cases z with
          | zero => simp [hz] at h
          | succ z =>
            simp only [hz, Option.some.injEq] at h
            subst h
            unfold Instr.fieldAt
            rw [Sem.run_bind, run_underlying hu w, Result.andThen_ok]
            dsimp only
            simp only [hf, Instr.sureAddr, Sem.run_bind, Sem.run_pure, Result.andThen_ok, fieldPlace, pureRun_run hz w]
            simp [Addr.add_mid]
    | _ => simp [hu] at h
theorem aElem_run {P : Program} {t : TypeId} {n z : Nat} (h : aElem P t = some (n, z)) {kd : IntKind} {i : Int} (hi : 0 ≤ i ∧ i < (n : Int)) (b off : Nat) (w : World) :
    (Instr.indexAt t (.pointer (some ⟨b, off, none⟩)) (.int kd i)).run P w = .ok (.pointer (some ⟨b, off + i.toNat * z, none⟩)) w := by
  unfold aElem at h
  cases hu : P.underlying t with
  | none => simp [hu] at h
  | some d =>
    cases d with
    | array len e =>
      simp only [hu] at h
      cases hz : tySize P e with
      | none => simp [hz] at h
      | some z' =>
        simp only [hz, Option.map_some, Option.some.injEq, Prod.mk.injEq] at h
        obtain ⟨rfl, rfl⟩ := h
        unfold Instr.indexAt
        simp only [asIntOf, Sem.run_bind, Sem.run_pure, Result.andThen_ok, run_underlying hu w, Instr.sureAddr]
        rw [if_pos hi]
        simp only [Sem.run_bind, pureRun_run hz w, Result.andThen_ok, Sem.run_pure, Addr.add_mid]
    | _ => simp [hu] at h
theorem sElem_run {P : Program} {t : TypeId} {n z m : Nat} (h : sElem P t = some z) {kd : IntKind} {i : Int} (hi : 0 ≤ i ∧ i < (n : Int)) (p : Addr) (w : World) :
    (Instr.indexAt t (.slice (some p) n m) (.int kd i)).run P w = .ok (.pointer (some (p.add (i.toNat * z)))) w := by
  unfold sElem at h
  cases hu : P.underlying t with
  | none => simp [hu] at h
  | some d =>
    cases d with
    | slice e =>
      simp only [hu] at h
      unfold Instr.indexAt
      simp only [asIntOf, Sem.run_bind, Sem.run_pure, Result.andThen_ok, run_underlying hu w]
      rw [if_pos hi]
      have h : tySize P e = some z := h
      simp only [Sem.run_bind, pureRun_run h w, Result.andThen_ok, Sem.run_pure]
    | _ => simp [hu] at h
theorem bnd_conc (hR : RR c nt r s a w) {lo : Option Operand} {l : Option Int} (h : bnd s.ev lo = some l) : (lo.map a.eval = none ∧ l = none) ∨ ∃ k i, lo.map a.eval = some (.int k i) ∧ l = some i := by
  cases lo with
  | none =>
    simp only [bnd, Option.some.injEq] at h
    exact .inl ⟨rfl, h.symm⟩
  | some x =>
    simp only [bnd] at h
    split at h
    · rename_i k i hx
      simp only [Option.some.injEq] at h
      exact .inr ⟨k, i, by rw [Option.map_some, hR.ev x, hx]; rfl, h.symm⟩
    · cases h
theorem sliceBounds_run {P : Program} {w : World} {isS : Bool} {n m : Nat} {lo hi : Option Value} {l h : Option Int} (hl : (lo = none ∧ l = none) ∨ ∃ k i, lo = some (.int k i) ∧ l = some i) (hh : (hi = none ∧ h = none) ∨ ∃ k i, hi = some (.int k i) ∧ h = some i)
    (h1 : inB h m) (h2 : inB l (atB h n)) : (Instr.sliceBounds isS n m lo hi none).run P w = .ok (atB l 0, atB h n, m) w := by
  have one : ∀ {k : IntKind} {i : Int} {y : Nat} {code : BoundsCode}, 0 ≤ i ∧ i ≤ (y : Int) → (Instr.sliceBound (.int k i) y code).run P w = .ok i.toNat w := fun h => by
    unfold Instr.sliceBound
    simp only [asIntOf, Sem.run_bind, Sem.run_pure, Result.andThen_ok]
    rw [if_pos h]
    rfl
  unfold Instr.sliceBounds
  rcases hh with ⟨rfl, rfl⟩ | ⟨k, i, rfl, rfl⟩ <;> rcases hl with ⟨rfl, rfl⟩ | ⟨k2, j, rfl, rfl⟩ <;>
    simp only [inB, atB] at h1 h2 ⊢ <;> first
      | simp only [Sem.run_bind, Sem.run_pure, Result.andThen_ok, one h1, one h2]
      | simp only [Sem.run_bind, Sem.run_pure, Result.andThen_ok, one h1]
      | simp only [Sem.run_bind, Sem.run_pure, Result.andThen_ok, one h2]
      | simp only [Sem.run_bind, Sem.run_pure, Result.andThen_ok]
theorem sliceG_cases (P : Program) (t : TypeId) (x : AV) (lo hi : Option (Option Int)) : (∃ l h y, lo = some l ∧ hi = some h ∧ x = .v y ∧ ∃ p v, sliceG P t x lo hi = .ck p v) ∨ sliceG P t x lo hi = .bad := by
  unfold sliceG
  split
  · split
    · exact .inl ⟨_, _, _, rfl, rfl, rfl, _, _, rfl⟩
    · exact .inr rfl
  · split
    · exact .inl ⟨_, _, _, rfl, rfl, rfl, _, _, rfl⟩
    · exact .inr rfl
  · exact .inr rfl
theorem sliceG_run {P : Program} {t : TypeId} {x : Value} {lo hi : Option Value} {l h : Option Int} {p : Prop} {v : AV} {w : World} (hl : (lo = none ∧ l = none) ∨ ∃ k i, lo = some (.int k i) ∧ l = some i) (hh : (hi = none ∧ h = none) ∨ ∃ k i, hi = some (.int k i) ∧ h = some i)
    (hg : sliceG P t (.v x) (some l) (some h) = .ck p v) (hp : p) : ∃ u, v = .v u ∧ (Instr.sliceAt t x lo hi none).run P w = .ok u w := by
  unfold sliceG at hg
  cases x <;> try (cases hg; done)
  case string s =>
    dsimp only at hg
    split at hg
    · rename_i hu
      injection hg with h1 h2
      subst h1; subst h2
      refine ⟨_, rfl, ?_⟩
      unfold Instr.sliceAt
      rw [Sem.run_bind, run_underlying hu w, Result.andThen_ok]
      dsimp only
      unfold Instr.slice
      rw [Sem.run_bind, run_underlying hu w, Result.andThen_ok]
      simp only [Option.isSome_none, Bool.false_eq_true, if_false, Sem.run_bind, sliceBounds_run hl hh hp.1 hp.2, Result.andThen_ok, Sem.run_pure]
    · cases hg
  case slice a n m =>
    dsimp only at hg
    split at hg
    · rename_i z hz
      injection hg with h1 h2
      subst h1; subst h2
      refine ⟨_, rfl, ?_⟩
      unfold sElem at hz
      cases hu : P.underlying t with
      | none => simp [hu] at hz
      | some d =>
        cases d with
        | slice e =>
          simp only [hu] at hz
          have hz : tySize P e = some z := hz
          unfold Instr.sliceAt
          rw [Sem.run_bind, run_underlying hu w, Result.andThen_ok]
          dsimp only
          unfold Instr.slice
          rw [Sem.run_bind, run_underlying hu w, Result.andThen_ok]
          simp only [Sem.run_bind, sliceBounds_run hl hh hp.1 hp.2, Result.andThen_ok, pureRun_run hz w, Sem.run_pure]
        | _ => simp [hu] at hz
    · cases hg
theorem u8s_is : ∀ {cs : List Value} {l : List Int}, u8s cs = some l → cs = l.map (Value.int .u8)
  | [], l, h => by
    simp only [u8s, Option.some.injEq] at h
    subst h; rfl
  | v :: cs, l, h => by
    unfold u8s at h
    split at h
    · cases ‹_ :: _ = []›
    · rename_i a l' e
      injection e with e1 e2
      subst e1; subst e2
      cases h2 : u8s cs with
      | none => rw [h2] at h; cases h
      | some l2 =>
        rw [h2] at h
        simp only [Option.map_some, Option.some.injEq] at h
        subst h
        rw [List.map_cons, u8s_is h2]
    · cases h
theorem cvL_run {src dst : TypeId} {n : Nat} {y : Blk} {b : Nat} {v : Value} (hb : BoxO w b y.1 y.2) (h : cvL c.P src dst n y = some v) : (convert src dst (.slice (some ⟨b, 0, none⟩) n n)).run c.P w = .ok v w := by
  unfold cvL at h
  split at h
  · rename_i e hs hd
    split at h
    · rename_i he
      split at h
      · rename_i l hl
        cases hn : Nat.beq l.length n with
        | false => rw [hn] at h; cases h
        | true =>
          rw [hn, cond_true] at h
          injection h with h
          subst h
          have hlen : l.length = n := Nat.eq_of_beq_eq_true hn
          have hy := u8s_is hl
          refine run_convert_bytes_arg w src e hs he b 0 n n l hlen (fun i hi => ?_) dst hd
          rw [BoxO.cell hb]
          rw [hy, List.getElem?_map, Nat.zero_add, List.getD_eq_getElem?_getD, List.getElem?_eq_getElem (by omega)]
          rfl
      · cases h
    · cases h
  · cases h
theorem vals_conc (hR : RR c nt r s a w) : ∀ {l : List Operand}, allV s.ev l = true → l.map a.eval = vals s.ev l
  | [], _ => rfl
  | x :: l, h => by
    simp only [allV, Bool.and_eq_true] at h
    simp only [List.map_cons, vals]
    rw [vals_conc hR h.2, hR.ev x, isV_val h.1]
theorem act_sound {id : Nat} {z : Bool} (hR : RR c nt r s a w) (hs : Stab c.ap K) (hK : K w) (hd : ∀ e, o.dst = some e → e < nt) (hN : Goes c F nt k N)
    (h : TreeOK c F (perform s o.dst k (act c.P c.ap z id o s.ev)) K) : o.wp c.P a w N Q := by
  have hgen : (∀ cs b, o.op ≠ .select cs b) → TreeOK c F (perform s o.dst k (gen c.P o s.ev)) K → o.wp c.P a w N Q := fun hsel h => gen_sound hR hs hK hd hN hsel h
  have nowv : ∀ x : AV, (∀ b, x.blk = some b → (s.hp b).isSome = true) → (execOp a.eval o).run c.P w = .ok (.value (x.conc r)) w → TreeOK c F (k (s.put o.dst x)) K → o.wp c.P a w N Q :=
    fun x hx he h => wp_val he (hN _ _ _ _ ⟨r, hR.put hd hx rfl⟩ hs hK h)
  unfold act at h
  split at h
  case h_1 x hop => exact nowv _ (fun b e => hR.evLive' e) (by simp only [execOp, hop, Sem.run_pure, hR.ev]) h
  case h_2 x hop => exact nowv _ (fun b e => hR.evLive' e) (by simp only [execOp, hop, Sem.run_pure, hR.ev]) h
  case h_3 t x hop =>
    have ex := hR.ev x
    split at h
    · rename_i b off hx
      rw [hx] at ex
      rw [perform_rd] at h
      split at h
      · rename_i y hy
        split at h
        · rename_i v hv
          exact nowv (.v v) (by simp [AV.blk]) (by simp only [execOp, hop, ex, AV.conc, Sem.run_bind, ld_run (hR.blk b y hy) hv, Result.andThen_ok, Sem.run_pure]) h
        · exact h.elim
      · exact h.elim
    · rename_i p hx
      rw [hx] at ex
      obtain ⟨v, h1, h2⟩ := h
      have e1 : (loadVar t p).run c.P w = .ok v w := h1 w hK hR.base
      exact nowv (.v v) (by simp [AV.blk]) (by simp only [execOp, hop, ex, AV.conc, Instr.loadAt, Instr.sureAddr, Sem.run_bind, Sem.run_pure, Result.andThen_ok, e1]) h2
    · exact h.elim
  case h_4 t x y hop =>
    have ex := hR.ev x
    have ey := hR.ev y
    split at h
    · rename_i b off z hx hy
      rw [hx] at ex
      rw [hy] at ey
      rw [perform_wr] at h
      cases hb : s.hp b with
      | none => rw [hb] at h; exact h.elim
      | some yb =>
        rw [hb] at h
        split at h
        · rename_i y2 hst
          obtain ⟨T, cs⟩ := yb
          obtain ⟨h1, rfl, h3⟩ := st_run (hR.blk b _ hb) hst
          have hx2 := BoxO.setCells z.cells.toList cs off w (hR.blk b _ hb)
          have hbut := But.setCells (b := r b) z.cells.toList off w
          refine wp_skp (w' := w.setCells (r b) off z.cells.toList) (by simp only [execOp, hop, ex, ey, AV.conc, Sem.run_bind, h3, Result.andThen_ok, Sem.run_pure]) ?_
          refine hN _ _ _ _ ⟨r, (hR.stored hb hx2 hbut).put (x := .v undef) hd (by simp [AV.blk]) rfl⟩ hs (hs _ _ (.of_but hbut h1 (hR.blk b _ hb) hx2) hK) h
        · exact h.elim
    · exact h.elim
  case h_5 t hop =>
    split at h
    · rename_i z hz
      rw [perform_wr] at h
      cases hb : s.hp id with
      | some y => rw [hb] at h; exact h.elim
      | none =>
        rw [hb] at h
        cases hT : c.ap t with
        | false => simp only [nwL, hT, cond_false] at h; exact h.elim
        | true =>
        simp only [nwL, hT, cond_true] at h
        have hal := below_alloc w (.cells z.cells.toList.toArray t (0, 0))
        refine wp_val (v := .pointer (some ⟨w.heap.size, 0, none⟩)) (w' := w.alloc (.cells z.cells.toList.toArray t (0, 0))) ?_ ?_
        · simp only [execOp, hop, Instr.alloc, Sem.run_bind, pureRun_run hz w, Result.andThen_ok, newVar, newRow, newObj, Sem.run, Sem.run_pure, Array.toArray_toList]
          rfl
        · refine hN _ _ _ _ ⟨_, (hR.new hb t z.cells.toList hT).put (x := .lp id 0) hd ?_ ?_⟩ hs (hs _ _ (.of_below hal) hK) h
          · intro b e
            cases e
            rw [S.hp_set_same]; rfl
          · simp only [AV.conc, upd_same]
    · exact h.elim
  case h_6 t x hop =>
    have ex := hR.ev x
    split at h
    · rename_i z hz
      rw [hz] at ex
      rw [perform_wr] at h
      cases hb : s.hp id with
      | some y => rw [hb] at h; exact h.elim
      | none =>
        rw [hb] at h
        cases hT : c.ap t with
        | false => simp only [nwL, hT, cond_false] at h; exact h.elim
        | true =>
        simp only [nwL, hT, cond_true] at h
        have hal := below_alloc w (.cells z.cells.toList.toArray t (0, 0))
        refine wp_val (v := .pointer (some ⟨w.heap.size, 0, none⟩)) (w' := w.alloc (.cells z.cells.toList.toArray t (0, 0))) ?_ ?_
        · simp only [execOp, hop, ex, AV.conc, Instr.box, Sem.run_bind, Result.andThen_ok, newVar, newRow, newObj, Sem.run, Sem.run_pure, Array.toArray_toList]
          rfl
        · refine hN _ _ _ _ ⟨_, (hR.new hb t z.cells.toList hT).put (x := .lp id 0) hd ?_ ?_⟩ hs (hs _ _ (.of_below hal) hK) h
          · intro b e
            cases e
            rw [S.hp_set_same]; rfl
          · simp only [AV.conc, upd_same]
    · exact h.elim
  case h_7 t x f hop =>
    split at h
    · rename_i b off hx
      have ex := hR.ev x
      rw [hx] at ex
      split at h
      · rename_i n hn
        exact nowv (.lp b (off + n)) (fun b' e => by injection e with e1; subst e1; exact hR.evLive hx) (by simp only [execOp, hop, ex, AV.conc, Sem.run_bind, fOff_run hn, Result.andThen_ok, Sem.run_pure]) h
      · exact h.elim
    · exact hgen (by simp [hop]) h
  case h_8 t x ix hop =>
    have ex := hR.ev x
    have ei := hR.ev ix
    split at h
    · rename_i b off kd i hx hi
      rw [hx] at ex
      rw [hi] at ei
      split at h
      · rename_i n z hn
        obtain ⟨h1, h2⟩ := h
        exact nowv (.lp b (off + i.toNat * z)) (fun b' e => by injection e with e1; subst e1; exact hR.evLive hx) (by simp only [execOp, hop, ex, ei, AV.conc, Sem.run_bind, aElem_run hn h1, Result.andThen_ok, Sem.run_pure]) h2
      · exact h.elim
    · rename_i p n m kd i hx hi
      rw [hx] at ex
      rw [hi] at ei
      split at h
      · rename_i z hn
        obtain ⟨h1, h2⟩ := h
        exact nowv (.v (.pointer (some (p.add (i.toNat * z))))) (by simp [AV.blk]) (by simp only [execOp, hop, ex, ei, AV.conc, Sem.run_bind, sElem_run hn h1, Result.andThen_ok, Sem.run_pure]) h2
      · exact h.elim
    · exact h.elim
  case h_9 x hop =>
    split at h
    · rename_i b off hx
      have ex := hR.ev x
      rw [hx] at ex
      exact nowv (.lp b off) (fun b' e => by injection e with e1; subst e1; exact hR.evLive hx) (by simp only [execOp, hop, ex, AV.conc, Sem.run_pure]) h
    · exact hgen (by simp [hop]) h
  case h_10 t x lo hi hop =>
    rcases sliceG_cases c.P t (s.ev x) (bnd s.ev lo) (bnd s.ev hi) with ⟨l, hq, y, hl, hh, hx, p, v, hgen'⟩ | hbad
    · have hl2 := bnd_conc hR hl
      have hh2 := bnd_conc hR hh
      have ex := hR.ev x
      rw [hx] at ex
      rw [hgen'] at h
      obtain ⟨hp, h⟩ := h
      rw [hl, hh, hx] at hgen'
      obtain ⟨u, rfl, hrun⟩ := sliceG_run (w := w) hl2 hh2 hgen' hp
      exact nowv (.v u) (by simp [AV.blk]) (by simp only [execOp, hop, ex, AV.conc, Sem.run_bind, Option.map_none, hrun, Result.andThen_ok, Sem.run_pure]) h
    · rw [hbad] at h
      exact h.elim
  case h_11 t x ix hop =>
    split at h
    · rename_i d kd i hx hi hu
      have ex := hR.ev x
      have ei := hR.ev ix
      rw [hx] at ex
      rw [hi] at ei
      obtain ⟨h1, h2⟩ := h
      have hlt : i.toNat < d.size := by omega
      refine nowv _ (by simp [AV.blk]) ?_ h2
      simp only [execOp, hop, ex, ei, AV.conc, Sem.run_bind, Instr.index, asIntOf, Sem.run_pure, Result.andThen_ok, run_underlying hu w]
      rw [if_pos h1.1]
      rw [getElem?_pos d i.toNat hlt]
      rfl
    · exact hgen (by simp [hop]) h
  case h_12 xt x y yt hop =>
    split at h
    · rename_i d e hx hy
      have ex := hR.ev x
      have ey := hR.ev y
      rw [hx] at ex
      rw [hy] at ey
      obtain ⟨h1, h2⟩ := h
      refine nowv (.v (.string (d ++ e))) (by simp [AV.blk]) ?_ h2
      simp only [execOp, hop, ex, ey, AV.conc, Sem.run_bind, eqGuard, binOp, Op.stringOp, Sem.run_pure]
      rw [if_neg h1]
      rfl
    · exact hgen (by simp [hop]) h
  case h_13 t len ps hop =>
    cases hv : allV s.ev o.op.operands.toList with
    | false => rw [hv] at h; exact h.elim
    | true =>
      rw [hv] at h
      have hp : (ps.map fun p => (p.1, a.eval p.2)) = ps.map fun p => (p.1, (s.ev p.2).val) := Array.map_congr_left fun p hp => by
        rw [hR.ev, isV_val (allV_mem hv p.2 ?_)]
        rw [hop]
        simp only [Op.operands]
        simp
        exact ⟨p.1, by simpa using hp⟩
      rw [cond_true] at h
      split at h
      · rename_i T cs hnew
        cases hap : c.ap T with
        | true =>
          rw [hap, cond_true, perform_wr] at h
          cases hb : s.hp id with
          | some y => rw [hb] at h; exact h.elim
          | none =>
            rw [hb] at h
            simp only [nwL, hap, cond_true] at h
            have hal := below_alloc w (.cells cs.toArray T (0, 0))
            refine wp_val (v := .slice (some ⟨w.heap.size, 0, none⟩) len len) (w' := w.alloc (.cells cs.toArray T (0, 0))) ?_ ?_
            · simp only [execOp, hop, Sem.run_bind]
              rw [hp, pureNew_slice hnew w]
              rfl
            · refine hN _ _ _ _ ⟨_, (hR.new hb T cs hap).put (x := .ls id len) hd ?_ ?_⟩ hs (hs _ _ (.of_below hal) hK) h
              · intro b e
                cases e
                rw [S.hp_set_same]; rfl
              · simp only [AV.conc, upd_same]
        | false =>
        rw [hap, cond_false] at h
        obtain ⟨hT, h⟩ := h
        have hal := below_alloc w (.cells cs.toArray T (0, 0))
        refine wp_val (v := .slice (some ⟨w.heap.size, 0, none⟩) len len) (w' := w.alloc (.cells cs.toArray T (0, 0))) ?_ ?_
        · simp only [execOp, hop, Sem.run_bind]
          rw [hp, pureNew_slice hnew w]
          rfl
        · have hK2 := hs _ _ (.of_below hal) hK
          have hR2 := hR.up hal
          exact hN _ _ _ _ ⟨r, hR2.put (x := .v _) hd (by simp [AV.blk]) rfl⟩ (hs.and (Stab.box hT)) ⟨hK2, BoxO.new w T cs⟩ (h _ _ hK2 hR2.base hR.base.2.2.2.1 (BoxO.new w T cs))
      · exact h.elim
  case h_14 cl hop =>
    obtain ⟨callee, args, argTypes⟩ := cl
    cases callee with
    | invoke x m => exact h.elim
    | builtin b =>
      by_cases hb : b = .append
      · subst hb
        dsimp only at h
        cases hv : allV s.ev args.toList with
        | false => rw [hv, cond_false] at h; exact h.elim
        | true =>
          rw [hv, cond_true] at h
          have hm : args.map a.eval = (vals s.ev args.toList).toArray := by rw [← vals_conc hR hv]; apply Array.ext'; simp
          cases z with
          | true =>
            rw [cond_true] at h
            obtain ⟨v', w', h1, v, K1, he, hw', hs1, hk1, ht⟩ := h w hK hR.base
            injection he with he
            subst he
            refine wp_val (v := v') (w' := w') ?_ (hN _ _ _ _ ⟨r, (hR.up hw').put (x := .v v') hd (by simp [AV.blk]) rfl⟩ (hs.and hs1) ⟨hs _ _ (.of_below hw') hK, hk1⟩ ht)
            simp only [execOp, hop, resolve, Sem.run_bind, Sem.run_pure, Result.andThen_ok, invoke, builtin]
            rw [hm, h1]
            rfl
          | false =>
          rw [cond_false] at h
          obtain ⟨v', w', h1, v, K', he, h2, h3, h4, ht⟩ := h w hK hR.base
          injection he with he
          subst he
          have hm : args.map a.eval = (vals s.ev args.toList).toArray := by rw [← vals_conc hR hv]; apply Array.ext'; simp
          refine wp_val (v := v') (w' := w') ?_ (hN _ _ _ _ ⟨r, (hR.grown h2).put (x := .v v') hd (by simp [AV.blk]) rfl⟩ h3 h4 ht)
          simp only [execOp, hop, resolve, Sem.run_bind, Sem.run_pure, Result.andThen_ok, invoke, builtin]
          rw [hm, h1]
          rfl
      · have h' : TreeOK c F (perform s o.dst k (gen c.P o s.ev)) K := by
          cases b <;> first
            | exact absurd rfl hb
            | exact h
        exact hgen (by simp [hop]) h'
    | value f =>
      dsimp only at h
      split at h
      · rename_i f' F' first captured hf
        have ef := hR.ev f
        rw [hf] at ef
        cases hc : (first.isEmpty && (captured.isEmpty && enters c.P F')) with
        | false => rw [hc] at h; exact h.elim
        | true =>
          rw [hc, cond_true] at h
          simp only [Bool.and_eq_true, Array.isEmpty_iff] at hc
          obtain ⟨rfl, rfl, hen⟩ := hc
          have hex : ∀ vs : List Value, args.toList.map a.eval = vs → (execOp a.eval o).run c.P w = .ok (.enter F' vs.toArray) w := by
            intro vs hvs
            have hm : args.map a.eval = vs.toArray := by subst hvs; apply Array.ext'; simp
            simp only [execOp, hop, resolve, ef, AV.conc, Deferred.ofValue, Sem.run_bind, Sem.run_pure, Result.andThen_ok, invoke]
            rw [hm]
            simpa using enters_run hen vs.toArray w
          cases hv : allV s.ev args.toList with
          | true =>
            rw [hv, cond_true] at h
            unfold Oper.wp
            rw [hex _ (vals_conc hR hv), Oper.upon_enter]
            cases hg : c.ap (F' + 1000000) with
            | true =>
              rw [hg, cond_true] at h
              refine Does.mono (x := .fn F') (h w hK hR.base) ?_
              rintro e w' ⟨v, K1, rfl, h2, h3, h4, ht⟩
              exact hN _ _ _ _ ⟨r, (hR.grown h2).put (x := .v v) hd (by simp [AV.blk]) rfl⟩ h3 h4 ht
            | false =>
            rw [hg, cond_false] at h
            refine Does.mono (x := .fn F') (h w hK hR.base) ?_
            rintro e w' ⟨v, K1, rfl, hw', hs1, h1, ht⟩
            exact hN _ _ _ _ ⟨r, (hR.up hw').put (x := .v v) hd (by simp [AV.blk]) rfl⟩ (hs.and hs1) ⟨hs _ _ (.of_below hw') hK, h1⟩ ht
          | false =>
            rw [hv, cond_false] at h
            cases hl : args.toList with
            | nil => rw [hl] at h; exact h.elim
            | cons x l =>
              rw [hl] at h
              dsimp only at h
              split at h
              · rename_i b hx
                cases hv2 : allV s.ev l with
                | false => rw [hv2] at h; exact h.elim
                | true =>
                  rw [hv2, cond_true] at h
                  cases hg : c.ap (F' + 1000000) with
                  | true =>
                    rw [hg, cond_true, perform_cgrow] at h
                    cases hb : s.hp b with
                    | none => rw [hb] at h; exact h.elim
                    | some y =>
                      rw [hb] at h
                      obtain ⟨hT, h⟩ := h
                      have hbl := hR.blk b y hb
                      unfold Oper.wp
                      rw [hex (.pointer (some ⟨r b, 0, none⟩) :: vals s.ev l) (by rw [hl, List.map_cons, vals_conc hR hv2, hR.ev x, hx]; rfl), Oper.upon_enter]
                      refine (h w (r b) hK hR.base (hR.own b (by rw [hb]; rfl)) hbl).mono ?_
                      rintro e w' ⟨v, cs', K1, rfl, hw', hx', hs1, h1, ht⟩
                      exact hN _ _ _ _ ⟨r, (hR.grownB (T := y.1) (cs := y.2) hb hx' hw').put (x := .v v) hd (by simp [AV.blk]) rfl⟩ hs1 h1 ht
                  | false =>
                  rw [hg, cond_false, perform_cref] at h
                  cases hb : s.hp b with
                  | none => rw [hb] at h; exact h.elim
                  | some y =>
                    rw [hb] at h
                    obtain ⟨hT, h⟩ := h
                    have hbl := hR.blk b y hb
                    unfold Oper.wp
                    rw [hex (.pointer (some ⟨r b, 0, none⟩) :: vals s.ev l) (by rw [hl, List.map_cons, vals_conc hR hv2, hR.ev x, hx]; rfl), Oper.upon_enter]
                    refine (h w (r b) hK hR.base (hR.own b (by rw [hb]; rfl)) hbl).mono ?_
                    rintro e w' ⟨v, cs', K1, rfl, hw', hx', hs1, h1, ht⟩
                    exact hN _ _ _ _ ⟨r, (hR.stored (T := y.1) (cs := y.2) hb hx' hw').put (x := .v v) hd (by simp [AV.blk]) rfl⟩ (hs.and hs1) ⟨hs _ _ (.of_but hw' hT hbl hx') hK, h1⟩ ht
              · exact h.elim
      · exact h.elim
  case h_15 src dst x hop =>
    split at h
    · rename_i d n k hx
      have ex := hR.ev x
      rw [hx] at ex
      obtain ⟨v, h1, h2⟩ := h
      have e1 := h1 w hK hR.base
      exact nowv (.v v) (by simp [AV.blk]) (by simp only [execOp, hop, ex, AV.conc, Sem.run_bind, e1, Result.andThen_ok, Sem.run_pure]) h2
    · rename_i b n hx
      have ex := hR.ev x
      rw [hx] at ex
      rw [perform_rd] at h
      split at h
      · rename_i y hy
        split at h
        · rename_i v hv
          exact nowv (.v v) (by simp [AV.blk]) (by simp only [execOp, hop, ex, AV.conc, Sem.run_bind, cvL_run (hR.blk b y hy) hv, Result.andThen_ok, Sem.run_pure]) h
        · exact h.elim
      · exact h.elim
    · exact hgen (by simp [hop]) h
  case h_16 op xt x y yt _ hop =>
    split at h
    · rename_i d e hx hy
      have ex := hR.ev x
      have ey := hR.ev y
      rw [hx] at ex
      rw [hy] at ey
      obtain ⟨v, h1, h2⟩ := h
      have e1 := h1 w hK hR.base
      exact nowv (.v v) (by simp [AV.blk]) (by
        simp only [Sem.run_bind] at e1
        simp only [execOp, hop, ex, ey, AV.conc, Sem.run_bind, e1, Result.andThen_ok, Sem.run_pure]) h2
    · exact hgen (by simp [hop]) h
  case h_17 => exact h.elim
  case h_18 => exact h.elim
  case h_19 => exact h.elim
  rename_i h1 _ _
  exact hgen h1 h
end
inductive Wd where
  | yes
  | no
  | may (b : Bool) (d : Nat) (want : Bool)
  | bad
def wd (ops : Array Oper) (s : S) (o : Oper) : Wd :=
  match o.guard with
  | none => .yes
  | some (j, want) => match (ops[j]?).bind (·.dst) with
    | none => .no
    | some d => match s.fr d with
      | .v (.bool b) => .may b d want
      | .v (.tuple _) => .no
      | _ => .bad
def isZ (ops : Array Oper) (o : Oper) : Bool :=
  match o.op with
  | .call ⟨.builtin .append, args, _⟩ => match args.toList with
    | .tmp t :: _ => ops.toList.any fun x => match x.dst with
      | some d => Nat.beq d t && (match x.op with
        | .buildSlice _ 0 _ => true
        | _ => false)
      | none => false
    | _ => false
  | _ => false
def dOK (nt : Nat) (o : Oper) : Bool := match o.dst with | none => true | some d => Nat.blt d nt
def genOf (c : Cx) (nt : Nat) (ops : Array Oper) (id : Nat) (o : Oper) (s : S) : Gen :=
  cond (dOK nt o) (match wd ops s o with
    | .yes => act c.P c.ap (isZ ops o) id o s.ev
    | .no => .now (.v undef)
    | .may b _ want => cond (cond want b (!b)) (act c.P c.ap (isZ ops o) id o s.ev) (.now (.v undef))
    | .bad => .bad) .bad
def pf (chk : Gen → Bool) (o : Oper) (s : S) (k : Gen → S → Tree) (g : Gen) : Tree := cond (chk g) (perform s o.dst (k g) g) .bad
def stepC (c : Cx) (nt : Nat) (chk : Gen → Bool) (ops : Array Oper) (id : Nat) (o : Oper) (s : S) (k : Gen → S → Tree) : Tree :=
  cond (dOK nt o) (match wd ops s o with
    | .yes => pf chk o s k (act c.P c.ap (isZ ops o) id o s.ev)
    | .no => pf chk o s k (.now (.v undef))
    | .may b d want => .br (cond want b (!b)) (pf chk o (s.put (some d) (.v (.bool want))) k (act c.P c.ap (isZ ops o) id o (s.put (some d) (.v (.bool want))).ev)) (pf chk o (s.put (some d) (.v (.bool (!want)))) k (.now (.v undef)))
    | .bad => .bad) .bad
section
variable {c : Cx} {F : Value → S → World → Prop} {K : World → Prop} {nt : Nat} {ops : Array Oper}
theorem wd_may {s : S} {o : Oper} {b want : Bool} {d : Nat} (h : wd ops s o = .may b d want) : s.fr d = .v (.bool b) := by
  unfold wd at h
  split at h
  · cases h
  · split at h
    · cases h
    · split at h
      · rename_i hf
        injection h with h1 h2 h3
        subst h1; subst h2
        exact hf
      · cases h
      · cases h
theorem S.put_same {s : S} {d : Nat} {x : AV} (h : s.fr d = x) : s.put (some d) x = s := by
  have : upd s.fr d x = s.fr := by
    funext t
    rw [upd_apply]
    split
    · rename_i e
      subst e
      exact h.symm
    · rfl
  simp only [S.put, this]
theorem pf_ok {chk : Gen → Bool} {o : Oper} {s : S} {k : Gen → S → Tree} {g : Gen} : TreeOK c F (pf chk o s k g) K ↔ chk g = true ∧ TreeOK c F (perform s o.dst (k g) g) K := by
  unfold pf
  cases chk g with
  | true => simp
  | false => simp [TreeOK]
theorem step_ok {chk : Gen → Bool} {id : Nat} {o : Oper} {s : S} {k : Gen → S → Tree} : TreeOK c F (stepC c nt chk ops id o s k) K ↔ chk (genOf c nt ops id o s) = true ∧ TreeOK c F (perform s o.dst (k (genOf c nt ops id o s)) (genOf c nt ops id o s)) K := by
  unfold stepC genOf
  cases dOK nt o with
  | false => simp [TreeOK, perform]
  | true =>
    simp only [cond_true]
    cases hw : wd ops s o with
    | yes => exact pf_ok
    | no => exact pf_ok
    | bad => simp [TreeOK, perform]
    | may b d want =>
      have hd := wd_may hw
      have same : ∀ v, b = v → s.put (some d) (.v (.bool v)) = s := fun v e => by subst e; exact S.put_same hd
      dsimp only
      cases hb : (cond want b (!b)) with
      | true =>
        have e : b = want := by cases want <;> simpa using hb
        rw [same want e]
        simp only [TreeOK, cond_true, Bool.true_eq_false, false_implies, and_true, true_implies]; exact pf_ok
      | false =>
        have e : b = !want := by cases want <;> simpa using hb
        rw [same _ e]
        simp only [TreeOK, cond_false, Bool.false_eq_true, false_implies, true_and, true_implies]; exact pf_ok
theorem S.ev_put {s s' : S} {d : Option Nat} {x : AV} (hf : s'.fr = (s.put d x).fr) {y : Operand} (h : ∀ e, d = some e → y ≠ .tmp e) : s'.ev y = s.ev y := by
  cases y with
  | tmp t =>
    show s'.fr t = s.fr t
    rw [hf]
    cases d with
    | none => rfl
    | some e =>
      have : t ≠ e := fun q => h e rfl (by rw [q])
      exact upd_other _ _ this
  | _ => rfl
theorem genOf_stable {id : Nat} {o : Oper} {s s' : S} {d : Option Nat} {x : AV} (hf : s'.fr = (s.put d x).fr) (h : ∀ e, d = some e → e ∉ o.looksAt ops) : genOf c nt ops id o s' = genOf c nt ops id o s := by
  have h1 : act c.P c.ap (isZ ops o) id o s'.ev = act c.P c.ap (isZ ops o) id o s.ev := act_congr fun y hy => S.ev_put hf fun e he hye => h e he (by
    subst hye
    exact List.mem_append_left _ (List.mem_filterMap.2 ⟨.tmp e, by simpa using hy, rfl⟩))
  have h2 : wd ops s' o = wd ops s o := by
    unfold wd
    cases hg : o.guard with
    | none => rfl
    | some gw =>
      obtain ⟨g, want⟩ := gw
      dsimp only
      cases ht : (ops[g]?).bind (·.dst) with
      | none => rfl
      | some t =>
        have : s'.fr t = s.fr t := by
          rw [hf]
          cases d with
          | none => rfl
          | some e => exact upd_other _ _ fun q => h e rfl (by subst q; simp [Oper.looksAt, hg, ht])
        dsimp only
        rw [this]
  unfold genOf
  rw [h1, h2]
theorem adjC (hg : Good c K) {ci cj : Gen → Bool} {idi idj : Nat} {oi oj : Oper} {s : S} {X : Gen → S → Tree} (hap : oj.apart ops oi = true)
    (h : TreeOK c F (stepC c nt cj ops idj oj s fun gj s1 => stepC c nt (fun gi => okPair gj gi && ci gi) ops idi oi s1 fun _ s' => X gj s') K) :
    TreeOK c F (stepC c nt ci ops idi oi s fun _ s2 => stepC c nt cj ops idj oj s2 fun gj s' => X gj s') K := by
  obtain ⟨a1, a2, a3⟩ := Oper.apart_spec hap
  rw [step_ok] at h ⊢
  obtain ⟨hj, h⟩ := h
  have hpair : (okPair (genOf c nt ops idj oj s) (genOf c nt ops idi oi s) && ci (genOf c nt ops idi oi s)) = true := perform_pure hg h fun s' K' _ ⟨x, hf⟩ ht => by
    rw [step_ok, genOf_stable hf a1] at ht
    exact ht.1
  simp only [Bool.and_eq_true] at hpair
  refine ⟨hpair.2, ?_⟩
  have h1 : TreeOK c F (perform s oj.dst (fun s1 => perform s1 oi.dst (fun s' => X (genOf c nt ops idj oj s) s') (genOf c nt ops idi oi s)) (genOf c nt ops idj oj s)) K := perform_mono hg (fun s' K' _ _ ⟨x, hf⟩ ht => by
    rw [step_ok, genOf_stable hf a1] at ht
    exact ht.2) h
  have h2 := adj hg hpair.1 a2 h1
  refine perform_mono hg (fun s' K' _ _ ⟨x, hf⟩ ht => ?_) h2
  rw [step_ok, genOf_stable hf a3]
  exact ⟨hj, ht⟩
theorem stepC_mono (hg : Good c K) {chk chk' : Gen → Bool} {id : Nat} {o : Oper} {s : S} {k k' : Gen → S → Tree} (hc : ∀ g, chk g = true → chk' g = true)
    (hk : ∀ g s' K', Good c K' → TreeOK c F (k g s') K' → TreeOK c F (k' g s') K') (h : TreeOK c F (stepC c nt chk ops id o s k) K) : TreeOK c F (stepC c nt chk' ops id o s k') K := by
  rw [step_ok] at h ⊢
  exact ⟨hc _ h.1, perform_mono hg (fun s' K' hg' _ _ ht => hk _ _ _ hg' ht) h.2⟩
def maskOf (acc : List Nat) (o : Oper) : Nat := o.after.toList.foldl (fun m e => cond (Region.binds .any e) (m ||| (2 ^ e.on ||| acc.getD e.on 0)) m) 0
def masksFrom : List Nat → List Oper → List Nat
  | acc, [] => acc
  | acc, o :: l => masksFrom (acc ++ [maskOf acc o]) l
def masks (ops : Array Oper) : List Nat := masksFrom [] ops.toList
structure Hs where
  j : Nat
  o : Oper
  g : Gen
def chkH (ops : Array Oper) (m : Nat) (oi : Oper) (g : Gen) : List Hs → Bool
  | [] => true
  | x :: h => (Nat.testBit m x.j || (x.o.apart ops oi && okPair x.g g)) && chkH ops m oi g h
def runD (c : Cx) (nt : Nat) (ops : Array Oper) (bf : List Nat) (base : Nat) : List Nat → List Hs → S → (S → Tree) → Tree
  | [], _, s, k => k s
  | i :: l, h, s, k => match ops[i]? with
    | none => .bad
    | some o => stepC c nt (fun g => chkH ops (bf.getD i 0) o g h) ops (base + i) o s fun g s' => runD c nt ops bf base l (⟨i, o, g⟩ :: h) s' k
theorem runD_less {bf : List Nat} {base : Nat} {k : S → Tree} : ∀ (l : List Nat) (h h' : List Hs) (s : S) (K : World → Prop), Good c K → (∀ m oi g, chkH ops m oi g h = true → chkH ops m oi g h' = true) →
    TreeOK c F (runD c nt ops bf base l h s k) K → TreeOK c F (runD c nt ops bf base l h' s k) K
  | [], _, _, _, _, _, _, H => H
  | i :: l, h, h', s, K, hg, hh, H => by
    simp only [runD] at H ⊢
    split at H
    · exact H
    · rename_i o ho
      refine stepC_mono hg (fun g e => hh _ _ _ e) (fun g s' K' hg' ht => ?_) H
      refine runD_less l _ _ s' K' hg' (fun m oi g' e => ?_) ht
      simp only [chkH, Bool.and_eq_true] at e ⊢
      exact ⟨e.1, hh _ _ _ e.2⟩
theorem pull {bf : List Nat} {base : Nat} {k : S → Tree} {i : Nat} {oi : Oper} (hi : ops[i]? = some oi) {l2 : List Nat} : ∀ (l1 : List Nat) (h : List Hs) (s : S) (K : World → Prop), Good c K → (∀ j ∈ l1, Nat.testBit (bf.getD i 0) j = false) →
    TreeOK c F (runD c nt ops bf base (l1 ++ i :: l2) h s k) K → TreeOK c F (stepC c nt (fun g => chkH ops (bf.getD i 0) oi g h) ops (base + i) oi s fun _ s' => runD c nt ops bf base (l1 ++ l2) h s' k) K
  | [], h, s, K, hg, _, H => by
    simp only [List.nil_append, runD, hi] at H ⊢
    refine stepC_mono hg (fun g e => e) (fun g s' K' hg' ht => ?_) H
    refine runD_less l2 _ _ s' K' hg' (fun m o g' e => ?_) ht
    simp only [chkH, Bool.and_eq_true] at e
    exact e.2
  | j :: l1, h, s, K, hg, hj, H => by
    simp only [List.cons_append, runD] at H
    split at H
    · exact H.elim
    · rename_i oj hoj
      have h1 := stepC_mono (chk' := fun g => chkH ops (bf.getD j 0) oj g h) (k' := fun gj s1 => stepC c nt (fun gi => chkH ops (bf.getD i 0) oi gi (⟨j, oj, gj⟩ :: h)) ops (base + i) oi s1 fun _ s' => runD c nt ops bf base (l1 ++ l2) (⟨j, oj, gj⟩ :: h) s' k) hg (fun g e => e)
        (fun gj s1 K' hg' ht => pull hi l1 _ s1 K' hg' (fun q hq => hj q (by simp [hq])) ht) H
      have hb : Nat.testBit (bf.getD i 0) j = false := hj j (by simp)
      have hap : oj.apart ops oi = true := by
        rw [step_ok] at h1
        refine perform_pure hg h1.2 fun s' K' _ _ ht => ?_
        rw [step_ok] at ht
        have := ht.1
        simp only [chkH, hb, Bool.false_or, Bool.and_eq_true] at this
        exact this.1.1
      have h2 := stepC_mono (chk' := fun g => chkH ops (bf.getD j 0) oj g h) (k' := fun gj s1 => stepC c nt (fun gi => okPair gj gi && chkH ops (bf.getD i 0) oi gi h) ops (base + i) oi s1 fun _ s' => runD c nt ops bf base (l1 ++ l2) (⟨j, oj, gj⟩ :: h) s' k) hg (fun g e => e)
        (fun gj s1 K' hg' ht => stepC_mono hg' (fun g e => by
          simp only [chkH, hb, Bool.false_or, Bool.and_eq_true] at e ⊢
          exact ⟨e.1.2, e.2⟩) (fun _ _ _ _ x => x) ht) h1
      have h3 := adjC hg hap h2
      refine stepC_mono hg (fun g e => e) (fun g s2 K' hg' ht => ?_) h3
      simp only [List.cons_append, runD, hoj]
      exact ht
theorem wd_sound {r : Nat → Nat} {s : S} {a : Go.Act} {w : World} (hR : RR c nt r s a w) (o : Oper) :
    match wd ops s o with
    | .yes => Region.wanted o (yielded ops a.tmps) = true
    | .no => Region.wanted o (yielded ops a.tmps) = false
    | .may b _ want => Region.wanted o (yielded ops a.tmps) = cond want b (!b)
    | .bad => True := by
  unfold wd Region.wanted
  cases hg : o.guard with
  | none => simp
  | some gw =>
    obtain ⟨g, want⟩ := gw
    dsimp only
    unfold yielded
    cases ht : (ops[g]?).bind (·.dst) with
    | none => simp
    | some d =>
      have hd := hR.tmp d
      rw [Array.getD_eq_getD_getElem?] at hd
      dsimp only [Option.bind_some]
      cases hf : s.fr d with
      | lp b o => simp
      | ls b n => simp
      | v x =>
        rw [hf] at hd
        cases x with
        | bool b =>
          cases hq : a.tmps[d]? with
          | none => rw [hq] at hd; simp [undef, AV.conc] at hd
          | some y => rw [hq] at hd; simp only [Option.getD_some, AV.conc] at hd; subst hd; cases want <;> cases b <;> simp
        | tuple vs =>
          cases hq : a.tmps[d]? with
          | none => simp
          | some y => rw [hq] at hd; simp only [Option.getD_some, AV.conc] at hd; subst hd; simp
        | _ => simp
theorem step_sound {r : Nat → Nat} {s : S} {a : Go.Act} {w : World} {i id : Nat} {o : Oper} {k : S → Tree} {N : Go.Act → World → Prop} {Q : Exit → Go.Act → World → Prop} (hR : RR c nt r s a w) (hs : Stab c.ap K) (hK : K w) (hi : ops[i]? = some o) (hN : Goes c F nt k N)
    (h : TreeOK c F (perform s o.dst k (genOf c nt ops id o s)) K) : wpOp c.P ops Q i N a w := by
  unfold wpOp
  simp only [hi]
  have hw := wd_sound (ops := ops) hR o
  unfold genOf at h
  cases hdo : dOK nt o with
  | false => rw [hdo] at h; exact h.elim
  | true =>
    have hd : ∀ e, o.dst = some e → e < nt := fun e he => by
      unfold dOK at hdo
      rw [he] at hdo
      simpa [Nat.blt_eq] using hdo
    rw [hdo, cond_true] at h
    have yes : Region.wanted o (yielded ops a.tmps) = true → TreeOK c F (perform s o.dst k (act c.P c.ap (isZ ops o) id o s.ev)) K → (if Region.wanted o (yielded ops a.tmps) = true then o.wp c.P a w N Q ∨ o.asks c.P a w ∧ LetsOut Q else N (a.put o.dst undef) w) := fun e h => by
      rw [if_pos e]
      exact .inl (act_sound hR hs hK hd hN h)
    have no : Region.wanted o (yielded ops a.tmps) = false → TreeOK c F (perform s o.dst k (.now (.v undef))) K → (if Region.wanted o (yielded ops a.tmps) = true then o.wp c.P a w N Q ∨ o.asks c.P a w ∧ LetsOut Q else N (a.put o.dst undef) w) := fun e h => by
      rw [if_neg (by rw [e]; simp)]
      exact hN _ _ _ _ ⟨r, hR.put (x := .v undef) hd (by simp [AV.blk]) rfl⟩ hs hK h
    cases hwd : wd ops s o with
    | yes => rw [hwd] at h hw; exact yes hw h
    | no => rw [hwd] at h hw; exact no hw h
    | bad => rw [hwd] at h; exact h.elim
    | may b d want =>
      rw [hwd] at h hw
      dsimp only at h hw
      cases hb : (cond want b (!b)) with
      | true => rw [hb] at h hw; exact yes hw h
      | false => rw [hb] at h hw; exact no hw h
def runS (c : Cx) (nt : Nat) (ops : Array Oper) (base : Nat) : List Nat → S → (S → Tree) → Tree
  | [], s, k => k s
  | i :: l, s, k => match ops[i]? with
    | none => .bad
    | some o => stepC c nt (fun _ => true) ops (base + i) o s fun _ s' => runS c nt ops base l s' k
theorem runS_sound {base : Nat} {k : S → Tree} {Q : Exit → Go.Act → World → Prop} (hN : Goes c F nt k fun a w => Q .normal a w) : ∀ (l : List Nat) (s : S) (a : Go.Act) (w : World) (K : World → Prop), R c nt s a w → Stab c.ap K → K w → TreeOK c F (runS c nt ops base l s k) K → wpOps c.P ops Q l a w
  | [], s, a, w, K, hR, hs, hK, h => hN s a w K hR hs hK h
  | i :: l, s, a, w, K, ⟨r, hR⟩, hs, hK, h => by
    rw [wpOps_cons]
    simp only [runS] at h
    split at h
    · exact h.elim
    · rename_i o ho
      rw [step_ok] at h
      exact step_sound hR hs hK ho (fun s' a' w' K' hR' hs' hK' ht => runS_sound hN l s' a' w' K' hR' hs' hK' ht) h.2
def Closed (ops : Array Oper) (listed : Array Bool) : Prop := ∀ i o, ops[i]? = some o → listed.getD i false = true → ∀ e ∈ o.after, Region.binds .any e = true → listed.getD e.on false = true
def Snd (ops : Array Oper) (m i : Nat) : Prop := ∀ listed, Closed ops listed → (∀ o, ops[i]? = some o → ∀ e ∈ o.after, Region.binds .any e = true → listed.getD e.on false = true) → ∀ j, Nat.testBit m j = true → listed.getD j false = true
theorem maskOf_bit {acc : List Nat} {j : Nat} : ∀ (l : List Edge) (m : Nat), Nat.testBit (l.foldl (fun m e => cond (Region.binds .any e) (m ||| (2 ^ e.on ||| acc.getD e.on 0)) m) m) j = true → Nat.testBit m j = true ∨ ∃ e ∈ l, Region.binds .any e = true ∧ (j = e.on ∨ Nat.testBit (acc.getD e.on 0) j = true)
  | [], m, h => .inl h
  | e :: l, m, h => by
    simp only [List.foldl_cons] at h
    rcases maskOf_bit l _ h with h | ⟨e', he, hb, h⟩
    · cases hb : Region.binds .any e with
      | false => rw [hb, cond_false] at h; exact .inl h
      | true =>
        rw [hb, cond_true, Nat.testBit_or, Nat.testBit_or, Nat.testBit_two_pow] at h
        simp only [Bool.or_eq_true, decide_eq_true_eq] at h
        rcases h with h | h | h
        · exact .inl h
        · exact .inr ⟨e, by simp, hb, .inl h.symm⟩
        · exact .inr ⟨e, by simp, hb, .inr h⟩
    · exact .inr ⟨e', by simp [he], hb, h⟩
theorem masksFrom_snd : ∀ (l : List Oper) (acc : List Nat), (∀ i o, l[i]? = some o → ops[acc.length + i]? = some o) → (∀ i, i < acc.length → Snd ops (acc.getD i 0) i) → ∀ i, Snd ops ((masksFrom acc l).getD i 0) i
  | [], acc, _, ha, i => by
    by_cases hi : i < acc.length
    · exact ha i hi
    · intro listed _ _ j hj
      simp only [masksFrom] at hj
      rw [List.getD_eq_getElem?_getD, List.getElem?_eq_none (by omega)] at hj
      simp at hj
  | o :: l, acc, hl, ha, i => by
    refine masksFrom_snd l (acc ++ [maskOf acc o]) (fun i o' h => ?_) (fun i hi => ?_) i
    · have := hl (i + 1) o' (by simpa using h)
      rw [List.length_append, List.length_singleton]
      rwa [show acc.length + 1 + i = acc.length + (i + 1) by omega]
    · rw [List.length_append, List.length_singleton] at hi
      by_cases h : i < acc.length
      · have := ha i h
        rwa [List.getD_eq_getElem?_getD, List.getElem?_append_left h, ← List.getD_eq_getElem?_getD]
      · have : i = acc.length := by omega
        subst this
        have ho := hl 0 o rfl
        intro listed hc hd j hj
        rw [List.getD_eq_getElem?_getD, List.getElem?_append_right (Nat.le_refl _)] at hj
        simp only [Nat.sub_self, List.getElem?_cons_zero, Option.getD_some] at hj
        rcases maskOf_bit _ _ hj with h0 | ⟨e, he, hb, h1⟩
        · simp at h0
        · have hle := hd o (by simpa using ho) e (by simpa using he) hb
          rcases h1 with rfl | h1
          · exact hle
          · have hlt : e.on < acc.length := by
              rcases Nat.lt_or_ge e.on acc.length with q | q
              · exact q
              · rw [List.getD_eq_getElem?_getD, List.getElem?_eq_none q] at h1; simp at h1
            exact ha e.on hlt listed hc (fun o' ho' e' he' hb' => hc e.on o' ho' hle e' he' hb') j h1
theorem masks_snd (ops : Array Oper) (i : Nat) : Snd ops ((masks ops).getD i 0) i :=
  masksFrom_snd ops.toList [] (fun i o h => by simpa using h) (by simp) i
def lowOK (ops : Array Oper) : Bool := go 0 ops.toList
where go : Nat → List Oper → Bool
  | _, [] => true
  | i, o :: l => o.after.toList.all (fun e => !Region.binds .any e || Nat.blt e.on i) && go (i + 1) l
theorem lowOK_go : ∀ {l : List Oper} {i : Nat}, lowOK.go i l = true → ∀ j o, l[j]? = some o → ∀ e ∈ o.after, Region.binds .any e = true → e.on < i + j
  | [], _, _, j, o, ho, _, _, _ => by simp at ho
  | x :: l, i, h, j, o, ho, e, he, hb => by
    simp only [lowOK.go, Bool.and_eq_true] at h
    cases j with
    | zero =>
      simp only [List.getElem?_cons_zero, Option.some.injEq] at ho
      subst ho
      have := List.all_eq_true.1 h.1 e (by simpa using he)
      simp only [hb, Bool.not_true, Bool.false_or] at this
      simpa [Nat.blt_eq] using this
    | succ j =>
      have := lowOK_go h.2 j o (by simpa using ho) e he hb
      omega
theorem lowOK_spec (h : lowOK ops = true) {i : Nat} {o : Oper} (ho : ops[i]? = some o) : ∀ e ∈ o.after, Region.binds .any e = true → e.on < i := fun e he hb => by
  have := lowOK_go h i o (by simpa using ho) e he hb
  omega
def permB (n : Nat) : Nat → List Nat → Bool
  | m, [] => Nat.beq m (2 ^ n - 1)
  | m, i :: l => Nat.blt i n && (!Nat.testBit m i && permB n (m ||| 2 ^ i) l)
theorem permB_spec {n : Nat} : ∀ {l : List Nat} {m : Nat}, permB n m l = true → l.Nodup ∧ (∀ i ∈ l, i < n ∧ Nat.testBit m i = false) ∧ ∀ i, i < n → Nat.testBit m i = true ∨ i ∈ l
  | [], m, h => by
    have := Nat.eq_of_beq_eq_true h
    subst this
    refine ⟨by simp, by simp, fun i hi => .inl ?_⟩
    rw [Nat.testBit_two_pow_sub_one]
    simpa using hi
  | x :: l, m, h => by
    simp only [permB, Bool.and_eq_true, Bool.not_eq_true'] at h
    obtain ⟨h1, h2, h3⟩ := h
    obtain ⟨g1, g2, g3⟩ := permB_spec h3
    have hx : x < n := by simpa [Nat.blt_eq] using h1
    refine ⟨List.nodup_cons.2 ⟨fun hm => ?_, g1⟩, fun i hi => ?_, fun i hi => ?_⟩
    · have := (g2 x hm).2
      rw [Nat.testBit_or, Nat.testBit_two_pow] at this
      simp at this
    · rcases List.mem_cons.1 hi with rfl | hi
      · exact ⟨hx, h2⟩
      · have := g2 i hi
        rw [Nat.testBit_or] at this
        simp only [Bool.or_eq_false_iff] at this
        exact ⟨this.1, this.2.1⟩
    · rcases g3 i hi with h | h
      · rw [Nat.testBit_or, Nat.testBit_two_pow] at h
        simp only [Bool.or_eq_true, decide_eq_true_eq] at h
        rcases h with h | rfl
        · exact .inl h
        · exact .inr (by simp)
      · exact .inr (by simp [h])
theorem runD_sound (hlow : lowOK ops = true) {base : Nat} {k : S → Tree} {Q : Exit → Go.Act → World → Prop} (hN : Goes c F nt k fun a w => Q .normal a w) :
    ∀ (n : Nat) (l : List Nat) (listed : Array Bool) (s : S) (a : Go.Act) (w : World) (K : World → Prop), l.length = n → listed.size = ops.size → l.Nodup → (∀ i, i < ops.size → (listed.getD i true = false ↔ i ∈ l)) → (∀ i ∈ l, i < ops.size) → Closed ops listed →
      R c nt s a w → Stab c.ap K → K w → TreeOK c F (runD c nt ops (masks ops) base l [] s k) K → wpAny c.P .any ops Q n listed a w := by
  intro n
  induction n with
  | zero =>
    intro l listed s a w K hl hsz hnd hmem hlt hcl hR hs hK h
    have : l = [] := List.length_eq_zero_iff.1 hl
    subst this
    refine ⟨?_, hN s a w K hR hs hK h⟩
    cases hr : Region.ready .any ops listed with
    | nil => rfl
    | cons x xs =>
      have hx : x ∈ Region.ready .any ops listed := by rw [hr]; simp
      obtain ⟨h0, o, ho, _⟩ := mem_ready.1 hx
      have := (hmem x (Array.getElem?_eq_some_iff.1 ho).1).1 h0
      cases this
  | succ n ih =>
    intro l listed s a w K hl hsz hnd hmem hlt hcl hR hs hK h
    refine ⟨fun hr => ?_, fun i hi => ?_⟩
    · exfalso
      have hex : ∃ i, i ∈ l := by
        cases l with
        | nil => simp at hl
        | cons x xs => exact ⟨x, by simp⟩
      have key : ∀ m i, i ≤ m → i ∈ l → False := by
        intro m
        induction m with
        | zero =>
          intro i him hi
          have hi0 : i = 0 := by omega
          subst hi0
          have hlt0 := hlt 0 hi
          have : 0 ∈ Region.ready .any ops listed := mem_ready.2 ⟨(hmem 0 hlt0).2 hi, ops[0], by simp, fun e he hb => by have := lowOK_spec hlow (i := 0) (o := ops[0]) (by simp) e he hb; omega⟩
          rw [hr] at this
          cases this
        | succ m ihm =>
          intro i him hi
          have hlti := hlt i hi
          have : i ∈ Region.ready .any ops listed := mem_ready.2 ⟨(hmem i hlti).2 hi, ops[i], by simp [hlti], fun e he hb => by
            have hel := lowOK_spec hlow (i := i) (o := ops[i]) (by simp [hlti]) e he hb
            have helt : e.on < ops.size := by omega
            by_cases hu : listed.getD e.on true = false
            · exact (ihm e.on (by omega) ((hmem e.on helt).1 hu)).elim
            · have h2 : e.on < listed.size := by omega
              simp [h2] at hu ⊢
              exact hu⟩
          rw [hr] at this
          cases this
      obtain ⟨i, hi⟩ := hex
      exact key i i (Nat.le_refl _) hi
    · obtain ⟨h0, o, ho, hdeps⟩ := mem_ready.1 hi
      have hlti := (Array.getElem?_eq_some_iff.1 ho).1
      have hil : i ∈ l := (hmem i hlti).1 h0
      obtain ⟨l1, l2, rfl⟩ := List.append_of_mem hil
      have hg : Good c K := ⟨hs, w, hK, hR.elim fun r h => h.base⟩
      have hun : ∀ j ∈ l1, Nat.testBit ((masks ops).getD i 0) j = false := by
        intro j hj
        cases hb : Nat.testBit ((masks ops).getD i 0) j with
        | false => rfl
        | true =>
          have h1 := masks_snd ops i listed hcl (fun o' ho' => by rw [ho] at ho'; cases ho'; exact hdeps) j hb
          have h2 := (hmem j (hlt j (by simp [hj]))).2 (by simp [hj])
          have hjl : j < listed.size := by have := hlt j (by simp [hj]); omega
          simp [hjl] at h1 h2
          rw [h1] at h2
          cases h2
      have h1 := pull (c := c) (F := F) (nt := nt) (base := base) (k := k) ho (l2 := l2) l1 [] s K hg hun h
      rw [step_ok] at h1
      obtain ⟨r, hR⟩ := hR
      have hnd' := List.nodup_append.1 hnd
      have hnd2 := List.nodup_cons.1 hnd'.2.1
      refine step_sound hR hs hK ho (fun s' a' w' K' hR' hs' hK' ht => ?_) h1.2
      refine ih (l1 ++ l2) (listed.setIfInBounds i true) s' a' w' K' (by simp at hl ⊢; omega) (by simpa using hsz) ?_ (fun j hj => ?_) (fun j hj => hlt j (by simp at hj ⊢; rcases hj with h | h <;> simp [h])) ?_ hR' hs' hK' ht
      · refine List.nodup_append.2 ⟨hnd'.1, hnd2.2, fun x hx y hy => hnd'.2.2 x hx y (by simp [hy])⟩
      · by_cases hji : i = j
        · subst hji
          have hsz' : i < listed.size := by omega
          simp only [Array.getD_eq_getD_getElem?, Array.getElem?_setIfInBounds, hsz', if_true]
          constructor
          · intro e; simp at e
          · intro e
            exfalso
            rcases List.mem_append.1 e with e | e
            · exact hnd'.2.2 i e i (by simp) rfl
            · exact hnd2.1 e
        · rw [getD_set_ne true hji, hmem j hj]
          simp [Ne.symm hji]
      · intro j oj hoj hlj e he hb
        by_cases hji : i = j
        · subst hji
          rw [ho] at hoj
          cases hoj
          exact getD_set_true (hdeps e he hb)
        · rw [getD_set_ne false hji] at hlj
          exact getD_set_true (hcl j oj hoj hlj e he hb)
end
def clsOf (ops : Array Oper) (o : Oper) : Nat :=
  match o.op with
  | .call ⟨.value _, _, _⟩ => 1
  | .buildSlice _ _ _ => 2
  | .call ⟨.builtin .append, _, _⟩ => cond (isZ ops o) 1 3
  | _ => 0
def depsOf (o : Oper) : Nat := o.after.toList.foldl (fun m e => cond (Region.binds .any e) (m ||| 2 ^ e.on) m) 0
def pick (m q : Nat) : Nat → List (Nat × Nat) → Option Nat
  | _, [] => none
  | i, (d, z) :: l => cond (!Nat.testBit m i && (Nat.beq z q && Nat.beq (d &&& m) d)) (some i) (pick m q (i + 1) l)
def planGo (t : List (Nat × Nat)) : Nat → Nat → List Nat
  | 0, _ => []
  | n + 1, m => match pick m 0 0 t with
    | some i => i :: planGo t n (m ||| 2 ^ i)
    | none => match pick m 1 0 t with
      | some i => i :: planGo t n (m ||| 2 ^ i)
      | none => match pick m 2 0 t with
        | some i => i :: planGo t n (m ||| 2 ^ i)
        | none => match pick m 3 0 t with
          | some i => i :: planGo t n (m ||| 2 ^ i)
          | none => []
def plan (ops : Array Oper) : List Nat := planGo (ops.toList.map fun o => (depsOf o, clsOf ops o)) ops.size 0
def regK (c : Cx) (nt : Nat) (ops : Array Oper) (draw : Bool) (s : S) (k : S → Tree) : Tree :=
  cond draw (cond (lowOK ops && permB ops.size 0 (plan ops)) (runD c nt ops (masks ops) s.nx (plan ops) [] s fun s' => k { s' with nx := s.nx + ops.size }) .bad)
    (runS c nt ops s.nx (List.range ops.size) s fun s' => k { s' with nx := s.nx + ops.size })
def S.know (s : S) (x : Operand) (v : Bool) : S := match x with
  | .tmp t => s.put (some t) (.v (.bool v))
  | _ => s
theorem S.know_same {s : S} {x : Operand} {v : Bool} (h : s.ev x = .v (.bool v)) : s.know x v = s := by
  cases x with
  | tmp t => exact S.put_same h
  | _ => rfl
def loopN : Nat → (S → (Ex → S → Tree) → Tree) → S → (Ex → S → Tree) → Tree
  | 0, _, _, _ => .bad
  | n + 1, f, s, k => f s fun e s' => match e with
    | .normal => loopN n f s' k
    | e => k e s'
def loopK (U : Nat) (p : Tree) (f : S → (Ex → S → Tree) → Tree) (s : S) (k : Ex → S → Tree) : Tree := match U with
  | 0 => p
  | u + 1 => loopN (u + 1) f s k
theorem loopK_zero {U : Nat} {p : Tree} {f : S → (Ex → S → Tree) → Tree} {s : S} {k : Ex → S → Tree} (h : U = 0) : loopK U p f s k = p := by subst h; rfl
theorem loopK_succ {U u : Nat} {p : Tree} {f : S → (Ex → S → Tree) → Tree} {s : S} {k : Ex → S → Tree} (h : U = u + 1) : loopK U p f s k = loopN (u + 1) f s k := by subst h; rfl
def exec (c : Cx) (nt U : Nat) : Code → S → (Ex → S → Tree) → Tree
  | .skip, s, k => k .normal s
  | .region _ ops d, s, k => regK c nt ops d s (k .normal)
  | .seq x y, s, k => exec c nt U x s fun e s' => match e with
    | .normal => exec c nt U y s' k
    | e => k e s'
  | .cond b x y, s, k => match s.ev b with
    | .v (.bool t) => .br t (exec c nt U x (s.know b true) k) (exec c nt U y (s.know b false) k)
    | _ => .bad
  | .block id x, s, k => exec c nt U x s fun e s' => match e with
    | .exit id' => cond (Nat.beq id' id) (k .normal s') (k (.exit id') s')
    | e => k e s'
  | .exit id, s, k => k (.exit id) s
  | .ret, s, k => k .ret s
  | .loop x, s, k => loopK U (.loop nt x s k) (fun s k => exec c nt U x s k) s k
  | _, _, _ => .bad
section
variable {c : Cx} {F : Value → S → World → Prop} {nt U : Nat}
theorem R.nx {s : S} {a : Go.Act} {w : World} (h : R c nt s a w) (n : Nat) : R c nt { s with nx := n } a w := by
  obtain ⟨r, h⟩ := h
  exact ⟨r, h.defers, h.size, h.tmp, h.live, h.blk, h.inj, h.own, h.base, h.bor, h.tys⟩
theorem R.up {s : S} {a : Go.Act} {w w' : World} (h : R c nt s a w) (hb : Below w.heap.size w w') : R c nt s a w' := by
  obtain ⟨r, h⟩ := h
  exact ⟨r, h.up hb⟩
theorem regK_sound (hm : c.P.follows .mixedOrders = true) {id : Nat} {ops : Array Oper} {d : Bool} {s : S} {k : S → Tree} {K : World → Prop} {a : Go.Act} {w : World} {Q : Exit → Go.Act → World → Prop} (hR : R c nt s a w) (hs : Stab c.ap K) (hK : K w)
    (hN : Goes c F nt k fun a w => Q .normal a w) (h : TreeOK c F (regK c nt ops d s k) K) : (Code.region id ops d).wp c.P Q a w := by
  have hN' : Goes c F nt (fun s' => k { s' with nx := s.nx + ops.size }) fun a w => Q .normal a w := fun s' a' w' K' hR' hs' hK' ht => hN _ a' w' K' (hR'.nx _) hs' hK' ht
  unfold regK at h
  cases d with
  | false =>
    rw [cond_false] at h
    exact wp_region (runS_sound hN' _ s a w K hR hs hK h)
  | true =>
    rw [cond_true] at h
    cases hc : (lowOK ops && permB ops.size 0 (plan ops)) with
    | false => rw [hc] at h; exact h.elim
    | true =>
      rw [hc, cond_true] at h
      simp only [Bool.and_eq_true] at hc
      obtain ⟨h1, h2⟩ := hc
      obtain ⟨p1, p2, p3⟩ := permB_spec h2
      have hb : Below w.heap.size w w.drew := (Below.refl _ w).drew
      have hlen : (plan ops).length = ops.size := by
        have hp : (plan ops).Perm (List.range ops.size) := by
          refine (List.perm_ext_iff_of_nodup p1 List.nodup_range).2 fun i => ?_
          rw [List.mem_range]
          constructor
          · exact fun hi => (p2 i hi).1
          · intro hi
            rcases p3 i hi with h | h
            · simp at h
            · exact h
        simpa using hp.length_eq
      refine wp_region_any hm ?_
      refine runD_sound (c := c) (F := F) (nt := nt) h1 hN' ops.size (plan ops) _ s a w.drew K hlen (by simp) p1 (fun i hi => ?_) (fun i hi => (p2 i hi).1) ?_ (hR.up hb) hs (hs _ _ (.of_below hb) hK) h
      · simp only [Array.getD_eq_getD_getElem?, Array.getElem?_replicate, hi, if_true, Option.getD_some, true_iff]
        rcases p3 i hi with h | h
        · simp at h
        · exact h
      · intro i o _ hl
        exfalso
        rw [Array.getD_eq_getD_getElem?, Array.getElem?_replicate] at hl
        split at hl <;> simp at hl
theorem exec_sound (hm : c.P.follows .mixedOrders = true) : ∀ (x : Code) (s : S) (k : Ex → S → Tree) (K : World → Prop) (a : Go.Act) (w : World) (Q : Exit → Go.Act → World → Prop), R c nt s a w → Stab c.ap K → K w →
    (∀ e, Goes c F nt (k e) fun a' w' => Q e.real a' w') → TreeOK c F (exec c nt U x s k) K → x.wp c.P Q a w
  | .skip, s, k, K, a, w, Q, hR, hs, hK, hN, h => wp_skip (hN .normal s a w K hR hs hK h)
  | .region _ ops d, s, k, K, a, w, Q, hR, hs, hK, hN, h => regK_sound hm hR hs hK (hN .normal) h
  | .seq x y, s, k, K, a, w, Q, hR, hs, hK, hN, h => by
    refine wp_seq (exec_sound hm x s _ K a w _ hR hs hK (fun e => ?_) h)
    cases e with
    | normal => exact fun s' a' w' K' hR' hs' hK' ht => exec_sound hm y s' k K' a' w' Q hR' hs' hK' hN ht
    | exit id => exact hN (.exit id)
    | ret => exact hN .ret
  | .cond b x y, s, k, K, a, w, Q, hR, hs, hK, hN, h => by
    obtain ⟨r, hR'⟩ := id hR
    have eb := hR'.ev b
    simp only [exec] at h
    split at h
    · rename_i t hb
      rw [hb] at eb
      refine wp_cond_split (t := t) eb (fun e => ?_) (fun e => ?_)
      · have h1 := h.1 e
        rw [S.know_same (by rw [hb, e])] at h1
        exact exec_sound hm x s k K a w Q hR hs hK hN h1
      · have h1 := h.2 e
        rw [S.know_same (by rw [hb, e])] at h1
        exact exec_sound hm y s k K a w Q hR hs hK hN h1
    · exact h.elim
  | .block id x, s, k, K, a, w, Q, hR, hs, hK, hN, h => by
    refine wp_block (exec_sound hm x s _ K a w _ hR hs hK (fun e => ?_) h)
    cases e with
    | normal => exact hN .normal
    | ret => exact hN .ret
    | exit id' =>
      intro s' a' w' K' hR' hs' hK' ht
      show if id' = id then Q .normal a' w' else Q (.exit id') a' w'
      by_cases hid : id' = id
      · subst hid
        rw [if_pos rfl]
        simp only [Nat.beq_refl, cond_true] at ht
        exact hN .normal s' a' w' K' hR' hs' hK' ht
      · rw [if_neg hid]
        have hb : Nat.beq id' id = false := by
          cases e : Nat.beq id' id with
          | false => rfl
          | true => exact absurd (Nat.eq_of_beq_eq_true e) hid
        simp only [hb, cond_false] at ht
        exact hN (.exit id') s' a' w' K' hR' hs' hK' ht
  | .exit id, s, k, K, a, w, Q, hR, hs, hK, hN, h => wp_exit (hN (.exit id) s a w K hR hs hK h)
  | .ret, s, k, K, a, w, Q, hR, hs, hK, hN, h => wp_ret (hN .ret s a w K hR hs hK h)
  | .loop x, s, k, K, a, w, Q, hR, hs, hK, hN, h => by
    have hU : U = 0 ∨ ∃ u, U = u + 1 := by
      cases U with
      | zero => exact .inl rfl
      | succ u => exact .inr ⟨u, rfl⟩
    rcases hU with hU | ⟨u, hU⟩
    · simp only [exec, loopK_zero hU] at h
      exact h a w Q hR hs hK hN
    · simp only [exec, loopK_succ hU] at h
      refine wp_loop_ghost (fun n a w => ∃ s K, R c nt s a w ∧ Stab c.ap K ∧ K w ∧ TreeOK c F (loopN n (fun s k => exec c nt U x s k) s k) K) (u + 1) ⟨s, K, hR, hs, hK, h⟩ ?_
      rintro n a w ⟨s, K, hR, hs, hK, h⟩
      cases n with
      | zero => exact h.elim
      | succ n =>
        refine exec_sound hm x s _ K a w _ hR hs hK (fun e => ?_) h
        cases e with
        | normal => exact fun s' a' w' K' hR' hs' hK' ht => ⟨n, Nat.lt_succ_self n, s', K', hR', hs', hK', ht⟩
        | exit id => exact hN (.exit id)
        | ret => exact hN .ret
  | .rangeFunc _ _ _ _, _, _, _, _, _, _, _, _, _, _, h => h.elim
  | .scope _, _, _, _, _, _, _, _, _, _, _, h => h.elim
  | .label _, _, _, _, _, _, _, _, _, _, _, h => h.elim
  | .goto _, _, _, _, _, _, _, _, _, _, _, h => h.elim
  | .refuse _, _, _, _, _, _, _, _, _, _, _, h => h.elim
def resV (P : Program) (s : S) : ResultVar → Option Value
  | .tmp t => match s.fr t with
    | .v x => some x
    | _ => none
  | .cell t ty => match s.fr t with
    | .lp b off => match s.hp b with
      | some y => ldL P ty off y
      | none => none
    | _ => none
def resOf (P : Program) (s : S) : List ResultVar → Option Value
  | [] => some (.tuple #[])
  | [x] => resV P s x
  | [x, y] => match resV P s x, resV P s y with
    | some a, some b => some (.tuple #[a, b])
    | _, _ => none
  | [x, y, z] => match resV P s x, resV P s y, resV P s z with
    | some a, some b, some d => some (.tuple #[a, b, d])
    | _, _, _ => none
  | _ => none
theorem resV_run {r : Nat → Nat} {s : S} {a : Go.Act} {w : World} (hR : RR c nt r s a w) {x : ResultVar} {v : Value} (h : resV c.P s x = some v) :
    match x with
      | .tmp t => a.tmps.getD t undef = v
      | .cell t ty => ∃ p, a.tmps.getD t undef = .pointer (some p) ∧ (loadVar ty p).run c.P w = .ok v w := by
  cases x with
  | tmp t =>
    have ht := hR.tmp t
    simp only [resV] at h
    split at h
    · rename_i x hx
      rw [hx] at ht
      injection h with h
      subst h
      exact ht
    · cases h
  | cell t ty =>
    have ht := hR.tmp t
    simp only [resV] at h
    split at h
    · rename_i b off hx
      rw [hx] at ht
      split at h
      · rename_i y hy
        have := ld_run (hR.blk b y hy) h
        simp only [Instr.loadAt, Instr.sureAddr, Sem.run_bind, Sem.run_pure, Result.andThen_ok] at this
        exact ⟨_, ht, this⟩
      · cases h
    · cases h
theorem resOf_run {r : Nat → Nat} {s : S} {a : Go.Act} {w : World} (hR : RR c nt r s a w) {fn : Func} {v : Value} (h : resOf c.P s fn.results.toList = some v) : (results fn a.tmps).run c.P w = .ok v w := by
  unfold results
  have hl : fn.results = fn.results.toList.toArray := by simp
  rw [hl]
  generalize fn.results.toList = l at h ⊢
  match l, h with
  | [], h => simp only [resOf, Option.some.injEq] at h; subst h; simp
  | [x], h =>
    have e := resV_run hR h
    cases x with
    | tmp t => simp_all
    | cell t ty => obtain ⟨p, h1, h2⟩ := e; simp_all [asAddr]
  | [x, y], h =>
    simp only [resOf] at h
    split at h
    · rename_i p q hx hy
      injection h with h
      subst h
      have e1 := resV_run hR hx
      have e2 := resV_run hR hy
      cases x <;> cases y <;> (try obtain ⟨p1, h1, g1⟩ := e1) <;> (try obtain ⟨p2, h2, g2⟩ := e2) <;> simp_all [asAddr]
    · cases h
  | [x, y, z], h =>
    simp only [resOf] at h
    split at h
    · rename_i p q o hx hy hz
      injection h with h
      subst h
      have e1 := resV_run hR hx
      have e2 := resV_run hR hy
      have e3 := resV_run hR hz
      cases x <;> cases y <;> cases z <;> (try obtain ⟨p1, h1, g1⟩ := e1) <;> (try obtain ⟨p2, h2, g2⟩ := e2) <;> (try obtain ⟨p3, h3, g3⟩ := e3) <;> simp_all [asAddr]
    · cases h
def exit (P : Program) (rs : List ResultVar) (e : Ex) (s : S) : Tree :=
  match e with
  | .exit _ => .bad
  | _ => match resOf P s rs with
    | some v => .ret v s
    | none => .bad
end
def S.init (args : List AV) (h : Nat → Option Blk) (nx : Nat) : S := ⟨fun t => (args[t]?).getD (.v undef), h, nx⟩
def avs : List Value → List AV
  | [] => []
  | v :: l => .v v :: avs l
def tree (c : Cx) (U : Nat) (f : FuncId) (args : List Value) : Tree :=
  match c.P.funcs[f]? with
  | some fn => match fn.body with
    | some x => cond (Nat.ble args.length fn.ntmps) (exec c fn.ntmps U x (S.init (avs args) (fun _ => none) 0) (exit c.P fn.results.toList)) .bad
    | none => .bad
  | none => .bad
def treeR (c : Cx) (U : Nat) (f : FuncId) (T : TypeId) (cs : List Value) (args : List Value) : Tree :=
  match c.P.funcs[f]? with
  | some fn => match fn.body with
    | some x => cond (Nat.ble (args.length + 1) fn.ntmps) (exec c fn.ntmps U x (S.init (.lp 0 0 :: avs args) (upd (fun _ => none) 0 (some (T, cs))) 1) (exit c.P fn.results.toList)) .bad
    | none => .bad
  | none => .bad
theorem avs_get (l : List Value) (t : Nat) : (avs l)[t]? = (l[t]?).map .v := by
  induction l generalizing t with
  | nil => rfl
  | cons v l ih =>
    cases t with
    | zero => rfl
    | succ t => simpa [avs] using ih t
theorem pad_get (args : Array Value) (n t : Nat) : (args ++ Array.replicate n undef).getD t undef = (args[t]?).getD undef := by
  rw [Array.getD_eq_getD_getElem?, Array.getElem?_append]
  split
  · rfl
  · rename_i h
    rw [Array.getElem?_replicate]
    split
    · rw [Array.getElem?_eq_none (by omega)]; rfl
    · rw [Array.getElem?_eq_none (by omega)]
theorem exit_goes {P : Program} {ap : TypeId → Bool} {w0 : World} {bo rows : List Nat} {F : Value → S → World → Prop} {fn : Func} {Rr : Ending → World → Prop}
    (hF : ∀ v s w, (⟨P, ap, w0, bo, rows⟩ : Cx).base w → (∀ i x y, bo[i]? = some x → s.hp i = some y → BoxO w x y.1 y.2) → F v s w → Rr (.returned v) w) (e : Ex) :
    Goes ⟨P, ap, w0, bo, rows⟩ F fn.ntmps (exit P fn.results.toList e) fun a' w' => bodyPost P fn Rr e.real a' w' := by
  intro s' a' w' K' hR hs hK h
  obtain ⟨r, hR⟩ := hR
  have key : ∀ t : Tree, t = (match resOf P s' fn.results.toList with
    | some v => .ret v s'
    | none => .bad) → TreeOK ⟨P, ap, w0, bo, rows⟩ F t K' → a'.defers = [] ∧ ∃ v, (results fn a'.tmps).run P w' = .ok v w' ∧ Rr (.returned v) w' := by
    intro t ht hok
    subst ht
    split at hok
    · rename_i v hv
      have hb : ∀ i x y, bo[i]? = some x → s'.hp i = some y → BoxO w' x y.1 y.2 := fun i x y hx hy => by
        obtain ⟨h1, _⟩ := hR.bor i x hx
        have := hR.blk i y hy
        rwa [h1] at this
      exact ⟨hR.defers, v, resOf_run hR hv, hF v s' w' hR.base hb (hok w' hK hR.base hb)⟩
    · exact hok.elim
  cases e with
  | exit id => exact h.elim
  | normal => exact key _ rfl h
  | ret => exact key _ rfl h
theorem run_tree {P : Program} {ap : TypeId → Bool} {U : Nat} {rows : List Nat} {f : FuncId} {args : Array Value} {w : World} {K : World → Prop} {Rr : Ending → World → Prop} (hm : P.follows .mixedOrders = true) (hs : Stab ap K) (hK : K w)
    (h : TreeOK ⟨P, ap, w, [], rows⟩ (fun v _ w' => Rr (.returned v) w') (tree ⟨P, ap, w, [], rows⟩ U f args.toList) K) : Calls P f args w Rr := by
  unfold tree at h
  split at h
  · rename_i fn hf
    split at h
    · rename_i x hx
      cases hn : Nat.ble args.toList.length fn.ntmps with
      | false => rw [hn] at h; exact h.elim
      | true =>
        rw [hn, cond_true] at h
        have hn := Nat.le_of_ble_eq_true hn
        simp at hn
        refine calls_of_wp hf hx (exec_sound (c := ⟨P, ap, w, [], rows⟩) hm x _ _ K _ w _ ⟨fun _ => 0, ?_⟩ hs hK (exit_goes fun v s w' _ _ h => h) h)
        refine ⟨rfl, by simp; omega, fun t => ?_, fun t b e => ?_, by simp [S.init], by simp [S.init], by simp [S.init], But.refl _ _ _, by simp, by simp [S.init]⟩
        · rw [pad_get]
          simp only [S.init, avs_get]
          cases ht : args[t]? <;> simp [ht, AV.conc]
        · simp only [S.init, avs_get] at e
          cases ht : args.toList[t]? <;> simp [ht, AV.blk] at e
    · exact h.elim
  · exact h.elim
theorem run_treeR {P : Program} {ap : TypeId → Bool} {U : Nat} {rows : List Nat} {f : FuncId} {args : List Value} {w : World} {b : Nat} {T : TypeId} {cs : List Value} {K : World → Prop} {Rr : Ending → World → Prop} (hm : P.follows .mixedOrders = true) (hs : Stab ap K) (hK : K w) (hx : BoxO w b T cs) (hT : ap T = true)
    {G : Value → List Value → World → Prop} (hG : ∀ v cs' w', But (b :: rows) w.heap.size w w' → BoxO w' b T cs' → G v cs' w' → Rr (.returned v) w')
    (h : TreeOK ⟨P, ap, w, [b], rows⟩ (fun v s w' => ∃ cs', s.hp 0 = some (T, cs') ∧ G v cs' w') (treeR ⟨P, ap, w, [b], rows⟩ U f T cs args) K) : Calls P f (.pointer (some ⟨b, 0, none⟩) :: args).toArray w Rr := by
  unfold treeR at h
  split at h
  · rename_i fn hf
    split at h
    · rename_i x hx'
      cases hn : Nat.ble (args.length + 1) fn.ntmps with
      | false => rw [hn] at h; exact h.elim
      | true =>
        rw [hn, cond_true] at h
        have hn := Nat.le_of_ble_eq_true hn
        refine calls_of_wp hf hx' (exec_sound (c := ⟨P, ap, w, [b], rows⟩) hm x _ _ K _ w _ ⟨fun _ => b, ?_⟩ hs hK (exit_goes fun v s w' hb hl h => ?_) h)
        · refine ⟨rfl, by simp; omega, fun t => ?_, fun t b' e => ?_, fun b' y e => ?_, fun b1 b2 h1 h2 _ => ?_, fun b' e => .inr (by simp), But.refl _ _ _, fun i x e => ?_, fun b' y e => ?_⟩
          · rw [pad_get]
            simp only [S.init]
            cases t with
            | zero => simp [AV.conc]
            | succ t =>
              simp only [List.getElem?_cons_succ, avs_get, List.getElem?_toArray]
              cases ht : args[t]? <;> simp [AV.conc]
          · simp only [S.init] at e ⊢
            cases t with
            | zero =>
              simp [AV.blk] at e
              rw [← e, upd_same]; rfl
            | succ t =>
              simp only [List.getElem?_cons_succ, avs_get] at e
              cases ht : args[t]? <;> simp [ht, AV.blk] at e
          · simp only [S.init, upd_apply] at e
            split at e
            · injection e with e
              subst e
              exact hx
            · cases e
          · have key : ∀ q, (upd (fun _ => none) 0 (some (T, cs)) q : Option Blk).isSome = true → q = 0 := fun q e => by
              rw [upd_apply] at e
              split at e
              · assumption
              · cases e
            rw [key b1 h1, key b2 h2]
          · cases i with
            | zero =>
              simp at e
              refine ⟨e, ?_⟩
              simp only [S.init, upd_same]; rfl
            | succ i => simp at e
          · simp only [S.init, upd_apply] at e
            split at e
            · injection e with e
              subst e
              exact hT
            · cases e
        · obtain ⟨cs', h1, h2⟩ := h
          exact hG v cs' w' hb (hl 0 b _ rfl h1) h2
    · exact h.elim
  · exact h.elim
inductive Hd where
  | ret (v : Value)
  | call (f : Tgt) (args : List Value)
  | cref (f : FuncId) (T : TypeId) (cs : List Value) (args : List Value)
  | cgrow (f : FuncId) (T : TypeId) (cs : List Value) (args : List Value)
  | load (m : Sem Value)
  | fresh (t : TypeId) (cs : List Value)
  | app (f : Tgt) (args : List Value)
  | ck (p : Prop)
  | br (b : Bool)
  | leaf
  | loop
  | bad
def Tree.hd : Tree → Hd
  | .ret v _ => .ret v
  | .call f a _ => .call f a
  | .cref f T cs a _ => .cref f T cs a
  | .cgrow f T cs a _ => .cgrow f T cs a
  | .load m _ => .load m
  | .fresh t cs _ => .fresh t cs
  | .app f args _ => .app f args
  | .ck p _ => .ck p
  | .br b _ _ => .br b
  | .leaf _ _ => .leaf
  | .loop _ _ _ _ => .loop
  | .bad => .bad
def Tree.nv (v : Value) : Tree → Tree
  | .call _ _ k | .load _ k | .app _ _ k => k v
  | t => t
def Tree.nc (v : Value) (cs : List Value) : Tree → Tree
  | .cref _ _ _ _ k | .cgrow _ _ _ _ k => k v cs
  | t => t
def Tree.nr (r : Nat) : Tree → Tree
  | .fresh _ _ k => k r
  | t => t
def Tree.nx : Tree → Tree
  | .ck _ k => k
  | t => t
def Tree.yes : Tree → Tree
  | .br _ x _ => x
  | t => t
def Tree.no : Tree → Tree
  | .br _ _ y => y
  | t => t
def Tree.st : Tree → S
  | .ret _ s => s
  | .leaf s _ => s
  | _ => ⟨fun _ => .v undef, fun _ => none, 0⟩
structure OK (c : Cx) (F : Value → S → World → Prop) (t : Tree) (K : World → Prop) : Prop where
  out : TreeOK c F t K
section
variable {c : Cx} {F : Value → S → World → Prop} {K : World → Prop} {t : Tree}
theorem t_yes {b : Bool} (hb : b = true) (h : OK c F t.yes K) (hd : t.hd = .br b := by kernel_rfl) : OK c F t K := by
  cases t <;> simp only [Tree.hd, reduceCtorEq, Hd.br.injEq] at hd
  subst hd; subst hb
  exact ⟨fun _ => h.out, fun e => by cases e⟩
theorem t_no {b : Bool} (hb : b = false) (h : OK c F t.no K) (hd : t.hd = .br b := by kernel_rfl) : OK c F t K := by
  cases t <;> simp only [Tree.hd, reduceCtorEq, Hd.br.injEq] at hd
  subst hd; subst hb
  exact ⟨fun e => (by cases e), fun _ => h.out⟩
theorem t_ck {p : Prop} (hp : p) (h : OK c F t.nx K) (hd : t.hd = .ck p := by kernel_rfl) : OK c F t K := by
  cases t <;> simp only [Tree.hd, reduceCtorEq, Hd.ck.injEq] at hd
  subst hd
  exact ⟨hp, h.out⟩
theorem t_load {ty : TypeId} {p : Addr} {v : Value} (hv : ∀ u, K u → c.base u → Reads c.P u ty p v) (h : OK c F (t.nv v) K) (hd : t.hd = .load (loadVar ty p) := by kernel_rfl) : OK c F t K := by
  cases t <;> simp only [Tree.hd, reduceCtorEq, Hd.load.injEq] at hd
  subst hd
  exact ⟨v, hv, h.out⟩
theorem t_sem (m : Sem Value) {v : Value} (hv : ∀ u, K u → c.base u → m.run c.P u = .ok v u) (h : OK c F (t.nv v) K) (hd : t.hd = .load m := by kernel_rfl) : OK c F t K := by
  cases t <;> simp only [Tree.hd, reduceCtorEq, Hd.load.injEq] at hd
  subst hd
  exact ⟨v, hv, h.out⟩
theorem t_fresh (ty : TypeId) (cs : List Value) (h : ∀ r, c.w0.heap.size ≤ r → OK c F (t.nr r) fun u => K u ∧ BoxO u r ty cs) (hT : c.ap ty = false := by kernel_rfl) (hd : t.hd = .fresh ty cs := by kernel_rfl) : OK c F t K := by
  cases t <;> simp only [Tree.hd, reduceCtorEq, Hd.fresh.injEq] at hd
  obtain ⟨rfl, rfl⟩ := hd
  exact ⟨hT, fun r w _ _ hr _ => (h r hr).out⟩
theorem t_call {f : FuncId} {args : Array Value} {R' : World → Ending → World → Prop} (hc : ∀ u, K u → c.base u → Calls c.P f args u (R' u))
    (h : ∀ u e u', K u → c.base u → R' u e u' → ∃ v K1, e = .returned v ∧ Below u.heap.size u u' ∧ Stab c.ap K1 ∧ K1 u' ∧ OK c F (t.nv v) fun x => K x ∧ K1 x) (hd : t.hd = .call (.fn f) args.toList := by kernel_rfl) : OK c F t K := by
  cases t <;> simp only [Tree.hd, reduceCtorEq, Hd.call.injEq] at hd
  obtain ⟨rfl, rfl⟩ := hd
  refine ⟨fun u hu hb => ?_⟩
  rw [Array.toArray_toList]
  exact Does.mono (x := .fn f) (hc u hu hb) fun e u' hR => by
    obtain ⟨v, K1, h1, h2, h3, h4, h5⟩ := h u e u' hu hb hR
    exact ⟨v, K1, h1, h2, h3, h4, h5.out⟩
theorem t_cgrow {f : FuncId} {T : TypeId} {cs : List Value} {args : List Value} {R' : World → Nat → Ending → World → Prop} (hc : ∀ u b, K u → c.base u → BoxO u b T cs → Calls c.P f (.pointer (some ⟨b, 0, none⟩) :: args).toArray u (R' u b))
    (h : ∀ u b e u', K u → c.base u → c.w0.heap.size ≤ b ∨ b ∈ c.bo → BoxO u b T cs → R' u b e u' → ∃ v cs' K', e = .returned v ∧ GrownB c b u u' ∧ BoxO u' b T cs' ∧ Stab c.ap K' ∧ K' u' ∧ OK c F (t.nc v cs') K') (hT : c.ap T = true := by kernel_rfl) (hd : t.hd = .cgrow f T cs args := by kernel_rfl) : OK c F t K := by
  cases t <;> simp only [Tree.hd, reduceCtorEq, Hd.cgrow.injEq] at hd
  obtain ⟨rfl, rfl, rfl, rfl⟩ := hd
  refine ⟨hT, fun u b hu hb ho hx => (hc u b hu hb hx).mono fun e u' hR => ?_⟩
  obtain ⟨v, cs', K1, h1, h2, h3, h4, h5, h6⟩ := h u b e u' hu hb ho hx hR
  exact ⟨v, cs', K1, h1, h2, h3, h4, h5, h6.out⟩
theorem t_appz (ts : Array TypeId) (ty : TypeId) {args : List Value} (h : ∀ w, K w → c.base w → ∃ v w' K1, (Builtin.append_ ts ty args.toArray).run c.P w = .ok v w' ∧ Below w.heap.size w w' ∧ Stab c.ap K1 ∧ K1 w' ∧ OK c F (t.nv v) fun x => K x ∧ K1 x) (hd : t.hd = .call (.app ts ty) args := by kernel_rfl) : OK c F t K := by
  cases t <;> simp only [Tree.hd, reduceCtorEq, Hd.call.injEq] at hd
  obtain ⟨rfl, rfl⟩ := hd
  refine ⟨fun u hu hb => ?_⟩
  obtain ⟨v, w', K1, h1, h2, h3, h4, h5⟩ := h u hu hb
  exact ⟨v, w', h1, v, K1, rfl, h2, h3, h4, h5.out⟩
theorem t_app (ts : Array TypeId) (ty : TypeId) {args : List Value} (h : ∀ w, K w → c.base w → ∃ v w' K', (Builtin.append_ ts ty args.toArray).run c.P w = .ok v w' ∧ Grown c w w' ∧ Stab c.ap K' ∧ K' w' ∧ OK c F (t.nv v) K') (hd : t.hd = .app (.app ts ty) args := by kernel_rfl) : OK c F t K := by
  cases t <;> simp only [Tree.hd, reduceCtorEq, Hd.app.injEq] at hd
  obtain ⟨rfl, rfl⟩ := hd
  refine ⟨fun u hu hb => ?_⟩
  obtain ⟨v, w', K', h1, h2, h3, h4, h5⟩ := h u hu hb
  exact ⟨v, w', h1, v, K', rfl, h2, h3, h4, h5.out⟩
theorem t_grow {f : FuncId} {args : Array Value} {R' : World → Ending → World → Prop} (hc : ∀ u, K u → c.base u → Calls c.P f args u (R' u))
    (h : ∀ u e u', K u → c.base u → R' u e u' → ∃ v K', e = .returned v ∧ Grown c u u' ∧ Stab c.ap K' ∧ K' u' ∧ OK c F (t.nv v) K') (hd : t.hd = .app (.fn f) args.toList := by kernel_rfl) : OK c F t K := by
  cases t <;> simp only [Tree.hd, reduceCtorEq, Hd.app.injEq] at hd
  obtain ⟨rfl, rfl⟩ := hd
  refine ⟨fun u hu hb => ?_⟩
  rw [Array.toArray_toList]
  exact Does.mono (x := .fn f) (hc u hu hb) fun e u' hR => by
    obtain ⟨v, K', h1, h2, h3, h4, h5⟩ := h u e u' hu hb hR
    exact ⟨v, K', h1, h2, h3, h4, h5.out⟩
theorem t_ret (v : Value) (h : ∀ u, K u → c.base u → (∀ i x y, c.bo[i]? = some x → t.st.hp i = some y → BoxO u x y.1 y.2) → F v t.st u) (hd : t.hd = .ret v := by kernel_rfl) : OK c F t K := by
  cases t <;> simp only [Tree.hd, reduceCtorEq, Hd.ret.injEq] at hd
  subst hd
  exact ⟨h⟩
end
def Tree.lit : Nat → Tree → Tree
  | 0, t => t
  | n + 1, .br b x y => (cond b x y).lit n
  | _ + 1, t => t
theorem t_lit {c : Cx} {F : Value → S → World → Prop} {K : World → Prop} (n : Nat) {t : Tree} (h : OK c F (t.lit n) K) : OK c F t K := by
  induction n generalizing t with
  | zero => exact h
  | succ n ih =>
    cases t with
    | br b x y =>
      have h2 := ih h
      cases b with
      | true => exact ⟨fun _ => h2.out, fun e => by cases e⟩
      | false => exact ⟨fun e => (by cases e), fun _ => h2.out⟩
    | _ => exact h
theorem t_Y {c : Cx} {F : Value → S → World → Prop} {K : World → Prop} {b : Bool} (n : Nat) (hb : b = true) {t : Tree} (h : OK c F (t.yes.lit n) K) (hd : t.hd = .br b := by kernel_rfl) : OK c F t K := t_yes hb (t_lit n h) hd
theorem t_N {c : Cx} {F : Value → S → World → Prop} {K : World → Prop} {b : Bool} (n : Nat) (hb : b = false) {t : Tree} (h : OK c F (t.no.lit n) K) (hd : t.hd = .br b := by kernel_rfl) : OK c F t K := t_no hb (t_lit n h) hd
def Tree.lnt : Tree → Nat
  | .loop n _ _ _ => n
  | _ => 0
def Tree.lx : Tree → Code
  | .loop _ x _ _ => x
  | _ => .skip
def Tree.ls : Tree → S
  | .loop _ _ s _ => s
  | _ => ⟨fun _ => .v undef, fun _ => none, 0⟩
def Tree.lk : Tree → Ex → S → Tree
  | .loop _ _ _ k => k
  | _ => fun _ _ => .bad
def ovr {α : Type} : List (Nat × α) → (Nat → α) → Nat → α
  | [], g => g
  | p :: l, g => upd (ovr l g) p.1 p.2
def ovrB : List (Nat × Blk) → Nat → Option Blk
  | [] => fun _ => none
  | p :: l => upd (ovrB l) p.1 (some p.2)
def stAt (f : Nat → Value) (L : List (Nat × AV)) (B : List (Nat × Blk)) (n : Nat) : S := ⟨ovr L fun t => .v (f t), ovrB B, n⟩
def fitL (s : S) : List (Nat × AV) → Prop
  | [] => True
  | p :: l => s.fr p.1 = p.2 ∧ fitL s l
def fitB (s : S) : List (Nat × Blk) → Prop
  | [] => True
  | p :: l => s.hp p.1 = some p.2 ∧ fitB s l
def okLB (B : List (Nat × Blk)) : List (Nat × AV) → Bool
  | [] => true
  | p :: l => (match p.2 with
    | .v _ => true
    | .lp b _ => (ovrB B b).isSome
    | .ls _ _ => false) && okLB B l
def okBo (B : List (Nat × Blk)) : Nat → Bool
  | 0 => true
  | n + 1 => (ovrB B n).isSome && okBo B n
theorem fitL_ovr {s : S} {g : Nat → AV} : ∀ {L : List (Nat × AV)}, fitL s L → ∀ t, ovr L g t = g t ∨ ovr L g t = s.fr t
  | [], _, t => .inl rfl
  | p :: l, h, t => by
    simp only [ovr, upd_apply]
    split
    · rename_i e
      subst e
      exact .inr h.1.symm
    · exact fitL_ovr h.2 t
theorem fitB_ovr {s : S} : ∀ {B : List (Nat × Blk)}, fitB s B → ∀ b y, ovrB B b = some y → s.hp b = some y
  | [], _, b, y, e => by cases e
  | p :: l, h, b, y, e => by
    simp only [ovrB, upd_apply] at e
    split at e
    · rename_i q
      subst q
      rw [← e]; exact h.1
    · exact fitB_ovr h.2 b y e
theorem okLB_spec {B : List (Nat × Blk)} {g : Nat → AV} (hg : ∀ t b, (g t).blk ≠ some b) : ∀ {L : List (Nat × AV)}, okLB B L = true → ∀ t b, (ovr L g t).blk = some b → (ovrB B b).isSome = true
  | [], _, t, b, e => absurd e (hg t b)
  | p :: l, h, t, b, e => by
    simp only [okLB, Bool.and_eq_true] at h
    simp only [ovr, upd_apply] at e
    split at e
    · have h1 := h.1
      cases hp : p.2 with
      | v x => rw [hp] at e; cases e
      | lp b' o =>
        rw [hp] at e h1
        injection e with e
        subst e
        exact h1
      | ls b' n => rw [hp] at h1; cases h1
    · exact okLB_spec hg h.2 t b e
theorem okBo_spec {B : List (Nat × Blk)} : ∀ {n : Nat}, okBo B n = true → ∀ i, i < n → (ovrB B i).isSome = true
  | 0, _, i, h => by omega
  | n + 1, h, i, hi => by
    simp only [okBo, Bool.and_eq_true] at h
    by_cases e : i = n
    · subst e; exact h.1
    · exact okBo_spec h.2 i (by omega)
theorem R.at {c : Cx} {nt : Nat} {s : S} {a : Go.Act} {w : World} {L : List (Nat × AV)} {B : List (Nat × Blk)} (h : R c nt s a w) (hL : fitL s L) (hB : fitB s B) (h1 : okLB B L = true) (h2 : okBo B c.bo.length = true) (n : Nat) : R c nt (stAt (fun t => a.tmps.getD t undef) L B n) a w := by
  obtain ⟨r, h⟩ := h
  have some' : ∀ b, (ovrB B b).isSome = true → (s.hp b).isSome = true := fun b e => by
    obtain ⟨y, hy⟩ := Option.isSome_iff_exists.1 e
    rw [fitB_ovr hB b y hy]; rfl
  refine ⟨r, h.defers, h.size, fun t => ?_, okLB_spec (by simp [AV.blk]) h1, fun b y e => h.blk b y (fitB_ovr hB b y e), fun b b' e e' => h.inj b b' (some' b e) (some' b' e'), fun b e => h.own b (some' b e), h.base, fun i x e => ?_, fun b y e => h.tys b y (fitB_ovr hB b y e)⟩
  · rcases fitL_ovr (g := fun t => .v (a.tmps.getD t undef)) hL t with e | e
    · simp only [stAt]; rw [e]; rfl
    · simp only [stAt]; rw [e]; exact h.tmp t
  · exact ⟨(h.bor i x e).1, okBo_spec h2 i (List.getElem?_eq_some_iff.1 e).1⟩
def loopP (c : Cx) {ι : Type} (L : ι → List (Nat × AV)) (B : ι → List (Nat × Blk)) (KI : ι → World → Prop) (μ : ι → Nat) (x : ι) (s' : S) (K' : World → Prop) : Prop := ∃ x', fitL s' (L x') ∧ fitB s' (B x') ∧ μ x' < μ x ∧ ∀ w, K' w → c.base w → KI x' w
theorem fitL_of {s : S} : ∀ {L : List (Nat × AV)}, (L.map fun p => s.fr p.1) = L.map Prod.snd → fitL s L
  | [], _ => trivial
  | p :: l, h => by
    simp only [List.map_cons, List.cons.injEq] at h
    exact ⟨h.1, fitL_of h.2⟩
theorem fitB_of {s : S} : ∀ {B : List (Nat × Blk)}, (B.map fun p => s.hp p.1) = B.map (fun p => some p.2) → fitB s B
  | [], _ => trivial
  | p :: l, h => by
    simp only [List.map_cons, List.cons.injEq] at h
    exact ⟨h.1, fitB_of h.2⟩
theorem t_end {c : Cx} {F : Value → S → World → Prop} {K : World → Prop} {t : Tree} {ι : Type} (L : ι → List (Nat × AV)) (B : ι → List (Nat × Blk)) (KI : ι → World → Prop) (μ : ι → Nat) (x x' : ι) (hμ : μ x' < μ x) (hK : ∀ w, K w → c.base w → KI x' w)
    (hL : ((L x').map fun p => t.st.fr p.1) = (L x').map Prod.snd := by kernel_rfl) (hB : ((B x').map fun p => t.st.hp p.1) = (B x').map (fun p => some p.2) := by kernel_rfl) (hd : t = .leaf t.st (loopP c L B KI μ x) := by kernel_rfl) : OK c F t K := by
  have h : loopP c L B KI μ x t.st K := ⟨x', fitL_of hL, fitB_of hB, hμ, hK⟩
  rw [hd]
  exact ⟨h⟩
theorem t_loop {c : Cx} {F : Value → S → World → Prop} {K : World → Prop} {t : Tree} (hm : c.P.follows .mixedOrders = true) {ι : Type} (x0 : ι) (L : ι → List (Nat × AV)) (B : ι → List (Nat × Blk)) (N : Nat) (KI : ι → World → Prop) (μ : ι → Nat)
    (hs : ∀ x, Stab c.ap (KI x)) (hK0 : ∀ w, K w → c.base w → KI x0 w)
    (step : ∀ x f, OK c F (exec c t.lnt 0 t.lx (stAt f (L x) (B x) N) fun e s' => match e with
      | .normal => .leaf s' (loopP c L B KI μ x)
      | e => t.lk e s') (KI x))
    (hok : ∀ x, okLB (B x) (L x) = true ∧ okBo (B x) c.bo.length = true := by exact fun _ => ⟨rfl, rfl⟩) (hL : ((L x0).map fun p => t.ls.fr p.1) = (L x0).map Prod.snd := by kernel_rfl) (hB : ((B x0).map fun p => t.ls.hp p.1) = (B x0).map (fun p => some p.2) := by kernel_rfl) (hd : t.hd = .loop := by kernel_rfl) : OK c F t K := by
  have h0 : fitL t.ls (L x0) ∧ fitB t.ls (B x0) ∧ ∀ w, K w → c.base w → KI x0 w := ⟨fitL_of hL, fitB_of hB, hK0⟩
  cases t <;> simp only [Tree.hd, reduceCtorEq] at hd
  rename_i nt x s k
  refine ⟨?_⟩
  intro a w Q hR hsK hK hN
  simp only [Tree.lnt, Tree.lx, Tree.ls, Tree.lk] at h0 step
  have hbase : ∀ {s : S} {a : Go.Act} {w : World}, R c nt s a w → c.base w := fun h => h.elim fun _ h => h.base
  refine wp_loop_ghost (fun n a w => ∃ x f, μ x = n ∧ R c nt (stAt f (L x) (B x) N) a w ∧ KI x w) (μ x0) ⟨x0, _, rfl, hR.at h0.1 h0.2.1 (hok x0).1 (hok x0).2 N, h0.2.2 w hK (hbase hR)⟩ ?_
  rintro n a w ⟨y, f, rfl, hR, hK⟩
  refine exec_sound (c := c) (F := F) (nt := nt) (U := 0) hm x _ _ (KI y) a w _ hR (hs y) hK (fun e => ?_) (step y f).out
  cases e with
  | normal =>
    rintro s' a' w' K' hR' _ hK' ⟨x', f1, f2, hlt, hk⟩
    exact ⟨μ x', hlt, x', _, rfl, hR'.at f1 f2 (hok x').1 (hok x').2 N, hk w' hK' (hbase hR')⟩
  | exit id => exact fun s' a' w' K' hR' hs' hK' ht => hN (.exit id) s' a' w' K' hR' hs' hK' ht
  | ret => exact fun s' a' w' K' hR' hs' hK' ht => hN .ret s' a' w' K' hR' hs' hK' ht
theorem run_ok {P : Program} {ap : TypeId → Bool} {U : Nat} {rows : List Nat} {f : FuncId} {args : Array Value} {w : World} {K : World → Prop} {Rr : Ending → World → Prop} (hm : P.follows .mixedOrders = true) (hs : Stab ap K) (hK : K w)
    (h : OK ⟨P, ap, w, [], rows⟩ (fun v _ w' => Rr (.returned v) w') (tree ⟨P, ap, w, [], rows⟩ U f args.toList) K) : Calls P f args w Rr := run_tree hm hs hK h.out
theorem runR_ok {P : Program} {ap : TypeId → Bool} {U : Nat} {rows : List Nat} {f : FuncId} {args : List Value} {w : World} {b : Nat} {T : TypeId} {cs : List Value} {K : World → Prop} {Rr : Ending → World → Prop} (hm : P.follows .mixedOrders = true) (hs : Stab ap K) (hK : K w) (hx : BoxO w b T cs) (hT : ap T = true)
    {G : Value → List Value → World → Prop} (hG : ∀ v cs' w', But (b :: rows) w.heap.size w w' → BoxO w' b T cs' → G v cs' w' → Rr (.returned v) w')
    (h : OK ⟨P, ap, w, [b], rows⟩ (fun v s w' => ∃ cs', s.hp 0 = some (T, cs') ∧ G v cs' w') (treeR ⟨P, ap, w, [b], rows⟩ U f T cs args) K) : Calls P f (.pointer (some ⟨b, 0, none⟩) :: args).toArray w Rr := run_treeR hm hs hK hx hT hG h.out
end PX
end Go.Proofs.YtkjikigimmchlaaGreatDoor
