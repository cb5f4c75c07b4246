/- Links: plainly, and in memory: two lists of texts; texts behind texts, one operation. No condition. -/
import Derived.Test.YtbjbdlgbppanmaaR0
import Derived.Laws.AppendOwnNone
namespace Go.Proofs.Ytbjbdlgbppanmaa
open Go.RowKit

/-- A link plainly. -/
structure Lnk where
  u : Bool
  s : Int
  a : List ByteArray
  b : List ByteArray

/-- A link in memory: its two lists. -/
structure Lk (w : World) (x : Lnk) (A : Option Addr) (n : Nat) (B : Option Addr) (m : Nat) : Prop where
  ea : Es Value.string w w.heap.size A x.a
  eb : Es Value.string w w.heap.size B x.b
  na : A = none → n = 0
  nb : B = none → m = 0
  la : x.a.length ≤ n
  lb : x.b.length ≤ m

@[reducible] def lkC (x : Lnk) (A : Option Addr) (n : Nat) (B : Option Addr) (m : Nat) : List Value := [.bool x.u, .int .u64 x.s, .slice A x.a.length n, .slice B x.b.length m]
@[reducible] def lkV (x : Lnk) (A : Option Addr) (n : Nat) (B : Option Addr) (m : Nat) : Value := .agg #[.bool x.u, .int .u64 x.s, .slice A x.a.length n, .slice B x.b.length m]

theorem Lk.up {w w' : World} {x : Lnk} {A B : Option Addr} {n m : Nat} (h : Lk w x A n B m) (hb : Below w.heap.size w w') : Lk w' x A n B m := ⟨h.ea.up hb, h.eb.up hb, h.na, h.nb, h.la, h.lb⟩
theorem Lk.alloc {w : World} {x : Lnk} {A B : Option Addr} {n m : Nat} (h : Lk w x A n B m) (o : Obj) : Lk (w.alloc o) x A n B m := h.up below1

/-- What is told of a link: one in memory, within what else is told. -/
def GivesK (x : Lnk) (f : Value → Value) (w : World) (e : Ending) (w' : World) : Prop :=
  ∃ A n B m, e = .returned (f (lkV x A n B m)) ∧ Lk w' x A n B m ∧ Below w.heap.size w w'

/-- The number that comes behind a session's. -/
def nextS (s : Int) : Int := IntKind.u64.wrap (s + 1)
def Lnk.opened (x : Lnk) : Lnk := ⟨true, nextS x.s, [], []⟩
def Lnk.closed (x : Lnk) : Lnk := ⟨false, x.s, [], []⟩
def Lnk.on (x : Lnk) (g : Int) (l : List ByteArray) : Lnk := if g = 0 then { x with a := l } else { x with b := l }
def Lnk.side (x : Lnk) (g : Int) : List ByteArray := if g = 0 then x.a else x.b
def isSide (g : Int) : Bool := decide (g = 0) || decide (g = 1)
/-- What Send answers. -/
def Lnk.send (x : Lnk) (g : Int) (p : List ByteArray) : Lnk := if isSide g = true ∧ x.u = true then x.on g (x.side g ++ p) else x
def Lnk.sendE (x : Lnk) (g : Int) : Int := if isSide g = true then (if x.u = true then 0 else 7) else 1
/-- What Take answers. -/
def Lnk.takes (x : Lnk) (g : Int) : Bool := isSide g && !decide (x.side g = [])
def Lnk.first (x : Lnk) (g : Int) : ByteArray := if x.takes g = true then (x.side g).headD ⟨#[]⟩ else ⟨#[]⟩
def Lnk.taken (x : Lnk) (g : Int) : Lnk := if x.takes g = true then x.on g (x.side g).tail else x
def Lnk.idle (x : Lnk) : Bool := decide (x.a = []) && decide (x.b = [])
def Lnk.same (x y : Lnk) : Bool := (x.u == y.u) && ((x.s == y.s) && (decide (x.a = y.a) && decide (x.b = y.b)))
def Lnk.great (x : Lnk) : Bool := decide (100 < x.a.length) || decide (100 < x.b.length)

theorem infoStr : (Try.prog.info? 9).map (fun i => (i.zero, i.size, i.bytes)) = some (some (.string ⟨#[]⟩), 1, 16) := by kernel_rfl
theorem info_three {P : Program} {t : TypeId} {z : Value} {s b : Nat} (h : (P.info? t).map (fun i => (i.zero, i.size, i.bytes)) = some (some z, s, b)) : ∃ i, P.info? t = some i ∧ i.zero = some z ∧ i.size = s ∧ i.bytes = b := by
  obtain ⟨i, hi, h2⟩ := Option.map_eq_some_iff.1 h
  injection h2 with h3 h4
  injection h4 with h5 h6
  exact ⟨i, hi, h3, h5, h6⟩

set_option maxRecDepth 100000 in
/-- Texts behind texts, one operation. -/
theorem app_txts {ops : Array Oper} {rest : List Oper} {o : Oper} {a : Act} {Q : Exit → Act → World → Prop} (hgd : o.guard = none) (s x : Operand)
    (ho : o.op = .call { callee := .builtin .append, args := #[s, x], argTypes := #[23, 23] }) (w : World) (base : Nat) (hbase : base ≤ w.heap.size) (v : Value) (l0 : List ByteArray) (hs : a.eval s = v)
    (hown : w.ownsRow base 9 1 v l0.length (l0.map Value.string)) (A : Option Addr) (n : Nat) (l : List ByteArray) (hA : A = none → n = 0) (hx : a.eval x = .slice A l.length n) (hc : Es Value.string w w.heap.size A l) (hl : l0.length + l.length ≤ 1000000)
    (h : ∀ v' w', w'.ownsRow base 9 1 v' (l0 ++ l).length ((l0 ++ l).map Value.string) → Below base w w' → wpList Try.prog ops Q rest (a.put o.dst v') w') :
    wpList Try.prog ops Q (o :: rest) a w := by
  obtain ⟨i0, hi, hz0, hz1, hz2⟩ := info_three infoStr
  have hb0 := Below.refl base w
  cases A with
  | none =>
    have hl0 : l = [] := by
      cases l with
      | nil => rfl
      | cons y t => obtain ⟨a', ha', _⟩ := hc 0 y rfl; cases ha'
    subst hl0
    rw [hA rfl] at hx
    rw [List.append_nil] at h
    exact wpList_append_own_none hgd s x 23 ho base 9 i0 1 Try.underlying23 hi v _ _ hs hown hx (h _ _ hown hb0)
  | some ad =>
    refine wpList_append_own _ hgd s x 23 ho base 9 i0 (.string ⟨#[]⟩) 1 16 Try.underlying23 hi hz0 hz1 hz2 rfl (by decide) v _ _ hs hown ad l.length n (l.map Value.string) hx (by simp) (es_cells hc)
      (fun u hu => by obtain ⟨y, _, rfl⟩ := List.mem_map.1 hu; rfl) (by unfold maxLen; omega) (by omega) hbase fun v' w' hown' hgrow _ => ?_
    rw [← List.map_append, ← List.length_append] at hown'
    exact h v' w' hown' (hb0.grown hgrow hbase (own_low hown))

theorem own_zero {e : TypeId} {size : Nat} (w : World) (base : Nat) (hb : base ≤ w.heap.size) : (w.alloc (.cells #[] e)).ownsRow base e size (.slice (some ⟨w.heap.size, 0, none⟩) 0 0) 0 [] :=
  ⟨by simp, Or.inr ⟨w.heap.size, 0, #[], rfl, hb, heap_alloc_new w _, Nat.le_refl _, by unfold maxLen; omega, by simp, by simp⟩⟩

/-- A row that lies apart from a block stays, whatever is stored into that block. -/
theorem own_past {w : World} {base size n p : Nat} {e : TypeId} {v : Value} {xs : List Value} (h : w.ownsRow base e size v n xs) (hp : p < base) (j : Nat) (u : Value) : (w.setCell ⟨p, j, none⟩ u).ownsRow base e size v n xs := by
  obtain ⟨h1, h2⟩ := h
  refine ⟨h1, ?_⟩
  rcases h2 with h2 | ⟨g, cap, cur, hv, hg, hh, r⟩
  · exact Or.inl h2
  · exact Or.inr ⟨g, cap, cur, hv, hg, by rw [heap_setCell_other _ _ _ _ (show g ≠ p from by omega)]; exact hh, r⟩

theorem own_cap {w : World} {base size n : Nat} {e : TypeId} {A : Option Addr} {k c : Nat} {xs : List Value} (h : w.ownsRow base e size (.slice A k c) n xs) : n ≤ c := by
  rcases h.2 with ⟨hv, h0⟩ | ⟨g, cap, cur, hv, hb, hh, hl, _⟩
  · rw [h0]; exact Nat.zero_le _
  · injection hv with e1 e2 e3
    subst e3
    exact hl

/-- The list behind the first text. -/
theorem es_tail {w : World} {D n : Nat} {ad : Addr} {x : ByteArray} {t : List ByteArray} (h : Es Value.string w D (some ad) (x :: t)) (hn : t.length + 1 ≤ n) : Es Value.string w D (if n = 1 then some ad else some ⟨ad.block, ad.off + 1, none⟩) t := by
  intro j y hj
  obtain ⟨a', ha', hlt, hc⟩ := h (j + 1) y (by simpa using hj)
  injection ha' with ha'
  subst ha'
  have hj2 : j < t.length := by
    rcases Nat.lt_or_ge j t.length with q | q
    · exact q
    · rw [List.getElem?_eq_none q] at hj; cases hj
  rw [if_neg (by omega)]
  refine ⟨_, rfl, hlt, ?_⟩
  have e : (⟨ad.block, ad.off + 1, none⟩ : Addr).add j = ad.add (j + 1) := by
    unfold Addr.add
    rw [if_neg (by omega : ¬ j + 1 = 0)]
    split
    · next q => rw [q]
    · simp only [Addr.mk.injEq, true_and, and_true]
      omega
  rw [e]
  exact hc
theorem tail_none {n : Nat} {ad b : Addr} : (if n = 1 then some ad else some b) = none → n - 1 = 0 := by split <;> intro h <;> cases h
end Go.Proofs.Ytbjbdlgbppanmaa
