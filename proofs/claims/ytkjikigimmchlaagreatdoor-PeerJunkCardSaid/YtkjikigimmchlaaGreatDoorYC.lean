/- Links: what Send of the document answers. Under: lists of up to a hundred thousand texts. -/
import Derived.Laws.AppendOwnNone
import Derived.Test.YtkjikigimmchlaaGreatDoorKA
import Derived.Test.YtkjikigimmchlaaGreatDoorKD
import Derived.Deep.CutRange
namespace Go.Proofs.YtkjikigimmchlaaGreatDoor
open Go.RowKit
structure Lnk where
  u : Bool
  s : Int
  a : List ByteArray
  b : List ByteArray
structure Lk (w : World) (x : Lnk) (A : Option Addr) (n : Nat) (B : Option Addr) (m : Nat) : Prop where
  ea : Es Value.string w w.heap.size A x.a
  eb : Es Value.string w w.heap.size B x.b
  na : A = none → n = 0
  nb : B = none → m = 0
  la : x.a.length ≤ n
  lb : x.b.length ≤ m
  ta : Ty w A 9
  tb : Ty w B 9
@[reducible] def lkV (x : Lnk) (A : Option Addr) (n : Nat) (B : Option Addr) (m : Nat) : Value := .agg #[.bool x.u, .int .u64 x.s, .slice A x.a.length n, .slice B x.b.length m]
theorem Lk.up {w w' : World} {x : Lnk} {A B : Option Addr} {n m : Nat} (h : Lk w x A n B m) (hb : Below w.heap.size w w') : Lk w' x A n B m := ⟨h.ea.up hb, h.eb.up hb, h.na, h.nb, h.la, h.lb, h.ta.up hb, h.tb.up hb⟩
theorem Lk.alloc {w : World} {x : Lnk} {A B : Option Addr} {n m : Nat} (h : Lk w x A n B m) (o : Obj) : Lk (w.alloc o) x A n B m := h.up below1
def GivesK (x : Lnk) (f : Value → Value) (w : World) (e : Ending) (w' : World) : Prop :=
  ∃ A n B m, e = .returned (f (lkV x A n B m)) ∧ Lk w' x A n B m ∧ Below w.heap.size w w'
def nextS (s : Int) : Int := IntKind.u64.wrap (s + 1)
def Lnk.opened (x : Lnk) : Lnk := ⟨true, nextS x.s, [], []⟩
def Lnk.closed (x : Lnk) : Lnk := ⟨false, x.s, [], []⟩
def Lnk.on (x : Lnk) (g : Int) (l : List ByteArray) : Lnk := if g = 0 then { x with a := l } else { x with b := l }
def Lnk.side (x : Lnk) (g : Int) : List ByteArray := if g = 0 then x.a else x.b
def isSide (g : Int) : Bool := decide (g = 0) || decide (g = 1)
def Lnk.send (x : Lnk) (g : Int) (p : List ByteArray) : Lnk := if isSide g = true ∧ x.u = true then x.on g (x.side g ++ p) else x
def Lnk.sendE (x : Lnk) (g : Int) : Int := if isSide g = true then (if x.u = true then 0 else 7) else 1
def Lnk.takes (x : Lnk) (g : Int) : Bool := isSide g && !decide (x.side g = [])
def Lnk.first (x : Lnk) (g : Int) : ByteArray := if x.takes g = true then (x.side g).headD ⟨#[]⟩ else ⟨#[]⟩
def Lnk.taken (x : Lnk) (g : Int) : Lnk := if x.takes g = true then x.on g (x.side g).tail else x
def Lnk.same (x y : Lnk) : Bool := (x.u == y.u) && ((x.s == y.s) && (decide (x.a = y.a) && decide (x.b = y.b)))
def Lnk.great (x : Lnk) : Bool := decide (100 < x.a.length) || decide (100 < x.b.length)
theorem infoStr : (Tryz.prog.info? 9).map (fun i => (i.zero, i.size, i.bytes)) = some (some (.string ⟨#[]⟩), 1, 16) := by kernel_rfl
theorem info_three {P : Program} {t : TypeId} {z : Value} {s b : Nat} (h : (P.info? t).map (fun i => (i.zero, i.size, i.bytes)) = some (some z, s, b)) : ∃ i, P.info? t = some i ∧ i.zero = some z ∧ i.size = s ∧ i.bytes = b := by
  obtain ⟨i, hi, h2⟩ := Option.map_eq_some_iff.1 h
  injection h2 with h3 h4
  injection h4 with h5 h6
  exact ⟨i, hi, h3, h5, h6⟩
set_option maxRecDepth 100000 in
theorem app_txts {ops : Array Oper} {rest : List Oper} {o : Oper} {a : Go.Act} {Q : Exit → Go.Act → World → Prop} (hgd : o.guard = none) (s x : Operand)
    (ho : o.op = .call { callee := .builtin .append, args := #[s, x], argTypes := #[27, 27] }) (w : World) (base : Nat) (hbase : base ≤ w.heap.size) (v : Value) (l0 : List ByteArray) (hs : a.eval s = v)
    (hown : w.ownsRow base 9 1 v l0.length (l0.map Value.string)) (A : Option Addr) (n : Nat) (l : List ByteArray) (hA : A = none → n = 0) (hx : a.eval x = .slice A l.length n) (hc : Es Value.string w w.heap.size A l) (hl : l0.length + l.length ≤ 1000000)
    (h : ∀ v' w', w'.ownsRow base 9 1 v' (l0 ++ l).length ((l0 ++ l).map Value.string) → Below base w w' → wpList Tryz.prog ops Q rest (a.put o.dst v') w') :
    wpList Tryz.prog ops Q (o :: rest) a w := by
  obtain ⟨i0, hi, hz0, hz1, hz2⟩ := info_three infoStr
  have hb0 := Below.refl base w
  cases A with
  | none =>
    have hl0 : l = [] := by
      cases l with
      | nil => rfl
      | cons y t => obtain ⟨a', ha', _⟩ := hc 0 y rfl; cases ha'
    subst hl0
    rw [hA rfl] at hx
    rw [List.append_nil] at h
    exact wpList_append_own_none hgd s x 27 ho base 9 i0 1 Tryz.underlying27 hi v _ _ hs hown hx (h _ _ hown hb0)
  | some ad =>
    refine wpList_append_own _ hgd s x 27 ho base 9 i0 (.string ⟨#[]⟩) 1 16 Tryz.underlying27 hi hz0 hz1 hz2 rfl (by decide) v _ _ hs hown ad l.length n (l.map Value.string) hx (by simp) (es_cells hc)
      (fun u hu => by obtain ⟨y, _, rfl⟩ := List.mem_map.1 hu; rfl) (by unfold maxLen; omega) (by omega) hbase fun v' w' hown' hgrow _ => ?_
    rw [← List.map_append, ← List.length_append] at hown'
    exact h v' w' hown' (hb0.grown hgrow hbase (own_low hown))
theorem own_zero {e : TypeId} {size : Nat} (w : World) (base : Nat) (hb : base ≤ w.heap.size) : (w.alloc (.cells #[] e)).ownsRow base e size (.slice (some ⟨w.heap.size, 0, none⟩) 0 0) 0 [] :=
  ⟨by simp, Or.inr ⟨w.heap.size, 0, #[], rfl, hb, heap_alloc_new w _, Nat.le_refl _, by unfold maxLen; omega, by simp, by simp⟩⟩
theorem own_past {w : World} {base size n p : Nat} {e : TypeId} {v : Value} {xs : List Value} (h : w.ownsRow base e size v n xs) (hp : p < base) (j : Nat) (u : Value) : (w.setCell ⟨p, j, none⟩ u).ownsRow base e size v n xs := by
  obtain ⟨h1, h2⟩ := h
  refine ⟨h1, ?_⟩
  rcases h2 with h2 | ⟨g, cap, cur, hv, hg, hh, r⟩
  · exact Or.inl h2
  · exact Or.inr ⟨g, cap, cur, hv, hg, by rw [heap_setCell_other _ _ _ _ (show g ≠ p from by omega)]; exact hh, r⟩
theorem own_cap {w : World} {base size n : Nat} {e : TypeId} {A : Option Addr} {k c : Nat} {xs : List Value} (h : w.ownsRow base e size (.slice A k c) n xs) : n ≤ c := by
  rcases h.2 with ⟨hv, h0⟩ | ⟨g, cap, cur, hv, hb, hh, hl, _⟩
  · rw [h0]; exact Nat.zero_le _
  · injection hv with e1 e2 e3
    subst e3
    exact hl
theorem es_tail {w : World} {D n : Nat} {ad : Addr} {x : ByteArray} {t : List ByteArray} (h : Es Value.string w D (some ad) (x :: t)) (hn : t.length + 1 ≤ n) : Es Value.string w D (if n = 1 then some ad else some ⟨ad.block, ad.off + 1, none⟩) t := by
  intro j y hj
  obtain ⟨a', ha', hlt, hc⟩ := h (j + 1) y (by simpa using hj)
  injection ha' with ha'
  subst ha'
  have hj2 : j < t.length := by
    rcases Nat.lt_or_ge j t.length with q | q
    · exact q
    · rw [List.getElem?_eq_none q] at hj; cases hj
  rw [if_neg (by omega)]
  refine ⟨_, rfl, hlt, ?_⟩
  have e : (⟨ad.block, ad.off + 1, none⟩ : Addr).add j = ad.add (j + 1) := by
    unfold Addr.add
    rw [if_neg (by omega : ¬ j + 1 = 0)]
    split
    · next q => rw [q]
    · simp only [Addr.mk.injEq, true_and, and_true]
      omega
  rw [e]
  exact hc
theorem tail_none {n : Nat} {ad b : Addr} : (if n = 1 then some ad else some b) = none → n - 1 = 0 := by split <;> intro h <;> cases h
end Go.Proofs.YtkjikigimmchlaaGreatDoor
namespace Go.Proofs.YtkjikigimmchlaaGreatDoor
open Go.RowKit
set_option maxHeartbeats 1000000 in
theorem rkopen_any (u : Bool) (s : Int) (a b : List ByteArray) (A B : Option Addr) (n m : Nat) (w : World) : Calls Tryz.prog 140 #[.agg #[.bool u, .int .u64 s, .slice A a.length n, .slice B b.length m]] w fun e w' => e = .returned (.agg #[.bool true, .int .u64 (nextS s), .slice none 0 0, .slice none 0 0]) ∧ Below w.heap.size w w' := by
  have H0 := Lib.hid (((Held.refl w).lay [.bool u, .int .u64 s, .slice A a.length n, .slice B b.length m] 64).own [.bool false, .int .u64 0, .slice none 0 0, .slice none 0 0] 64 (n := 4) rfl)
  rw [World.size_alloc] at H0
  have k0 := H0.out.b0.cell
  have hn : IntKind.u64.wrap (s + 1) = nextS s := rfl
  go_enter Tryz.func140, Tryz.ntmps140
  go_wp2_with fail
  refine bodyPost_ret (v := .agg #[.bool true, .int .u64 (nextS s), .slice none 0 0, .slice none 0 0]) (by simp [results, Tryz.results140, go_sem, nextS]) rfl ⟨rfl, ?_⟩
  exact below2
set_option maxHeartbeats 1000000 in
theorem rkclose_any (u : Bool) (s : Int) (a b : List ByteArray) (A B : Option Addr) (n m : Nat) (w : World) : Calls Tryz.prog 142 #[.agg #[.bool u, .int .u64 s, .slice A a.length n, .slice B b.length m]] w fun e w' => e = .returned (.agg #[.bool false, .int .u64 s, .slice none 0 0, .slice none 0 0]) ∧ Below w.heap.size w w' := by
  have H0 := Lib.hid (((Held.refl w).lay [.bool u, .int .u64 s, .slice A a.length n, .slice B b.length m] 64).own [.bool false, .int .u64 0, .slice none 0 0, .slice none 0 0] 64 (n := 4) rfl)
  rw [World.size_alloc] at H0
  have k0 := H0.out.b0.cell
  have hn : IntKind.u64.wrap (s + 1) = nextS s := rfl
  go_enter Tryz.func142, Tryz.ntmps142
  go_wp2_with fail
  refine bodyPost_ret (v := .agg #[.bool false, .int .u64 s, .slice none 0 0, .slice none 0 0]) (by simp [results, Tryz.results142, go_sem]) rfl ⟨rfl, ?_⟩
  exact below2
end Go.Proofs.YtkjikigimmchlaaGreatDoor
namespace Go.Proofs.YtkjikigimmchlaaGreatDoor
open Go.RowKit
theorem es_of_own {w : World} {base cap : Nat} {A : Option Addr} {l : List ByteArray} (h : w.ownsRow base 9 1 (.slice A l.length cap) l.length (l.map Value.string)) : Es Value.string w w.heap.size A l ∧ (A = none → cap = 0) ∧ l.length ≤ cap := by
  have hc := own_cap h
  obtain ⟨A', c', e, hn, h⟩ := own_es h
  injection e with e1 e2 e3
  subst e1; subst e3
  exact ⟨h, hn, hc⟩
set_option maxRecDepth 100000 in
set_option maxHeartbeats 4000000 in
theorem rks_arg (s : Int) (a b : List ByteArray) (A B : Option Addr) (n m : Nat) (P : Option Addr) (np : Nat) (p : List ByteArray) (u : Bool) (g : Int) (h0 : g ≠ 0) (h1 : g ≠ 1) (w : World) : Calls Tryz.prog 156 #[.agg #[.bool u, .int .u64 s, .slice A a.length n, .slice B b.length m], .int .i64 g, .slice P p.length np] w fun e w' => e = .returned (.tuple #[.agg #[.bool u, .int .u64 s, .slice A a.length n, .slice B b.length m], .int .i64 1]) ∧ Below w.heap.size w w' := by
  have e0 : (g != 0) = true := bne_iff_ne.2 h0
  have e1 : (g != 1) = true := bne_iff_ne.2 h1
  clear h0 h1
  have H0 := Lib.hid (((Held.refl w).own [.bool u, .int .u64 s, .slice A a.length n, .slice B b.length m] 64 (n := 4) rfl).own [.bool false, .int .u64 0, .slice none 0 0, .slice none 0 0] 64 (n := 4) rfl)
  have BL0 := Lib.hid ((Box.new w [.bool u, .int .u64 s, .slice A a.length n, .slice B b.length m] 64).alloc (.cells ([.bool false, .int .u64 0, .slice none 0 0, .slice none 0 0] : List Value).toArray 64))
  have BR0 := Lib.hid (Box.new2 w (.cells ([.bool u, .int .u64 s, .slice A a.length n, .slice B b.length m] : List Value).toArray 64) [.bool false, .int .u64 0, .slice none 0 0, .slice none 0 0] 64)
  rw [World.size_alloc] at H0
  have kl := BL0.out.cell
  have kr := BR0.out.cell
  have fr := BR0.out.frozen
  go_enter Tryz.func156, Tryz.ntmps156
  go_wp2_with fail
  refine bodyPost_ret (v := .tuple #[.agg #[.bool u, .int .u64 s, .slice A a.length n, .slice B b.length m], .int .i64 1]) (by simp [results, Tryz.results156, go_sem]) rfl ⟨rfl, ?_⟩
  exact below2
set_option maxRecDepth 100000 in
set_option maxHeartbeats 4000000 in
theorem rks_down0 (s : Int) (a b : List ByteArray) (A B : Option Addr) (n m : Nat) (P : Option Addr) (np : Nat) (p : List ByteArray)  (w : World) : Calls Tryz.prog 156 #[.agg #[.bool false, .int .u64 s, .slice A a.length n, .slice B b.length m], .int .i64 0, .slice P p.length np] w fun e w' => e = .returned (.tuple #[.agg #[.bool false, .int .u64 s, .slice A a.length n, .slice B b.length m], .int .i64 7]) ∧ Below w.heap.size w w' := by
  have H0 := Lib.hid (((Held.refl w).own [.bool false, .int .u64 s, .slice A a.length n, .slice B b.length m] 64 (n := 4) rfl).own [.bool false, .int .u64 0, .slice none 0 0, .slice none 0 0] 64 (n := 4) rfl)
  have BL0 := Lib.hid ((Box.new w [.bool false, .int .u64 s, .slice A a.length n, .slice B b.length m] 64).alloc (.cells ([.bool false, .int .u64 0, .slice none 0 0, .slice none 0 0] : List Value).toArray 64))
  have BR0 := Lib.hid (Box.new2 w (.cells ([.bool false, .int .u64 s, .slice A a.length n, .slice B b.length m] : List Value).toArray 64) [.bool false, .int .u64 0, .slice none 0 0, .slice none 0 0] 64)
  rw [World.size_alloc] at H0
  have kl := BL0.out.cell
  have kr := BR0.out.cell
  have fr := BR0.out.frozen
  go_enter Tryz.func156, Tryz.ntmps156
  go_wp2_with fail
  refine bodyPost_ret (v := .tuple #[.agg #[.bool false, .int .u64 s, .slice A a.length n, .slice B b.length m], .int .i64 7]) (by simp [results, Tryz.results156, go_sem]) rfl ⟨rfl, ?_⟩
  exact below2
set_option maxRecDepth 100000 in
set_option maxHeartbeats 4000000 in
theorem rks_down1 (s : Int) (a b : List ByteArray) (A B : Option Addr) (n m : Nat) (P : Option Addr) (np : Nat) (p : List ByteArray)  (w : World) : Calls Tryz.prog 156 #[.agg #[.bool false, .int .u64 s, .slice A a.length n, .slice B b.length m], .int .i64 1, .slice P p.length np] w fun e w' => e = .returned (.tuple #[.agg #[.bool false, .int .u64 s, .slice A a.length n, .slice B b.length m], .int .i64 7]) ∧ Below w.heap.size w w' := by
  have H0 := Lib.hid (((Held.refl w).own [.bool false, .int .u64 s, .slice A a.length n, .slice B b.length m] 64 (n := 4) rfl).own [.bool false, .int .u64 0, .slice none 0 0, .slice none 0 0] 64 (n := 4) rfl)
  have BL0 := Lib.hid ((Box.new w [.bool false, .int .u64 s, .slice A a.length n, .slice B b.length m] 64).alloc (.cells ([.bool false, .int .u64 0, .slice none 0 0, .slice none 0 0] : List Value).toArray 64))
  have BR0 := Lib.hid (Box.new2 w (.cells ([.bool false, .int .u64 s, .slice A a.length n, .slice B b.length m] : List Value).toArray 64) [.bool false, .int .u64 0, .slice none 0 0, .slice none 0 0] 64)
  rw [World.size_alloc] at H0
  have kl := BL0.out.cell
  have kr := BR0.out.cell
  have fr := BR0.out.frozen
  go_enter Tryz.func156, Tryz.ntmps156
  go_wp2_with fail
  refine bodyPost_ret (v := .tuple #[.agg #[.bool false, .int .u64 s, .slice A a.length n, .slice B b.length m], .int .i64 7]) (by simp [results, Tryz.results156, go_sem]) rfl ⟨rfl, ?_⟩
  exact below2
set_option maxRecDepth 100000 in
set_option maxHeartbeats 4000000 in
theorem rks_0 (s : Int) (a b : List ByteArray) (A B : Option Addr) (n m : Nat) (P : Option Addr) (np : Nat) (p : List ByteArray) (w : World) (hk : Lk w ⟨true, s, a, b⟩ A n B m) (hp : Es Value.string w w.heap.size P p) (hP : P = none → np = 0) (hl : a.length ≤ 100000) (hlp : p.length ≤ 100000) : Calls Tryz.prog 156 #[.agg #[.bool true, .int .u64 s, .slice A a.length n, .slice B b.length m], .int .i64 0, .slice P p.length np] w (GivesK ⟨true, s, a ++ p, b⟩ (fun v => .tuple #[v, .int .i64 0]) w) := by
  have H0 := Lib.hid (((Held.refl w).own [.bool true, .int .u64 s, .slice A a.length n, .slice B b.length m] 64 (n := 4) rfl).own [.bool false, .int .u64 0, .slice none 0 0, .slice none 0 0] 64 (n := 4) rfl)
  have BL0 := Lib.hid ((Box.new w [.bool true, .int .u64 s, .slice A a.length n, .slice B b.length m] 64).alloc (.cells ([.bool false, .int .u64 0, .slice none 0 0, .slice none 0 0] : List Value).toArray 64))
  have BR0 := Lib.hid (Box.new2 w (.cells ([.bool true, .int .u64 s, .slice A a.length n, .slice B b.length m] : List Value).toArray 64) [.bool false, .int .u64 0, .slice none 0 0, .slice none 0 0] 64)
  rw [World.size_alloc] at H0
  have P0 := Lib.hid ((hk.alloc (.cells ([.bool true, .int .u64 s, .slice A a.length n, .slice B b.length m] : List Value).toArray 64)).alloc (.cells ([.bool false, .int .u64 0, .slice none 0 0, .slice none 0 0] : List Value).toArray 64))
  have E0 := Lib.hid ((hp.up (below1 (o := .cells ([.bool true, .int .u64 s, .slice A a.length n, .slice B b.length m] : List Value).toArray 64))).up (below1 (o := .cells ([.bool false, .int .u64 0, .slice none 0 0, .slice none 0 0] : List Value).toArray 64)))
  have HK := Lib.hid hk; clear hk hp
  go_enter Tryz.func156, Tryz.ntmps156
  go_upto_region 5 with fail
  generalize (w.alloc (.cells #[.bool true, .int .u64 s, .slice A a.length n, .slice B b.length m] 64)).alloc (.cells #[.bool false, .int .u64 0, .slice none 0 0, .slice none 0 0] 64) = W at *
  have kl := (BL0.out.alloc (.cells #[] 9)).cell
  go_wp2_with (at_builtin; refine app_txts rfl _ _ rfl _ W.heap.size ?c1 _ [] rfl ?c2 A n a ?c3 rfl ?c4 ?c5 ?_)
  case c1 => simp
  case c2 => exact own_zero W _ (Nat.le_refl _)
  case c3 => exact P0.out.na
  case c4 => exact P0.out.ea.up below1
  case c5 => simp; omega
  intro v1 w1 hown1 hb1
  have hB1 : Below W.heap.size W w1 := (below1 (o := .cells #[] 9)).trans hb1
  go_wp2_with (at_builtin; refine app_txts rfl _ _ rfl _ W.heap.size ?d1 _ a rfl ?d2 P np p ?d3 rfl ?d4 ?d5 ?_)
  case d1 => exact hB1.size
  case d2 => exact hown1
  case d3 => exact hP
  case d4 => exact E0.out.up hB1
  case d5 => omega
  intro v2 w2 hown2 hb2
  have hB2 : Below W.heap.size W w2 := hB1.trans hb2
  rw [← List.map_append, ← List.length_append] at hown2
  clear hown1 hb1 hB1 hb2 kl
  obtain ⟨A2, c2, rfl, hA2, _⟩ := own_es hown2
  have HO := Lib.hid hown2; clear hown2 hl hlp hP
  generalize hq0 : a ++ p = z at *
  have HZ := Lib.hid hq0; clear hq0
  have hpl : w.heap.size < W.heap.size := BL0.out.lt
  have hpr : w.heap.size + 1 < W.heap.size := BR0.out.lt
  have H2 := Lib.hid (H0.out.up hB2)
  have BL2 := Lib.hid (BL0.out.below hB2)
  have BR2 := Lib.hid (BR0.out.below hB2)
  clear hB2 H0 BL0 BR0 P0 E0
  have kl := BL2.out.cell
  have fl := BL2.out.frozen
  have kr := BR2.out.cell
  have fr := BR2.out.frozen
  go_wp2_with fail
  refine bodyPost_ret (v := .tuple #[.agg #[.bool true, .int .u64 s, .slice A2 z.length c2, .slice B b.length m], .int .i64 0]) (by simp [results, Tryz.results156, go_sem, kr]) rfl ?_
  have HF := (H2.out.set (b := w.heap.size) ⟨4, by simp⟩ 2 (.slice A2 z.length c2)).set4 (b := w.heap.size + 1) ⟨4, by simp⟩ (.bool true) (.int .u64 s) (.slice A2 z.length c2) (.slice B b.length m)
  have HQ := own_past (own_past (own_past (own_past (own_past HO.out hpl 2 (.slice A2 z.length c2)) hpr 0 (.bool true)) hpr 1 (.int .u64 s)) hpr 2 (.slice A2 z.length c2)) hpr 3 (.slice B b.length m)
  have hq := es_of_own HQ
  unfold GivesK
  rw [HZ.out]
  exact ⟨A2, c2, B, m, rfl, ⟨hq.1, HK.out.eb.up HF.below, hq.2.1, HK.out.nb, hq.2.2, HK.out.lb, own_ty HQ, HK.out.tb.up HF.below⟩, HF.below⟩
set_option maxRecDepth 100000 in
set_option maxHeartbeats 4000000 in
theorem rks_1 (s : Int) (a b : List ByteArray) (A B : Option Addr) (n m : Nat) (P : Option Addr) (np : Nat) (p : List ByteArray) (w : World) (hk : Lk w ⟨true, s, a, b⟩ A n B m) (hp : Es Value.string w w.heap.size P p) (hP : P = none → np = 0) (hl : b.length ≤ 100000) (hlp : p.length ≤ 100000) : Calls Tryz.prog 156 #[.agg #[.bool true, .int .u64 s, .slice A a.length n, .slice B b.length m], .int .i64 1, .slice P p.length np] w (GivesK ⟨true, s, a, b ++ p⟩ (fun v => .tuple #[v, .int .i64 0]) w) := by
  have H0 := Lib.hid (((Held.refl w).own [.bool true, .int .u64 s, .slice A a.length n, .slice B b.length m] 64 (n := 4) rfl).own [.bool false, .int .u64 0, .slice none 0 0, .slice none 0 0] 64 (n := 4) rfl)
  have BL0 := Lib.hid ((Box.new w [.bool true, .int .u64 s, .slice A a.length n, .slice B b.length m] 64).alloc (.cells ([.bool false, .int .u64 0, .slice none 0 0, .slice none 0 0] : List Value).toArray 64))
  have BR0 := Lib.hid (Box.new2 w (.cells ([.bool true, .int .u64 s, .slice A a.length n, .slice B b.length m] : List Value).toArray 64) [.bool false, .int .u64 0, .slice none 0 0, .slice none 0 0] 64)
  rw [World.size_alloc] at H0
  have P0 := Lib.hid ((hk.alloc (.cells ([.bool true, .int .u64 s, .slice A a.length n, .slice B b.length m] : List Value).toArray 64)).alloc (.cells ([.bool false, .int .u64 0, .slice none 0 0, .slice none 0 0] : List Value).toArray 64))
  have E0 := Lib.hid ((hp.up (below1 (o := .cells ([.bool true, .int .u64 s, .slice A a.length n, .slice B b.length m] : List Value).toArray 64))).up (below1 (o := .cells ([.bool false, .int .u64 0, .slice none 0 0, .slice none 0 0] : List Value).toArray 64)))
  have HK := Lib.hid hk; clear hk hp
  go_enter Tryz.func156, Tryz.ntmps156
  go_upto_region 5 with fail
  generalize (w.alloc (.cells #[.bool true, .int .u64 s, .slice A a.length n, .slice B b.length m] 64)).alloc (.cells #[.bool false, .int .u64 0, .slice none 0 0, .slice none 0 0] 64) = W at *
  have kl := (BL0.out.alloc (.cells #[] 9)).cell
  go_wp2_with (at_builtin; refine app_txts rfl _ _ rfl _ W.heap.size ?c1 _ [] rfl ?c2 B m b ?c3 rfl ?c4 ?c5 ?_)
  case c1 => simp
  case c2 => exact own_zero W _ (Nat.le_refl _)
  case c3 => exact P0.out.nb
  case c4 => exact P0.out.eb.up below1
  case c5 => simp; omega
  intro v1 w1 hown1 hb1
  have hB1 : Below W.heap.size W w1 := (below1 (o := .cells #[] 9)).trans hb1
  go_wp2_with (at_builtin; refine app_txts rfl _ _ rfl _ W.heap.size ?d1 _ b rfl ?d2 P np p ?d3 rfl ?d4 ?d5 ?_)
  case d1 => exact hB1.size
  case d2 => exact hown1
  case d3 => exact hP
  case d4 => exact E0.out.up hB1
  case d5 => omega
  intro v2 w2 hown2 hb2
  have hB2 : Below W.heap.size W w2 := hB1.trans hb2
  rw [← List.map_append, ← List.length_append] at hown2
  clear hown1 hb1 hB1 hb2 kl
  obtain ⟨A2, c2, rfl, hA2, _⟩ := own_es hown2
  have HO := Lib.hid hown2; clear hown2 hl hlp hP
  generalize hq0 : b ++ p = z at *
  have HZ := Lib.hid hq0; clear hq0
  have hpl : w.heap.size < W.heap.size := BL0.out.lt
  have hpr : w.heap.size + 1 < W.heap.size := BR0.out.lt
  have H2 := Lib.hid (H0.out.up hB2)
  have BL2 := Lib.hid (BL0.out.below hB2)
  have BR2 := Lib.hid (BR0.out.below hB2)
  clear hB2 H0 BL0 BR0 P0 E0
  have kl := BL2.out.cell
  have fl := BL2.out.frozen
  have kr := BR2.out.cell
  have fr := BR2.out.frozen
  go_wp2_with fail
  refine bodyPost_ret (v := .tuple #[.agg #[.bool true, .int .u64 s, .slice A a.length n, .slice A2 z.length c2], .int .i64 0]) (by simp [results, Tryz.results156, go_sem, kr]) rfl ?_
  have HF := (H2.out.set (b := w.heap.size) ⟨4, by simp⟩ 3 (.slice A2 z.length c2)).set4 (b := w.heap.size + 1) ⟨4, by simp⟩ (.bool true) (.int .u64 s) (.slice A a.length n) (.slice A2 z.length c2)
  have HQ := own_past (own_past (own_past (own_past (own_past HO.out hpl 3 (.slice A2 z.length c2)) hpr 0 (.bool true)) hpr 1 (.int .u64 s)) hpr 2 (.slice A a.length n)) hpr 3 (.slice A2 z.length c2)
  have hq := es_of_own HQ
  unfold GivesK
  rw [HZ.out]
  exact ⟨A, n, A2, c2, rfl, ⟨HK.out.ea.up HF.below, hq.1, HK.out.na, hq.2.1, HK.out.la, hq.2.2, HK.out.ta.up HF.below, own_ty HQ⟩, HF.below⟩
theorem rksend_any (x : Lnk) (A B : Option Addr) (n m : Nat) (g : Int) (P : Option Addr) (np : Nat) (p : List ByteArray) (w : World) (hk : Lk w x A n B m) (hp : Es Value.string w w.heap.size P p) (hP : P = none → np = 0) (hl : x.a.length ≤ 100000) (hl2 : x.b.length ≤ 100000) (hlp : p.length ≤ 100000) :
    Calls Tryz.prog 156 #[lkV x A n B m, .int .i64 g, .slice P p.length np] w (GivesK (x.send g p) (fun v => .tuple #[v, .int .i64 (x.sendE g)]) w) := by
  obtain ⟨u, s, a, b⟩ := x
  by_cases h0 : g = 0
  · subst h0
    cases u
    · exact (rks_down0 s a b A B n m P np p w).mono fun e w' h => ⟨A, n, B, m, h.1, hk.up h.2, h.2⟩
    · exact rks_0 s a b A B n m P np p w hk hp hP hl hlp
  · by_cases h1 : g = 1
    · subst h1
      cases u
      · exact (rks_down1 s a b A B n m P np p w).mono fun e w' h => ⟨A, n, B, m, h.1, hk.up h.2, h.2⟩
      · exact rks_1 s a b A B n m P np p w hk hp hP hl2 hlp
    · have e1 : isSide g = false := by unfold isSide; simp [h0, h1]
      have e2 : (Lnk.send ⟨u, s, a, b⟩ g p) = ⟨u, s, a, b⟩ := by unfold Lnk.send; rw [e1]; simp
      have e3 : (Lnk.sendE ⟨u, s, a, b⟩ g) = 1 := by unfold Lnk.sendE; rw [e1]; simp
      rw [e2, e3]
      exact (rks_arg s a b A B n m P np p u g h0 h1 w).mono fun e w' h => ⟨A, n, B, m, h.1, hk.up h.2, h.2⟩
end Go.Proofs.YtkjikigimmchlaaGreatDoor
