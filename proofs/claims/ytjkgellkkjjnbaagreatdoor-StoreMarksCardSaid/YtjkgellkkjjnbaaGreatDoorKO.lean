/- How a vector, an array of three generations and a list of generations that come in are opened: each reads as numbers. No condition. -/
import Derived.Test.YtjkgellkkjjnbaaGreatDoorKA
import Derived.OpenShut
import Derived.ProofKit
import Derived.SliceStrings
import Derived.ChangeSlices
import Derived.Lib.SmallJoins
import Derived.Test.YtjkgellkkjjnbaaGreatDoorKS
import Derived.Test.YtjkgellkkjjnbaaGreatDoorKT
import Derived.LaidLaws
import Derived.LaidHandle
import Derived.LaidSub
import Derived.MakeChecks
import Derived.Stop.LaidErr
import Derived.LaidMore
import Derived.Stop.Joined
import Derived.Test.YtjkgellkkjjnbaaGreatDoorKF
import Derived.Deep.SlicePairs
import Derived.Deep.Grids
import Derived.Below
namespace Go.Proofs.YtjkgellkkjjnbaaGreatDoor
open Go.ChangeShapes Go.WideShapes Go.ChangeAt Go.RowKit

set_option maxRecDepth 100000

section
variable {H : Type} {enc : TypeId × Value → H} {W : World} {r : Reach} {base : Nat}

theorem open_u64 {fuel : Nat} {cs : List Value} {x : DataW H × List MemPlace} (h : DataW.trod enc Tryz.prog W 0 (fun _ => true) true fuel 26 cs = some x) :
    ∃ c : Int, cs = [.int .u64 c] ∧ 0 ≤ c ∧ c < 18446744073709551616 := by
  obtain ⟨c, rfl, _, wc⟩ := DataW.trod_int (k := .u64) Tryz.underlying26 h
  have := bounds_u64 wc
  exact ⟨c, rfl, by omega, by omega⟩

theorem cells22 : Tryz.prog.cellsOf 26 = 1 := by kernel_rfl
theorem cells23 : Tryz.prog.cellsOf 27 = 2 := by kernel_rfl
theorem cells25 : Tryz.prog.cellsOf 29 = 4 := by kernel_rfl

theorem open_two {fuel : Nat} {cs : List Value} {x : DataW H × List MemPlace} (h : DataW.trod enc Tryz.prog W 0 (fun _ => true) true fuel 27 cs = some x) :
    ∃ o p : Int, cs = [.int .u64 o, .int .u64 p] ∧ 0 ≤ o ∧ o < 18446744073709551616 ∧ 0 ≤ p ∧ p < 18446744073709551616 := by
  obtain ⟨xs, m, _, _, hlen, hl, hel⟩ := DataW.trod_array Tryz.underlying27 h
  rw [cells23] at hlen
  match xs, hl, cs, hlen with
  | [x0, x1], _, [c0, c1], _ =>
    have h0 := hel 0 (by omega)
    have h1 := hel 1 (by omega)
    rw [cells22] at h0 h1
    obtain ⟨o, e0, b0, b1⟩ := open_u64 (x := x0) (by simpa using h0)
    obtain ⟨p, e1, b2, b3⟩ := open_u64 (x := x1) (by simpa using h1)
    simp at e0 e1
    subst e0; subst e1
    exact ⟨o, p, rfl, b0, b1, b2, b3⟩

theorem open_vecL {fuel : Nat} {cs : List Value} {x : DataW H × List MemPlace} (h : DataW.trod enc Tryz.prog W 0 (fun _ => true) true fuel 29 cs = some x) :
    ∃ c b o p : Int, cs = [.int .u64 c, .int .u64 b, .int .u64 o, .int .u64 p] ∧ (0 ≤ c ∧ c < 18446744073709551616) ∧ (0 ≤ b ∧ b < 18446744073709551616) ∧ (0 ≤ o ∧ o < 18446744073709551616) ∧ 0 ≤ p ∧ p < 18446744073709551616 := by
  obtain ⟨xs, n, _, _, hlen, hl, hel⟩ := DataW.trod_struct Tryz.underlying29 h
  rw [cells25] at hlen
  match xs, hl, cs, hlen with
  | [x0, x1, x2], _, [c0, c1, c2, c3], _ =>
    have h0 : DataW.trod enc Tryz.prog W 0 (fun _ => true) true n 26 (List.take (Tryz.prog.cellsOf 26) [c0, c1, c2, c3]) = some x0 := hel 0 _ rfl
    have h1 : DataW.trod enc Tryz.prog W 0 (fun _ => true) true n 26 (List.take (Tryz.prog.cellsOf 26) [c1, c2, c3]) = some x1 := hel 1 _ rfl
    have h2 : DataW.trod enc Tryz.prog W 0 (fun _ => true) true n 27 (List.take (Tryz.prog.cellsOf 27) [c2, c3]) = some x2 := hel 2 _ rfl
    rw [cells22] at h0 h1
    rw [cells23] at h2
    obtain ⟨c, e0, b0⟩ := open_u64 (x := x0) (by simpa using h0)
    obtain ⟨b, e1, b1⟩ := open_u64 (x := x1) (by simpa using h1)
    obtain ⟨o, p, e2, b2, b3, b4⟩ := open_two (x := x2) (by simpa using h2)
    simp at e0 e1 e2
    obtain ⟨e2, e3⟩ := e2
    subst e0; subst e1; subst e2; subst e3
    exact ⟨c, b, o, p, rfl, b0, b1, ⟨b2, b3⟩, b4⟩

theorem open_vec {v : Value} {d : DataW H} {ps : List MemPlace} (hval : Value.okWide Tryz.prog W r base 29 v) (h : DataW.Trod enc Tryz.prog W 0 (fun _ => true) true 29 v d ps) :
    ∃ c b o p : Int, v = vecV c b o p ∧ (0 ≤ c ∧ c < 18446744073709551616) ∧ (0 ≤ b ∧ b < 18446744073709551616) ∧ (0 ≤ o ∧ o < 18446744073709551616) ∧ 0 ≤ p ∧ p < 18446744073709551616 := by
  obtain ⟨cs, rfl, _⟩ := okWide_struct Tryz.underlying29 hval
  obtain ⟨fuel, hf⟩ := h
  obtain ⟨c, b, o, p, e, hb⟩ := open_vecL hf
  obtain ⟨l⟩ := cs
  have e : l = [.int .u64 c, .int .u64 b, .int .u64 o, .int .u64 p] := by simpa [Value.cells] using e
  subst e
  exact ⟨c, b, o, p, rfl, hb⟩

theorem okWide_row {P : Program} {t e : TypeId} {n : Nat} {w : World} {v : Value} {r : Reach} {base : Nat} (ht : P.underlying t = some (.array n e)) (h : Value.okWide P w r base t v) : ∃ cs, v = .agg cs ∧ cs.size = P.cellsOf t := by
  simp only [Value.okWide, ht] at h
  obtain ⟨cs, h1, h2, _⟩ := h
  exact ⟨cs, h1, h2⟩

theorem open_es {v : Value} {d : DataW H} {ps : List MemPlace} {t e : TypeId} {k : IntKind} (ht : Tryz.prog.underlying t = some (.slice e)) (he : Tryz.prog.underlying e = some (.int k)) (hce : Tryz.prog.cellsOf e = 1)
    (hval : Value.okWide Tryz.prog W r base t v) (h : DataW.Trod enc Tryz.prog W 0 (fun _ => true) true t v d ps) :
    ∃ A c l, v = .slice A (l : List Int).length c ∧ (A = none → c = 0) ∧ Es (Value.int k) W W.heap.size A l ∧ ∀ x ∈ l, (Lit.int k x).wf = true := by
  obtain ⟨a0, len, cap, rfl⟩ := okWide_slice ht hval
  obtain ⟨fuel, hf⟩ := h
  rcases Go.ChangeShapes.open_ints ht he hce hf with ⟨hcs, hx⟩ | ⟨a, len', cap', zs, hcs, _, hl, hm, hzl, hx, hcell, hwf⟩
  · have e : (.slice a0 len cap : Value) = .slice none 0 0 := by simpa [Value.cells] using hcs
    injection e with e1 e2 e3
    subst e1; subst e2; subst e3
    exact ⟨none, 0, [], rfl, fun _ => rfl, es_nil _ _ _ _, by simp⟩
  · have e : (.slice a0 len cap : Value) = .slice (some a) len' cap' := by simpa [Value.cells] using hcs
    injection e with e1 e2 e3
    subst e1; subst e2; subst e3
    have hzl' : zs.length = cap := by simpa using hzl
    refine ⟨some a, cap, zs.take len, by rw [List.length_take, hzl', Nat.min_eq_left hl], (fun q => by cases q), ?_, fun x hx => hwf x (List.mem_of_mem_take hx)⟩
    intro j x hj
    obtain ⟨hjl, hjx⟩ := List.getElem?_eq_some_iff.1 hj
    rw [List.length_take, hzl', Nat.min_eq_left hl] at hjl
    have hc := hcell j (by omega)
    have hb := World.block_lt_of_cell? W (a.add j) hc
    rw [add_block] at hb
    refine ⟨a, rfl, hb, ?_⟩
    rw [hc]
    have : zs.getD j 0 = x := by
      rw [List.getElem_take] at hjx
      rw [List.getD, List.getElem?_eq_getElem (by omega), hjx]; rfl
    rw [this]
end

end Go.Proofs.YtjkgellkkjjnbaaGreatDoor

/- How a superblock that comes in is opened. No condition. -/

namespace Go.Proofs.YtjkgellkkjjnbaaGreatDoor
open Go.ChangeShapes Go.WideShapes Go.ChangeAt Go.RowKit
set_option maxRecDepth 100000

section
variable {H : Type} {enc : TypeId × Value → H} {W : World} {r : Reach} {base : Nat}

theorem cells27 : Tryz.prog.cellsOf 31 = 8 := by kernel_rfl

theorem cells3 : Tryz.prog.cellsOf 3 = 1 := by kernel_rfl

theorem cells4 : Tryz.prog.cellsOf 4 = 1 := by kernel_rfl

theorem open_i64 {fuel : Nat} {cs : List Value} {x : DataW H × List MemPlace} (h : DataW.trod enc Tryz.prog W 0 (fun _ => true) true fuel 3 cs = some x) : ∃ c : Int, cs = [.int .i64 c] := by
  obtain ⟨c, rfl, _, wc⟩ := DataW.trod_int (k := .i64) Tryz.underlying3 h
  exact ⟨c, rfl⟩

theorem open_b {fuel : Nat} {cs : List Value} {x : DataW H × List MemPlace} (h : DataW.trod enc Tryz.prog W 0 (fun _ => true) true fuel 4 cs = some x) : ∃ c : Bool, cs = [.bool c] := by
  obtain ⟨c, rfl, _⟩ := DataW.trod_bool Tryz.underlying4 h
  exact ⟨c, rfl⟩

theorem open_sup {v : Value} {d : DataW H} {ps : List MemPlace} (hval : Value.okWide Tryz.prog W r base 31 v) (h : DataW.Trod enc Tryz.prog W 0 (fun _ => true) true 31 v d ps) :
    ∃ s : Sup, v = supV s ∧ s.wide := by
  obtain ⟨cs, rfl, _⟩ := okWide_struct Tryz.underlying31 hval
  obtain ⟨fuel, hf⟩ := h
  obtain ⟨l⟩ := cs
  obtain ⟨xs, n, _, _, hlen, hl, hel⟩ := DataW.trod_struct Tryz.underlying31 hf
  rw [cells27] at hlen
  simp only [Value.cells] at hlen hel
  match xs, hl, l, hlen with
  | [x0, x1, x2, x3, x4], _, [c0, c1, c2, c3, c4, c5, c6, c7], _ =>
    have h0 : DataW.trod enc Tryz.prog W 0 (fun _ => true) true n 3 (List.take (Tryz.prog.cellsOf 3) [c0, c1, c2, c3, c4, c5, c6, c7]) = some x0 := hel 0 _ rfl
    have h1 : DataW.trod enc Tryz.prog W 0 (fun _ => true) true n 29 (List.take (Tryz.prog.cellsOf 29) [c1, c2, c3, c4, c5, c6, c7]) = some x1 := hel 1 _ rfl
    have h2 : DataW.trod enc Tryz.prog W 0 (fun _ => true) true n 4 (List.take (Tryz.prog.cellsOf 4) [c5, c6, c7]) = some x2 := hel 2 _ rfl
    have h3 : DataW.trod enc Tryz.prog W 0 (fun _ => true) true n 4 (List.take (Tryz.prog.cellsOf 4) [c6, c7]) = some x3 := hel 3 _ rfl
    have h4 : DataW.trod enc Tryz.prog W 0 (fun _ => true) true n 4 (List.take (Tryz.prog.cellsOf 4) [c7]) = some x4 := hel 4 _ rfl
    rw [cells3] at h0
    rw [cells25] at h1
    rw [cells4] at h2 h3 h4
    obtain ⟨k, e0⟩ := open_i64 (x := x0) (by simpa using h0)
    obtain ⟨c, b, o, p, e1, b0, b1, b2, b3⟩ := open_vecL (x := x1) (by simpa using h1)
    obtain ⟨f2, e2⟩ := open_b (x := x2) (by simpa using h2)
    obtain ⟨f3, e3⟩ := open_b (x := x3) (by simpa using h3)
    obtain ⟨f4, e4⟩ := open_b (x := x4) (by simpa using h4)
    simp at e0 e1 e2 e3 e4
    obtain ⟨q1, q2, q3, q4⟩ := e1
    subst e0; subst q1; subst q2; subst q3; subst q4; subst e2; subst e3; subst e4
    exact ⟨⟨k, c, b, o, p, f2, f3, f4⟩, rfl, b0, b1, b2, b3⟩

end

end Go.Proofs.YtjkgellkkjjnbaaGreatDoor

/- How a superblock that comes in is opened, and what the listed package variables give: the sentinel and the type of errors as they are laid. No other condition. -/

namespace Go.Proofs.YtjkgellkkjjnbaaGreatDoor
open Go.ChangeShapes Go.WideShapes Go.ChangeAt Go.RowKit
set_option maxRecDepth 100000

/-! ### The listed variables -/
theorem gShape : Tryz.prog.globalNamed "gemination/super.errShape" = some 0 := by kernel_rfl
theorem tShape : (Tryz.prog.globals[0]?).map (·.type) = some 111 := by kernel_rfl
theorem gType : Tryz.prog.globalNamed "errors.errorType" = some 1 := by kernel_rfl
theorem rType : (Tryz.prog.cutTypes.find? (·.1 == "internal/reflectlite.rtype")).map (·.2) = some 164 := by kernel_rfl
theorem typesSize : Tryz.prog.types.size = 211 := by kernel_rfl
theorem oneRow : ((List.range 211).filter fun t => Tryz.prog.rowNamed t [101, 114, 114, 111, 114]) = [111] := by kernel_rfl
theorem star : "*" ++ "errors.errorString" = "*errors.errorString" := by decide
theorem rowPtr (u : TypeId) (h : Tryz.prog.typeName? 3 u = some "*errors.errorString") : u = 179 :=
  typeName_ptr_named (nm := "errors.errorString") (by rw [star]; kernel_rfl) (by kernel_rfl) (by decide) u (by rw [star]; exact h)
theorem cellsES : Tryz.prog.cellsOf 199 = 1 := by kernel_rfl
theorem cellsS : Tryz.prog.cellsOf 9 = 1 := by kernel_rfl

/-- What is listed. -/
def laid1 : List (String × DataW Unit) := [("errors.errorType", Rows.laid_errors_errorType), ("gemination/super.errShape", Rows.laid_gemination_super_errShape)]

theorem sentinel_row {P : Program} {n nm : String} {text : List UInt8} {q : List (String × DataW Unit)} {W : World} {g : Nat} {ti tp te ts : TypeId} {ms : Array (String × TypeId)} {f : Field}
    (h : laidMet P ((n, .iface nm (.ptr (.agg [.lit (.string text)]))) :: q) W)
    (hg : P.globalNamed n = some g) (ht : (P.globals[g]?).map (·.type) = some ti) (hi : P.underlying ti = some (.interface ms)) (hrow : ∀ u, P.typeName? 3 u = some nm → u = tp)
    (hp : P.underlying tp = some (.pointer te)) (he : P.underlying te = some (.struct #[f])) (hft : f.type = ts) (hfo : f.offset = 0) (hs : P.underlying ts = some .string) (hc : P.cellsOf te = 1) (hcs : P.cellsOf ts = 1) :
    ∃ a c t, W.cell? ⟨g, 0, none⟩ = some (.iface tp (.pointer (some a))) ∧ W.heap[a.block]? = some (.cells c t (0, 0)) := by
  obtain ⟨ps, ⟨g0, t0, cs0, f0, p0, q0, hg0, ht0, hv0, hd0, _, e0⟩, _, hrows⟩ := h
  obtain rfl := Option.some.inj (hg.symm.trans hg0)
  obtain rfl := Option.some.inj (ht.symm.trans ht0)
  subst e0
  obtain ⟨l0⟩ := cs0
  have ok0 : ∀ u v, l0 = [.iface u v] → Value.okWide P W .any 0 u v := fun u v e => by
    subst e
    exact (hrows g 0 (by simp [MemPlace.row])).2 u v (by simpa using World.var?_cell hg0 hv0 0)
  obtain ⟨a, s, rfl, _, _, _, rfl⟩ := errorString_of_trod hi hrow hp he hft hfo hs hc hcs hd0 ok0
  obtain ⟨c, t, hb⟩ := (hrows a.block a.off (by simp [MemPlace.row])).1
  exact ⟨a, c, t, by simpa using World.var?_cell hg0 hv0 0, hb⟩

theorem glob_of {W : World} (h : laidMetH Tryz.prog laid1 W) : ∃ a, Glob W a := by
  obtain ⟨hp, hh⟩ := laidMetH_iff.1 h
  have hp' : laidMet Tryz.prog [("gemination/super.errShape", Rows.laid_gemination_super_errShape)] W := hp
  obtain ⟨a, c, t, hc, hb⟩ := sentinel_row hp' gShape tShape Tryz.underlying111 rowPtr Tryz.underlying179 Tryz.underlying199 rfl rfl Tryz.underlying9 cellsES cellsS
  have hh' : handlesMet Tryz.prog [("errors.errorType", Rows.laid_errors_errorType)] W := hh
  obtain ⟨name, u, ty, e1, e2, e3, e4, e5⟩ := hh' _ (List.mem_singleton.2 rfl)
  have en : name = [101, 114, 114, 111, 114] := (Option.some.inj e1).symm
  subst en
  obtain rfl := Option.some.inj (rType.symm.trans e2)
  have hm : ty ∈ (List.range 211).filter fun t => Tryz.prog.rowNamed t [101, 114, 114, 111, 114] := List.mem_filter.2 ⟨List.mem_range.2 (by rw [← typesSize]; exact e3), e4⟩
  rw [oneRow] at hm
  obtain rfl := List.mem_singleton.1 hm
  have ht : typeHandle Tryz.prog 111 = .pointer (some ⟨2, 111, none⟩) := by kernel_rfl
  rw [ht] at e5
  exact ⟨a, hc, by simpa using World.var?_cell gType e5 0, c, t, hb⟩

theorem door_met (os : Os) (args : Array Value) : laidMetH Tryz.prog laid1 ((World.doorLaid Tryz.prog 35 os).forCall (fun _ _ => 0) ⟨#[], args, []⟩).memory :=
  laidMetH_of_parts3 (fuel := 8) (laidMet_of_run' 8 (by kernel_rfl) (by kernel_rfl)) (by kernel_rfl) (by kernel_rfl)

end Go.Proofs.YtjkgellkkjjnbaaGreatDoor

/- How a disk, a list of writes and a list of bools that come in are opened: each list, nil or not, reads as a list. No condition. -/

namespace Go.Proofs.YtjkgellkkjjnbaaGreatDoor
open Go.ChangeShapes Go.WideShapes Go.ChangeAt Go.RowKit

section
variable {H : Type} {enc : TypeId × Value → H} {W : World} {r : Reach} {base : Nat}

theorem block_add (a : Addr) (j : Nat) : (a.add j).block = a.block := by unfold Addr.add; split <;> rfl

theorem ws_spell (a : Addr) (j : Nat) : (⟨(a.add (j * 2)).block, (a.add (j * 2)).off + 1, none⟩ : Addr) = a.add (j * 2 + 1) := add_succ a (j * 2)

set_option maxRecDepth 100000 in
theorem open_strs {fuel : Nat} {cs : List Value} {x : DataW H × List MemPlace} (h : DataW.trod enc Tryz.prog W 0 (fun _ => true) true fuel 22 cs = some x) :
    ∃ A c s, cs = [.slice A (s : List ByteArray).length c] ∧ (A = none → c = 0) ∧ Es Value.string W W.heap.size A s := by
  rcases open_strings Tryz.underlying22 Tryz.underlying9 (by kernel_rfl) h with ⟨rfl, _⟩ | ⟨a, len, cap, ss, rfl, _, hl, _, hsl, _, hc, _⟩
  · exact ⟨none, 0, [], rfl, fun _ => rfl, es_nil _ _ _ _⟩
  · have hsl' : ss.length = cap := by simpa using hsl
    refine ⟨some a, cap, ss.take len, by rw [List.length_take, hsl', Nat.min_eq_left hl], (fun q => by cases q), ?_⟩
    intro j t hj
    obtain ⟨hjl, hjx⟩ := List.getElem?_eq_some_iff.1 hj
    rw [List.length_take, hsl', Nat.min_eq_left hl] at hjl
    have hcell := hc j (by omega)
    have hb := World.block_lt_of_cell? W (a.add j) hcell
    rw [block_add] at hb
    refine ⟨a, rfl, hb, ?_⟩
    rw [hcell, List.getD_eq_getElem?_getD, List.getElem?_eq_getElem (by omega)]
    rw [List.getElem_take] at hjx
    rw [← hjx]; rfl

set_option maxRecDepth 100000 in
theorem open_wrs {fuel : Nat} {cs : List Value} {x : DataW H × List MemPlace} (h : DataW.trod enc Tryz.prog W 0 (fun _ => true) true fuel 23 cs = some x) :
    ∃ A c s, cs = [.slice A (s : List Wr).length c] ∧ (A = none → c = 0) ∧ Ws W W.heap.size A s := by
  rcases Go.Deep.open_slice_pairs Tryz.underlying23 Tryz.underlying67 (by kernel_rfl) rfl rfl (by kernel_rfl) (by kernel_rfl) h with ⟨rfl, _⟩ | ⟨a, len, cap, m, n, V0, V1, D0, D1, P0, P1, rfl, _, hl, _, hm, _, hc⟩
  · exact ⟨none, 0, [], rfl, fun _ => rfl, ws_nil _ _ _⟩
  · have hm' : m = cap := by simpa using hm
    subst hm'
    have each : ∀ i, i < m → ∃ q : Wr, W.cell? (a.add (i * 2)) = some (.int .i64 q.1) ∧ W.cell? (a.add (i * 2 + 1)) = some (.string q.2) := by
      intro i hi
      obtain ⟨h0, h1, t0, t1⟩ := hc i hi
      obtain ⟨z, e0, _⟩ := DataW.trod_int (k := .i64) (by kernel_rfl) t0
      obtain ⟨b, e1, _⟩ := DataW.trod_string (by kernel_rfl) t1
      injection e0 with e0
      injection e1 with e1
      exact ⟨(z, b), by rw [h0, e0], by rw [h1, e1]⟩
    obtain ⟨Q, hQ⟩ := Go.Deep.choose_lt (α := Wr) (p := fun i q => W.cell? (a.add (i * 2)) = some (.int .i64 q.1) ∧ W.cell? (a.add (i * 2 + 1)) = some (.string q.2)) each
    refine ⟨some a, m, (List.range len).map Q, by simp, (fun q => by cases q), ?_⟩
    intro j t hj
    simp only [List.getElem?_map, Option.map_eq_some_iff] at hj
    obtain ⟨i, hi, rfl⟩ := hj
    obtain ⟨hil, rfl⟩ := List.getElem?_eq_some_iff.1 hi
    simp only [List.length_range] at hil
    simp only [List.getElem_range]
    have hq := hQ j (by omega)
    have hb := World.block_lt_of_cell? W (a.add (j * 2)) hq.1
    rw [block_add] at hb
    exact ⟨a, rfl, hb, hq.1, by rw [ws_spell]; exact hq.2⟩

set_option maxRecDepth 100000 in
theorem open_bs {fuel : Nat} {cs : List Value} {x : DataW H × List MemPlace} (h : DataW.trod enc Tryz.prog W 0 (fun _ => true) true fuel 51 cs = some x) :
    ∃ A c s, cs = [.slice A (s : List Bool).length c] ∧ (A = none → c = 0) ∧ Es Value.bool W W.heap.size A s := by
  rcases Go.Deep.open_bools Tryz.underlying51 Tryz.underlying4 (by kernel_rfl) h with ⟨rfl, _⟩ | ⟨a, len, cap, B, rfl, _, hl, _, _, hc⟩
  · exact ⟨none, 0, [], rfl, fun _ => rfl, es_nil _ _ _ _⟩
  · refine ⟨some a, cap, (List.range len).map B, by simp, (fun q => by cases q), ?_⟩
    intro j t hj
    simp only [List.getElem?_map, Option.map_eq_some_iff] at hj
    obtain ⟨i, hi, rfl⟩ := hj
    obtain ⟨hil, rfl⟩ := List.getElem?_eq_some_iff.1 hi
    simp only [List.length_range] at hil
    simp only [List.getElem_range]
    have hq := hc j (by omega)
    have hb := World.block_lt_of_cell? W (a.add j) hq
    rw [block_add] at hb
    exact ⟨a, rfl, hb, hq⟩

set_option maxRecDepth 100000 in
theorem open_disk {v : Value} {d : DataW H} {ps : List MemPlace} (hval : Value.okWide Tryz.prog W r base 25 v) (h : DataW.Trod enc Tryz.prog W 0 (fun _ => true) true 25 v d ps) :
    ∃ A n s B m c f x, v = .agg #[.slice A (s : List ByteArray).length n, .slice B (c : List Wr).length m, .int .i64 f, .bool x] ∧ Mem W A n B m s c ∧ f < 9223372036854775808 := by
  obtain ⟨v0, v1, v2, v3, y0, y1, y2, y3, n, rfl, _, _, h0, h1, h2, h3⟩ := Go.Joins.open_agg4 Tryz.underlying25 (by kernel_rfl) (by kernel_rfl) hval h
  obtain ⟨A, k, s, e0, za, hs⟩ := open_strs h0
  obtain ⟨B, m, c, e1, zb, hc⟩ := open_wrs h1
  obtain ⟨f, e2, _, wf⟩ := DataW.trod_int (k := .i64) (by kernel_rfl) h2
  obtain ⟨x, e3, _⟩ := DataW.trod_bool (by kernel_rfl) h3
  injection e0 with e0; injection e1 with e1; injection e2 with e2; injection e3 with e3
  subst e0; subst e1; subst e2; subst e3
  have bf := bounds_i64 wf
  exact ⟨A, k, s, B, m, c, f, x, rfl, ⟨hs, hc, za, zb⟩, by omega⟩

set_option maxRecDepth 100000 in
theorem open_writes {v : Value} {d : DataW H} {ps : List MemPlace} (hval : Value.okWide Tryz.prog W r base 23 v) (h : DataW.Trod enc Tryz.prog W 0 (fun _ => true) true 23 v d ps) :
    ∃ A c s, v = .slice A (s : List Wr).length c ∧ Ws W W.heap.size A s := by
  obtain ⟨a0, len, cap, rfl⟩ := okWide_slice Tryz.underlying23 hval
  obtain ⟨fuel, hf⟩ := h
  obtain ⟨A, c, s, e, _, hs⟩ := open_wrs hf
  have e : (.slice a0 len cap : Value) = .slice A s.length c := by simpa [Value.cells] using e
  exact ⟨A, c, s, e, hs⟩

set_option maxRecDepth 100000 in
theorem open_bools38 {v : Value} {d : DataW H} {ps : List MemPlace} (hval : Value.okWide Tryz.prog W r base 51 v) (h : DataW.Trod enc Tryz.prog W 0 (fun _ => true) true 51 v d ps) :
    ∃ A c s, v = .slice A (s : List Bool).length c ∧ Es Value.bool W W.heap.size A s := by
  obtain ⟨a0, len, cap, rfl⟩ := okWide_slice Tryz.underlying51 hval
  obtain ⟨fuel, hf⟩ := h
  obtain ⟨A, c, s, e, _, hs⟩ := open_bs hf
  have e : (.slice a0 len cap : Value) = .slice A s.length c := by simpa [Value.cells] using e
  exact ⟨A, c, s, e, hs⟩
end

end Go.Proofs.YtjkgellkkjjnbaaGreatDoor

/- How a law's row is closed: a call that answers true and leaves all that was there as it was meets the row, whatever its parameters are (each is read again where it lies). No condition but that the parameters' types are readable. -/

namespace Go.Proofs.YtjkgellkkjjnbaaGreatDoor
open Go.ChangeShapes Go.WideShapes Go.ChangeAt Go.RowKit Go.WideElems

section
variable {H : Type} {enc : TypeId × Value → H} {P : Program}

theorem all_stay (hl : laidOutB P = true) {W W' : World} {sp : Nat → Bool} : ∀ {ts : List TypeId} {vs : List Value} {ds : List (DataW H)} {ps : List MemPlace},
    (∀ t ∈ ts, P.readableRec t = true ∧ t < P.types.size) → DataW.TrodAll enc P W 0 (fun _ => true) true ts vs ds ps →
    (∀ p ∈ ps, W.sameAt W' p) → (∀ p ∈ ps, sp p.block = true) → DataW.TrodAll enc P W' 0 sp true ts vs ds ps
  | [], _, _, _, _, h, _, _ => by
    obtain ⟨rfl, rfl, rfl⟩ := trodAll_nil h
    exact h
  | t :: ts, _, _, _, ht, h, hs, hp => by
    obtain ⟨v, vs1, d, ds1, a, b, rfl, rfl, rfl, h1, h2⟩ := trodAll_cons h
    have hr := ht t (by simp)
    exact ⟨a, b, Trod_stays hl hr.1 hr.2 h1 (fun p q => hs p (by simp [q])) (fun p q => hp p (by simp [q])),
      all_stay hl (fun t q => ht t (by simp [q])) h2 (fun p q => hs p (by simp [q])) (fun p q => hp p (by simp [q])), rfl⟩

theorem law_post {f : Func} {s : ChangeSpec} {W W' : World} {args : Array Value} {ds gs : List (DataW H)} {before : List MemPlace} {tb : TypeId}
    (hl : laidOutB P = true) (ht : (f.params.toList.all fun t => P.readableRec t && decide (t < P.types.size)) = true) (hv : s.vars = []) (hr : f.resultTypes = #[tb]) (htb : P.underlying tb = some .bool)
    (hW : DataW.Whole enc P f.params.toList s.vars false W args.toList ds gs before)
    (hs : s.fn H (ds ++ gs) = { results := [.lit (.bool true)], args := ds }) (hb : Below W.heap.size W W') :
    s.post enc P f false true false false W args (.bool true) W' := by
  have hW' := hW
  have hlt : ∀ p ∈ before, p.block < W.heap.size := fun p hp => hW.lt p hp
  obtain ⟨p, q, hA, hV, rfl, _, _⟩ := hW
  rw [hv] at hV
  obtain ⟨rfl, rfl⟩ := trodVars_none hV
  refine ⟨ds, [], p ++ [], [], p, [], hW', ?_, ?_, ?_, hb.frame _, fun h => by cases h⟩
  · rw [hs, hr]
    exact trodAll_mk1 (shut_bool htb true)
  · rw [hs]
    refine all_stay hl (fun t h => ?_) hA (fun x hx => hb.same (hlt x (by simp [hx]))) (fun x hx => by simpa using hlt x (by simp [hx]))
    have := List.all_eq_true.1 ht t h
    simpa using this
  · rw [hs, hv]
    rfl
end

end Go.Proofs.YtjkgellkkjjnbaaGreatDoor
