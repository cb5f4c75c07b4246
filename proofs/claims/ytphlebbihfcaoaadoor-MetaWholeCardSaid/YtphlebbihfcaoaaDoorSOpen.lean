/- How a superblock that comes in is opened, and what the listed package variables give: the sentinel and the type of errors as they are laid. No other condition. -/
import Derived.Test.YtphlebbihfcaoaaDoorVOpen
import Derived.Test.YtphlebbihfcaoaaDoorS1
import Derived.Test.YtphlebbihfcaoaaDoorS6
import Derived.LaidLaws
import Derived.LaidHandle
import Derived.LaidSub
import Derived.MakeChecks
import Derived.Stop.LaidErr
import Derived.LaidMore
import Derived.Stop.Joined
namespace Go.Proofs.YtphlebbihfcaoaaDoor
open Go.ChangeShapes Go.WideShapes Go.ChangeAt Go.RowKit
set_option maxRecDepth 100000

section
variable {H : Type} {enc : TypeId × Value → H} {W : World} {r : Reach} {base : Nat}

theorem cells27 : Tryd.prog.cellsOf 31 = 8 := by kernel_rfl
theorem cells3 : Tryd.prog.cellsOf 3 = 1 := by kernel_rfl
theorem cells4 : Tryd.prog.cellsOf 4 = 1 := by kernel_rfl

theorem open_i64 {fuel : Nat} {cs : List Value} {x : DataW H × List MemPlace} (h : DataW.trod enc Tryd.prog W 0 (fun _ => true) true fuel 3 cs = some x) : ∃ c : Int, cs = [.int .i64 c] := by
  obtain ⟨c, rfl, _, wc⟩ := DataW.trod_int (k := .i64) Tryd.underlying3 h
  exact ⟨c, rfl⟩

theorem open_b {fuel : Nat} {cs : List Value} {x : DataW H × List MemPlace} (h : DataW.trod enc Tryd.prog W 0 (fun _ => true) true fuel 4 cs = some x) : ∃ c : Bool, cs = [.bool c] := by
  obtain ⟨c, rfl, _⟩ := DataW.trod_bool Tryd.underlying4 h
  exact ⟨c, rfl⟩

theorem open_sup {v : Value} {d : DataW H} {ps : List MemPlace} (hval : Value.okWide Tryd.prog W r base 31 v) (h : DataW.Trod enc Tryd.prog W 0 (fun _ => true) true 31 v d ps) :
    ∃ s : Sup, v = supV s ∧ s.wide := by
  obtain ⟨cs, rfl, _⟩ := okWide_struct Tryd.underlying31 hval
  obtain ⟨fuel, hf⟩ := h
  obtain ⟨l⟩ := cs
  obtain ⟨xs, n, _, _, hlen, hl, hel⟩ := DataW.trod_struct Tryd.underlying31 hf
  rw [cells27] at hlen
  simp only [Value.cells] at hlen hel
  match xs, hl, l, hlen with
  | [x0, x1, x2, x3, x4], _, [c0, c1, c2, c3, c4, c5, c6, c7], _ =>
    have h0 : DataW.trod enc Tryd.prog W 0 (fun _ => true) true n 3 (List.take (Tryd.prog.cellsOf 3) [c0, c1, c2, c3, c4, c5, c6, c7]) = some x0 := hel 0 _ rfl
    have h1 : DataW.trod enc Tryd.prog W 0 (fun _ => true) true n 29 (List.take (Tryd.prog.cellsOf 29) [c1, c2, c3, c4, c5, c6, c7]) = some x1 := hel 1 _ rfl
    have h2 : DataW.trod enc Tryd.prog W 0 (fun _ => true) true n 4 (List.take (Tryd.prog.cellsOf 4) [c5, c6, c7]) = some x2 := hel 2 _ rfl
    have h3 : DataW.trod enc Tryd.prog W 0 (fun _ => true) true n 4 (List.take (Tryd.prog.cellsOf 4) [c6, c7]) = some x3 := hel 3 _ rfl
    have h4 : DataW.trod enc Tryd.prog W 0 (fun _ => true) true n 4 (List.take (Tryd.prog.cellsOf 4) [c7]) = some x4 := hel 4 _ rfl
    rw [cells3] at h0
    rw [cells25] at h1
    rw [cells4] at h2 h3 h4
    obtain ⟨k, e0⟩ := open_i64 (x := x0) (by simpa using h0)
    obtain ⟨c, b, o, p, e1, b0, b1, b2, b3⟩ := open_vecL (x := x1) (by simpa using h1)
    obtain ⟨f2, e2⟩ := open_b (x := x2) (by simpa using h2)
    obtain ⟨f3, e3⟩ := open_b (x := x3) (by simpa using h3)
    obtain ⟨f4, e4⟩ := open_b (x := x4) (by simpa using h4)
    simp at e0 e1 e2 e3 e4
    obtain ⟨q1, q2, q3, q4⟩ := e1
    subst e0; subst q1; subst q2; subst q3; subst q4; subst e2; subst e3; subst e4
    exact ⟨⟨k, c, b, o, p, f2, f3, f4⟩, rfl, b0, b1, b2, b3⟩
end

/-! ### The listed variables -/
theorem gShape : Tryd.prog.globalNamed "gemination/super.errShape" = some 0 := by kernel_rfl
theorem tShape : (Tryd.prog.globals[0]?).map (·.type) = some 61 := by kernel_rfl
theorem gType : Tryd.prog.globalNamed "errors.errorType" = some 1 := by kernel_rfl
theorem rType : (Tryd.prog.cutTypes.find? (·.1 == "internal/reflectlite.rtype")).map (·.2) = some 119 := by kernel_rfl
theorem typesSize : Tryd.prog.types.size = 167 := by kernel_rfl
theorem oneRow : ((List.range 167).filter fun t => Tryd.prog.rowNamed t [101, 114, 114, 111, 114]) = [61] := by kernel_rfl
theorem star : "*" ++ "errors.errorString" = "*errors.errorString" := by decide
theorem rowPtr (u : TypeId) (h : Tryd.prog.typeName? 3 u = some "*errors.errorString") : u = 134 :=
  typeName_ptr_named (nm := "errors.errorString") (by rw [star]; kernel_rfl) (by kernel_rfl) (by decide) u (by rw [star]; exact h)
theorem cellsES : Tryd.prog.cellsOf 155 = 1 := by kernel_rfl
theorem cellsS : Tryd.prog.cellsOf 9 = 1 := by kernel_rfl

/-- What is listed. -/
def laid1 : List (String × DataW Unit) := [("errors.errorType", Rows.laid_errors_errorType), ("gemination/super.errShape", Rows.laid_gemination_super_errShape)]

theorem sentinel_row {P : Program} {n nm : String} {text : List UInt8} {q : List (String × DataW Unit)} {W : World} {g : Nat} {ti tp te ts : TypeId} {ms : Array (String × TypeId)} {f : Field}
    (h : laidMet P ((n, .iface nm (.ptr (.agg [.lit (.string text)]))) :: q) W)
    (hg : P.globalNamed n = some g) (ht : (P.globals[g]?).map (·.type) = some ti) (hi : P.underlying ti = some (.interface ms)) (hrow : ∀ u, P.typeName? 3 u = some nm → u = tp)
    (hp : P.underlying tp = some (.pointer te)) (he : P.underlying te = some (.struct #[f])) (hft : f.type = ts) (hfo : f.offset = 0) (hs : P.underlying ts = some .string) (hc : P.cellsOf te = 1) (hcs : P.cellsOf ts = 1) :
    ∃ a c t, W.cell? ⟨g, 0, none⟩ = some (.iface tp (.pointer (some a))) ∧ W.heap[a.block]? = some (.cells c t (0, 0)) := by
  obtain ⟨ps, ⟨g0, t0, cs0, f0, p0, q0, hg0, ht0, hv0, hd0, _, e0⟩, _, hrows⟩ := h
  obtain rfl := Option.some.inj (hg.symm.trans hg0)
  obtain rfl := Option.some.inj (ht.symm.trans ht0)
  subst e0
  obtain ⟨l0⟩ := cs0
  have ok0 : ∀ u v, l0 = [.iface u v] → Value.okWide P W .any 0 u v := fun u v e => by
    subst e
    exact (hrows g 0 (by simp [MemPlace.row])).2 u v (by simpa using World.var?_cell hg0 hv0 0)
  obtain ⟨a, s, rfl, _, _, _, rfl⟩ := errorString_of_trod hi hrow hp he hft hfo hs hc hcs hd0 ok0
  obtain ⟨c, t, hb⟩ := (hrows a.block a.off (by simp [MemPlace.row])).1
  exact ⟨a, c, t, by simpa using World.var?_cell hg0 hv0 0, hb⟩

theorem glob_of {W : World} (h : laidMetH Tryd.prog laid1 W) : ∃ a, Glob W a := by
  obtain ⟨hp, hh⟩ := laidMetH_iff.1 h
  have hp' : laidMet Tryd.prog [("gemination/super.errShape", Rows.laid_gemination_super_errShape)] W := hp
  obtain ⟨a, c, t, hc, hb⟩ := sentinel_row hp' gShape tShape Tryd.underlying61 rowPtr Tryd.underlying134 Tryd.underlying155 rfl rfl Tryd.underlying9 cellsES cellsS
  have hh' : handlesMet Tryd.prog [("errors.errorType", Rows.laid_errors_errorType)] W := hh
  obtain ⟨name, u, ty, e1, e2, e3, e4, e5⟩ := hh' _ (List.mem_singleton.2 rfl)
  have en : name = [101, 114, 114, 111, 114] := (Option.some.inj e1).symm
  subst en
  obtain rfl := Option.some.inj (rType.symm.trans e2)
  have hm : ty ∈ (List.range 167).filter fun t => Tryd.prog.rowNamed t [101, 114, 114, 111, 114] := List.mem_filter.2 ⟨List.mem_range.2 (by rw [← typesSize]; exact e3), e4⟩
  rw [oneRow] at hm
  obtain rfl := List.mem_singleton.1 hm
  have ht : typeHandle Tryd.prog 61 = .pointer (some ⟨2, 61, none⟩) := by kernel_rfl
  rw [ht] at e5
  exact ⟨a, hc, by simpa using World.var?_cell gType e5 0, c, t, hb⟩

theorem door_met (os : Os) (args : Array Value) : laidMetH Tryd.prog laid1 ((World.doorLaid Tryd.prog 35 os).forCall (fun _ _ => 0) ⟨#[], args, []⟩).memory :=
  laidMetH_of_parts3 (fuel := 8) (laidMet_of_run' 8 (by kernel_rfl) (by kernel_rfl)) (by kernel_rfl) (by kernel_rfl)
end Go.Proofs.YtphlebbihfcaoaaDoor
