/- A fault of superblocks, asked by errors.Is and errors.As: what both answer where it wraps the sentinel, where it wraps a number, and at nil. Under: both package variables as they are laid. -/
import Derived.Test.YtjkgellkkjjnbaaGreatDoorKA
import Derived.LaidEql
import Derived.Stop.Asserts
import Derived.RowKitTokens
namespace Go.Proofs.YtjkgellkkjjnbaaGreatDoor
open Go.RowKit Go.Extern.Stop Go.Stop Go.Extern

/-- Both package variables as they are laid: the sentinel, at block 'a', and the type of errors. -/
structure Glob (w : World) (a : Addr) : Prop where
  e0 : w.cell? ⟨0, 0, none⟩ = some (.iface 179 (.pointer (some a)))
  e1 : w.cell? ⟨1, 0, none⟩ = some (.iface 164 (.agg #[.pointer (some ⟨2, 111, none⟩)]))
  row : ∃ ca ta, w.heap[a.block]? = some (.cells ca ta (0, 0))

theorem cell_lt {w : World} {p : Addr} {v : Value} (h : w.cell? p = some v) : p.block < w.heap.size := by
  rcases Nat.lt_or_ge p.block w.heap.size with q | q
  · exact q
  · simp [World.cell?, Array.getElem?_eq_none q] at h

theorem Glob.up {w w' : World} {a : Addr} (h : Glob w a) (hb : Below w.heap.size w w') : Glob w' a := by
  refine ⟨(hb.cell (p := ⟨0, 0, none⟩) (cell_lt h.e0)).trans h.e0, (hb.cell (p := ⟨1, 0, none⟩) (cell_lt h.e1)).trans h.e1, ?_⟩
  obtain ⟨ca, ta, hr⟩ := h.row
  refine ⟨ca, ta, (hb.block _ ?_).trans hr⟩
  rcases Nat.lt_or_ge a.block w.heap.size with q | q
  · exact q
  · rw [Array.getElem?_eq_none q] at hr; cases hr

/-! ### Closed facts: errors.Is -/
theorem isTypeOf (v : Value) (w : World) : (Extern.ReflectliteType.typeOf #[.iface 179 v]).run Tryz.prog w = .ok (.iface 164 (.agg #[.pointer (some ⟨2, 179, none⟩)])) w := by kernel_rfl
theorem isComparable (w : World) : ((Extern.ReflectliteType.method fun t => (fun a => Value.bool a.comparable) <$> typeInfo t) #[.agg #[.pointer (some ⟨2, 179, none⟩)]]).run Tryz.prog w = .ok (.bool true) w := by kernel_rfl
theorem isComp : (Tryz.prog.info? 179).map (·.comparable) = some true := by kernel_rfl
theorem isSize : (Tryz.prog.info? 199).map (·.size) = some 1 := by kernel_rfl

theorem noIsF (v : Value) (xT : TypeId) (w : World) : (Instr.typeAssert (.iface 137 v) xT 166 true).run Tryz.prog w = .ok (.tuple #[.nilIface, .bool false]) w := run_typeAssert_lacksB Tryz.underlying166 (by kernel_rfl) (by kernel_rfl) v xT w
theorem noIsN (v : Value) (xT : TypeId) (w : World) : (Instr.typeAssert (.iface 37 v) xT 166 true).run Tryz.prog w = .ok (.tuple #[.nilIface, .bool false]) w := run_typeAssert_lacksB Tryz.underlying166 (by kernel_rfl) (by kernel_rfl) v xT w
theorem hasUnwrapF (v : Value) (xT : TypeId) (w : World) : (Instr.typeAssert (.iface 137 v) xT 169 true).run Tryz.prog w = .ok (.tuple #[.iface 137 v, .bool true]) w := run_typeAssert_hasB Tryz.underlying169 (by kernel_rfl) v xT w
theorem noUnwrapN (v : Value) (xT : TypeId) (w : World) : (Instr.typeAssert (.iface 37 v) xT 169 true).run Tryz.prog w = .ok (.tuple #[.nilIface, .bool false]) w := run_typeAssert_lacksB Tryz.underlying169 (by kernel_rfl) (by kernel_rfl) v xT w
theorem noUnwrapsN (v : Value) (xT : TypeId) (w : World) : (Instr.typeAssert (.iface 37 v) xT 171 true).run Tryz.prog w = .ok (.tuple #[.nilIface, .bool false]) w := run_typeAssert_lacksB Tryz.underlying171 (by kernel_rfl) (by kernel_rfl) v xT w
theorem noAsF (v : Value) (xT : TypeId) (w : World) : (Instr.typeAssert (.iface 137 v) xT 176 true).run Tryz.prog w = .ok (.tuple #[.nilIface, .bool false]) w := run_typeAssert_lacksB Tryz.underlying176 (by kernel_rfl) (by kernel_rfl) v xT w

/-- What a fault wraps. -/
theorem unwrap_any (s : ByteArray) (x : Value) (w : World) : Calls Tryz.prog 161 #[.agg #[.string s, x]] w fun e w' => e = .returned x ∧ Below w.heap.size w w' := by
  go_enter Tryz.func161, Tryz.ntmps161
  go_wp2
  go_ret
  exact ⟨rfl, below1⟩

/-- errors.Is(nil, x). -/
theorem is_nil (b : Addr) (w : World) :
    Calls Tryz.prog 122 #[.nilIface, .iface 179 (.pointer (some b))] w fun e w' => e = .returned (.bool false) ∧ w' = w := by
  have hn := run_eql_iface_nil_left (P := Tryz.prog) w 179 (.pointer (some b)) Tryz.underlying111
  go_enter Tryz.func122, Tryz.ntmps122
  go_wp2
  go_ret
  exact ⟨rfl, rfl⟩

set_option maxHeartbeats 4000000 in
/-- errors.Is(fault that wraps x, x). -/
theorem is_shape (s : ByteArray) (b : Addr) (w : World) :
    Calls Tryz.prog 135 #[.iface 137 (.agg #[.string s, .iface 179 (.pointer (some b))]), .iface 179 (.pointer (some b)), .bool true] w fun e w' => e = .returned (.bool true) ∧ Below w.heap.size w w' := by
  obtain ⟨i, hi, hcmp⟩ := Option.map_eq_some_iff.1 isComp
  obtain ⟨j, hj, hjs⟩ := Option.map_eq_some_iff.1 isSize
  have nF := noIsF
  have uF := hasUnwrapF
  have heq := fun w => run_eql_iface_ptr_same (P := Tryz.prog) w b Tryz.underlying111 Tryz.underlying179 hi hcmp hj
  have hty := run_eql_iface_types (P := Tryz.prog) 137 179 (.agg #[.string s, .iface 179 (.pointer (some b))]) (.pointer (some b)) Tryz.underlying111 (by decide) w
  go_enter Tryz.func135, Tryz.ntmps135
  go_wp2_with fail
  refine wp_loop_rounds 2 ?_
  rw [rounds_succ]
  go_wp2_with fail
  refine (unwrap_any _ _ _).mono ?_
  rintro e w1 ⟨rfl, hb⟩
  go_wp2_with fail
  rw [rounds_succ]
  go_wp2_with fail
  go_ret
  exact ⟨rfl, hb⟩

set_option maxHeartbeats 4000000 in
/-- errors.Is(fault that wraps a number, x). -/
theorem is_number (s : ByteArray) (n : Int) (b : Addr) (w : World) :
    Calls Tryz.prog 135 #[.iface 137 (.agg #[.string s, .iface 37 (.int .i64 n)]), .iface 179 (.pointer (some b)), .bool true] w fun e w' => e = .returned (.bool false) ∧ Below w.heap.size w w' := by
  have nF := noIsF
  have uF := hasUnwrapF
  have nN := noIsN
  have uN := noUnwrapN
  have vN := noUnwrapsN
  have hty := fun w => run_eql_iface_types (P := Tryz.prog) 137 179 (.agg #[.string s, .iface 37 (.int .i64 n)]) (.pointer (some b)) Tryz.underlying111 (by decide) w
  have hty2 := fun w => run_eql_iface_types (P := Tryz.prog) 37 179 (.int .i64 n) (.pointer (some b)) Tryz.underlying111 (by decide) w
  go_enter Tryz.func135, Tryz.ntmps135
  go_wp2_with fail
  refine wp_loop_rounds 2 ?_
  rw [rounds_succ]
  go_wp2_with fail
  refine (unwrap_any _ _ _).mono ?_
  rintro e w1 ⟨rfl, hb⟩
  go_wp2_with fail
  rw [rounds_succ]
  go_wp2_with fail
  go_ret
  exact ⟨rfl, hb⟩

theorem cTypeOf (t : TypeId) (v : Value) (w : World) (h : (Extern.ReflectliteType.typeOf #[.iface t v]).run Tryz.prog w = .ok (.iface 164 (.agg #[.pointer (some ⟨2, t, none⟩)])) w) :
    (callFunc 134 #[.iface t v]).run Tryz.prog w = .ok (.value (.iface 164 (.agg #[.pointer (some ⟨2, t, none⟩)]))) w := by
  rw [@run_callFunc_extern Tryz.prog 134 _ Extern.ReflectliteType.typeOf Tryz.func134 (by kernel_rfl) (by kernel_rfl) (by kernel_rfl) (by kernel_rfl), h]
  rfl

theorem cComparable (w : World) : (callFunc 167 #[.agg #[.pointer (some ⟨2, 179, none⟩)]]).run Tryz.prog w = .ok (.value (.bool true)) w := by
  rw [@run_callFunc_extern Tryz.prog 167 _ (Extern.ReflectliteType.method fun t => do Rtype.noPackHeld "Comparable" t; pure (.bool (← typeInfo t).comparable)) Tryz.func167 (by kernel_rfl) (by kernel_rfl) (by kernel_rfl) (by kernel_rfl)]
  kernel_rfl

set_option maxHeartbeats 4000000 in
theorem Is_fault (v : Value) (r : Bool) (b : Addr) (w : World)
    (h : ∀ w, Calls Tryz.prog 135 #[.iface 137 v, .iface 179 (.pointer (some b)), .bool true] w fun e w' => e = .returned (.bool r) ∧ Below w.heap.size w w') :
    Calls Tryz.prog 122 #[.iface 137 v, .iface 179 (.pointer (some b))] w fun e w' => e = .returned (.bool r) ∧ Below w.heap.size w w' := by
  have h8 := fun v w => cTypeOf 179 v w (isTypeOf v w)
  have h32 := cComparable
  have H := Lib.hid h; clear h
  go_enter Tryz.func122, Tryz.ntmps122
  go_wp2_with fail
  refine (H.out _).mono ?_
  rintro e w1 ⟨rfl, hb⟩
  go_wp2_with fail
  go_ret
  exact ⟨rfl, hb⟩

/-! ### Closed facts: errors.As at a target of type *Errno -/
theorem cValueOfP (t : Addr) (w : World) : (callFunc 136 #[.iface 142 (.pointer (some t))]).run Tryz.prog w
    = .ok (.value (.agg #[.pointer (some ⟨2, 142, none⟩), .pointer (some ⟨w.heap.size, 0, none⟩), .int .u64 150])) (w.alloc (.cells #[.pointer (some t)] 142)) := by
  rw [@run_callFunc_extern Tryz.prog 136 _ (fun args => ReflectliteValue.unpack (args.getD 0 (.tuple #[]))) Tryz.func136 (by kernel_rfl) (by kernel_rfl) (by kernel_rfl) (by kernel_rfl)]
  kernel_rfl
theorem cValueOfN (n : Int) (w : World) : (callFunc 136 #[.iface 37 (.int .i64 n)]).run Tryz.prog w
    = .ok (.value (.agg #[.pointer (some ⟨2, 37, none⟩), .pointer (some ⟨w.heap.size, 0, none⟩), .int .u64 130])) (w.alloc (.cells #[.int .i64 n] 37)) := by
  rw [@run_callFunc_extern Tryz.prog 136 _ (fun args => ReflectliteValue.unpack (args.getD 0 (.tuple #[]))) Tryz.func136 (by kernel_rfl) (by kernel_rfl) (by kernel_rfl) (by kernel_rfl)]
  kernel_rfl
theorem cType (a : Addr) (w : World) : (callFunc 137 #[.agg #[.pointer (some ⟨2, 142, none⟩), .pointer (some a), .int .u64 150]]).run Tryz.prog w
    = .ok (.value (.iface 164 (.agg #[.pointer (some ⟨2, 142, none⟩)]))) w := by
  rw [@run_callFunc_extern Tryz.prog 137 _ (ReflectliteValue.methodAny (ReflectliteValue.valueError "reflectlite.Value.Type" 0) (fun t _ _ _ => ReflectliteType.toType t)) Tryz.func137 (by kernel_rfl) (by kernel_rfl) (by kernel_rfl) (by kernel_rfl)]
  kernel_rfl
theorem cKindP (w : World) : (callFunc 156 #[.pointer (some ⟨2, 142, none⟩)]).run Tryz.prog w = .ok (.value (.int .u8 22)) w := by
  rw [@run_callFunc_extern Tryz.prog 156 _ (ReflectliteType.abiMethod fun t => do pure (.int .u8 (← Rtype.kind t))) Tryz.func156 (by kernel_rfl) (by kernel_rfl) (by kernel_rfl) (by kernel_rfl)]
  kernel_rfl
theorem cKindN (w : World) : (callFunc 156 #[.pointer (some ⟨2, 37, none⟩)]).run Tryz.prog w = .ok (.value (.int .u8 2)) w := by
  rw [@run_callFunc_extern Tryz.prog 156 _ (ReflectliteType.abiMethod fun t => do pure (.int .u8 (← Rtype.kind t))) Tryz.func156 (by kernel_rfl) (by kernel_rfl) (by kernel_rfl) (by kernel_rfl)]
  kernel_rfl
theorem cElem (w : World) : (callFunc 168 #[.agg #[.pointer (some ⟨2, 142, none⟩)]]).run Tryz.prog w = .ok (.value (.iface 164 (.agg #[.pointer (some ⟨2, 37, none⟩)]))) w := by
  rw [@run_callFunc_extern Tryz.prog 168 _ (ReflectliteType.method ReflectliteType.elem) Tryz.func168 (by kernel_rfl) (by kernel_rfl) (by kernel_rfl) (by kernel_rfl)]
  kernel_rfl
theorem cImplements (w : World) : (callFunc 169 #[.agg #[.pointer (some ⟨2, 37, none⟩)], .iface 164 (.agg #[.pointer (some ⟨2, 111, none⟩)])]).run Tryz.prog w = .ok (.value (.bool true)) w := by
  rw [@run_callFunc_extern Tryz.prog 169 _ (ReflectliteType.relation "Implements" ReflectliteType.implements_) Tryz.func169 (by kernel_rfl) (by kernel_rfl) (by kernel_rfl) (by kernel_rfl)]
  kernel_rfl
theorem cAssignableF (w : World) : (callFunc 166 #[.agg #[.pointer (some ⟨2, 137, none⟩)], .iface 164 (.agg #[.pointer (some ⟨2, 37, none⟩)])]).run Tryz.prog w = .ok (.value (.bool false)) w := by
  rw [@run_callFunc_extern Tryz.prog 166 _ (ReflectliteType.relation "AssignableTo" ReflectliteType.assignableTo) Tryz.func166 (by kernel_rfl) (by kernel_rfl) (by kernel_rfl) (by kernel_rfl)]
  kernel_rfl
theorem cAssignableN (w : World) : (callFunc 166 #[.agg #[.pointer (some ⟨2, 37, none⟩)], .iface 164 (.agg #[.pointer (some ⟨2, 37, none⟩)])]).run Tryz.prog w = .ok (.value (.bool true)) w := by
  rw [@run_callFunc_extern Tryz.prog 166 _ (ReflectliteType.relation "AssignableTo" ReflectliteType.assignableTo) Tryz.func166 (by kernel_rfl) (by kernel_rfl) (by kernel_rfl) (by kernel_rfl)]
  kernel_rfl
theorem typeOfF (v : Value) (w : World) : (Extern.ReflectliteType.typeOf #[.iface 137 v]).run Tryz.prog w = .ok (.iface 164 (.agg #[.pointer (some ⟨2, 137, none⟩)])) w := by kernel_rfl
theorem typeOfN (v : Value) (w : World) : (Extern.ReflectliteType.typeOf #[.iface 37 v]).run Tryz.prog w = .ok (.iface 164 (.agg #[.pointer (some ⟨2, 37, none⟩)])) w := by kernel_rfl

end Go.Proofs.YtjkgellkkjjnbaaGreatDoor

/- errors.As at a fault of superblocks that wraps a number: it answers true, and the target holds the number. Under: both package variables as they are laid. -/

namespace Go.Proofs.YtjkgellkkjjnbaaGreatDoor
open Go.RowKit Go.Extern.Stop Go.Stop Go.Extern

/-! ### What reads or writes memory -/
theorem partsP (a : Addr) (w : World) : (ReflectliteValue.parts (.agg #[.pointer (some ⟨2, 142, none⟩), .pointer (some a), .int .u64 150])).run Tryz.prog w = .ok (some (142, a, 150)) w := by kernel_rfl
theorem partsN (a : Addr) (w : World) : (ReflectliteValue.parts (.agg #[.pointer (some ⟨2, 37, none⟩), .pointer (some a), .int .u64 130])).run Tryz.prog w = .ok (some (37, a, 130)) w := by kernel_rfl
theorem partsA (a : Addr) (w : World) : (ReflectliteValue.parts (.agg #[.pointer (some ⟨2, 37, none⟩), .pointer (some a), .int .u64 386])).run Tryz.prog w = .ok (some (37, a, 386)) w := by kernel_rfl
theorem elemOfP (w : World) : (Rtype.elem? 142).run Tryz.prog w = .ok (some 37) w := by kernel_rfl
theorem mkN (p : Addr) (w : World) : (ReflectliteValue.mk 37 p ReflectliteValue.flagAddr).run Tryz.prog w = .ok (.agg #[.pointer (some ⟨2, 37, none⟩), .pointer (some p), .int .u64 386]) w := by kernel_rfl
theorem directN (w : World) : (Rtype.directlyAssignable 37 37).run Tryz.prog w = .ok true w := by kernel_rfl

theorem method_parts {z : Sem Value} {f : TypeId → Addr → Nat → Nat → Sem Value} {v : Value} {g : Option (TypeId × Addr × Nat) → Sem Value} (h : ReflectliteValue.method z f #[v] = (ReflectliteValue.parts v >>= fun p => g p)) {w w' : World} {P : Program} {y : Value}
    (h2 : (ReflectliteValue.parts v >>= fun p => g p).run P w = .ok y w') : (ReflectliteValue.method z f #[v]).run P w = .ok y w' := by rw [h]; exact h2

theorem cIsNil (a p : Addr) (W : World) (ha : W.cell? a = some (.pointer (some p))) :
    (callFunc 138 #[.agg #[.pointer (some ⟨2, 142, none⟩), .pointer (some a), .int .u64 150]]).run Tryz.prog W = .ok (.value (.bool false)) W := by
  rw [@run_callFunc_extern Tryz.prog 138 _ (ReflectliteValue.method (ReflectliteValue.valueError "reflectlite.Value.IsNil" 0) ReflectliteValue.isNil) Tryz.func138 (by kernel_rfl) (by kernel_rfl) (by kernel_rfl) (by kernel_rfl)]
  refine congrArg (fun r : Result Value => r.andThen fun v w' => Result.ok (Next.value v) w') (method_parts rfl ?_)
  simp only [Sem.run_bind, partsP, Result.andThen]
  simp [ReflectliteValue.isNil, loadVar, isAgg, underlying, Tryz.underlying142, ha, Result.andThen]

theorem cElemV (a p : Addr) (W : World) (ha : W.cell? a = some (.pointer (some p))) :
    (callFunc 140 #[.agg #[.pointer (some ⟨2, 142, none⟩), .pointer (some a), .int .u64 150]]).run Tryz.prog W
      = .ok (.value (.agg #[.pointer (some ⟨2, 37, none⟩), .pointer (some p), .int .u64 386])) W := by
  rw [@run_callFunc_extern Tryz.prog 140 _ (ReflectliteValue.method (ReflectliteValue.valueError "reflectlite.Value.Elem" 0) ReflectliteValue.elem) Tryz.func140 (by kernel_rfl) (by kernel_rfl) (by kernel_rfl) (by kernel_rfl)]
  refine congrArg (fun r : Result Value => r.andThen fun v w' => Result.ok (Next.value v) w') (method_parts rfl ?_)
  simp only [Sem.run_bind, partsP, Result.andThen]
  simp [ReflectliteValue.elem, loadVar, isAgg, underlying, Tryz.underlying142, ha, Result.andThen, elemOfP, mkN]
theorem set_parts {v x : Value} {f : Option (TypeId × Addr × Nat) → Option (TypeId × Addr × Nat) → Sem Value} (h : ReflectliteValue.set #[v, x] = (ReflectliteValue.parts v >>= fun p => ReflectliteValue.parts x >>= fun q => f p q)) {w w' : World} {P : Program} {y : Value}
    (h2 : (ReflectliteValue.parts v >>= fun p => ReflectliteValue.parts x >>= fun q => f p q).run P w = .ok y w') : (ReflectliteValue.set #[v, x]).run P w = .ok y w' := by rw [h]; exact h2

theorem cSet (ta b : Addr) (n : Int) (old : Value) (W : World) (hb : W.cell? b = some (.int .i64 n)) (ht : W.cell? ta = some old) (hf : W.frozen? ta = false) :
    (callFunc 141 #[.agg #[.pointer (some ⟨2, 37, none⟩), .pointer (some ta), .int .u64 386], .agg #[.pointer (some ⟨2, 37, none⟩), .pointer (some b), .int .u64 130]]).run Tryz.prog W
      = .ok (.value (.tuple #[])) (W.setCell ta (.int .i64 n)) := by
  rw [@run_callFunc_extern Tryz.prog 141 _ ReflectliteValue.set Tryz.func141 (by kernel_rfl) (by kernel_rfl) (by kernel_rfl) (by kernel_rfl)]
  refine congrArg (fun r : Result Value => r.andThen fun v w' => Result.ok (Next.value v) w') (set_parts rfl ?_)
  simp only [Sem.run_bind, partsA, partsN, Result.andThen]
  simp [ReflectliteValue.flagAddr, loadVar, isAgg, underlying, Tryz.underlying37, hb, Result.andThen, directN, storeVar, Value.cells, storeCells, Addr.add]
  rw [run_store Tryz.prog W ta _ _ (by rfl)]
  simp [ht, hf]

/-- errors.As(nil, target). -/
theorem as_nil (t : Value) (w : World) :
    Calls Tryz.prog 123 #[.nilIface, t] w fun e w' => e = .returned (.bool false) ∧ w' = w := by
  go_enter Tryz.func123, Tryz.ntmps123
  go_wp2
  go_ret
  exact ⟨rfl, rfl⟩

set_option maxHeartbeats 4000000 in
theorem as_number (s : ByteArray) (n : Int) (tb a : Nat) (w : World) (hv : w.cell? ⟨a, 0, none⟩ = some (.pointer (some ⟨tb, 0, none⟩))) (ho : Own w tb 1) :
    Calls Tryz.prog 139 #[.iface 137 (.agg #[.string s, .iface 37 (.int .i64 n)]), .iface 142 (.pointer (some ⟨tb, 0, none⟩)), .agg #[.pointer (some ⟨2, 142, none⟩), .pointer (some ⟨a, 0, none⟩), .int .u64 150], .iface 164 (.agg #[.pointer (some ⟨2, 37, none⟩)])] w
      fun e w' => e = .returned (.bool true) ∧ ∃ v, Below w.heap.size w v ∧ w' = v.setCell ⟨tb, 0, none⟩ (.int .i64 n) := by
  have tF := fun v w => cTypeOf 137 v w (typeOfF v w)
  have tN := fun v w => cTypeOf 37 v w (typeOfN v w)
  have aF := cAssignableF
  have aN := cAssignableN
  have nF := noAsF
  have uF := hasUnwrapF
  have hl := cell_lt hv
  have HH := Lib.hid ((Held.refl w).lay [.pointer (some ⟨2, 142, none⟩), .pointer (some ⟨a, 0, none⟩), .int .u64 150] 156)
  have HV := Lib.hid hv; clear hv
  have HO := Lib.hid ho; clear ho
  go_enter Tryz.func139, Tryz.ntmps139
  go_wp2_with fail
  refine wp_loop_rounds 2 ?_
  rw [rounds_succ]
  go_wp2_with fail
  refine (unwrap_any _ _ _).mono ?_
  rintro e w1 ⟨rfl, hb⟩
  have H1 := Lib.hid (HH.out.up hb)
  clear hb HH
  have kb := H1.out.b0.cell
  have ka := ((H1.out.below.cell (p := ⟨a, 0, none⟩) hl).trans HV.out)
  have eV := cElemV ⟨a, 0, none⟩ ⟨tb, 0, none⟩ w1 ka
  have vN := cValueOfN n w1
  obtain ⟨vs, hlen, hx⟩ := (HO.out.below H1.out.below)
  match vs, hlen with
  | [u], _ =>
    have sN := cSet ⟨tb, 0, none⟩ ⟨w1.heap.size, 0, none⟩ n u (w1.alloc (.cells #[.int .i64 n] 37)) ((Box.new w1 [.int .i64 n] 37).cell 0) ((hx.alloc _).cell 0) ((hx.alloc _).frozen 0)
    go_wp2_with fail
    rw [rounds_succ]
    go_wp2_with fail
    go_ret
    exact ⟨rfl, _, (H1.out.alloc _).below, rfl⟩

set_option maxHeartbeats 4000000 in
theorem As_number (s : ByteArray) (n : Int) (tb : Nat) (a : Addr) (w : World) (hg : Glob w a) (ho : Own w tb 1) :
    Calls Tryz.prog 123 #[.iface 137 (.agg #[.string s, .iface 37 (.int .i64 n)]), .iface 142 (.pointer (some ⟨tb, 0, none⟩))] w
      fun e w' => e = .returned (.bool true) ∧ ∃ v, Below w.heap.size w v ∧ w' = v.setCell ⟨tb, 0, none⟩ (.int .i64 n) := by
  have H0 := Lib.hid ((Held.refl w).lay [.pointer (some ⟨tb, 0, none⟩)] 142)
  have H1 := Lib.hid (H0.out.lay [.pointer (some ⟨2, 142, none⟩), .pointer (some ⟨w.heap.size, 0, none⟩), .int .u64 150] 156)
  rw [World.size_alloc] at H1
  have vP := cValueOfP ⟨tb, 0, none⟩ w
  have cT := cType
  have kP := cKindP
  have kN := cKindN
  have eE := cElem
  have iI := cImplements
  have k1 := H1.out.b1.cell 0
  have n8 := cIsNil ⟨w.heap.size, 0, none⟩ ⟨tb, 0, none⟩ _ k1
  have hg1 := (hg.up (below2 (o := .cells #[.pointer (some ⟨tb, 0, none⟩)] 142) (p := .cells #[.pointer (some ⟨2, 142, none⟩), .pointer (some ⟨w.heap.size, 0, none⟩), .int .u64 150] 156))).e1
  have HO := Lib.hid ho; clear ho
  have HG := Lib.hid hg; clear hg
  go_enter Tryz.func123, Tryz.ntmps123
  go_wp2_with fail
  refine (as_number s n tb w.heap.size _ k1 ((HO.out.below below1).below below1)).mono ?_
  rintro e w1 ⟨rfl, v, hb, rfl⟩
  go_wp2_with fail
  go_ret
  exact ⟨rfl, v, ext H1.out.below hb, rfl⟩

/-- What an error is that tells a number: nil, a fault that wraps the sentinel, or a fault that wraps the number. -/
def ErrOf (a : Addr) (v : Value) (e : Int) : Prop :=
  (e = 0 ∧ v = .nilIface) ∨ (∃ s, e = 2 ∧ v = .iface 137 (.agg #[.string s, .iface 179 (.pointer (some a))])) ∨ ∃ s, v = .iface 137 (.agg #[.string s, .iface 37 (.int .i64 e)])

set_option maxHeartbeats 1000000 in
theorem number_any (v : Value) (n : Int) (a : Addr) (w : World) (hg : Glob w a) (hv : ErrOf a v n) :
    Calls Tryz.prog 92 #[v] w fun e w' => e = .returned (.int .i64 n) ∧ Below w.heap.size w w' := by
  have h0 := (hg.up (below1 (o := .cells #[.int .i64 0] 37))).e0
  have G1 := Lib.hid (hg.up (below1 (o := .cells #[.int .i64 0] 37)))
  have H1 := Lib.hid ((Held.refl w).own [.int .i64 0] 37 (n := 1) rfl)
  clear hg
  rcases hv with ⟨rfl, rfl⟩ | ⟨s, rfl, rfl⟩ | ⟨s, rfl⟩
  · go_enter Tryz.func92, Tryz.ntmps92
    go_wp2_with fail
    refine (is_nil _ _).mono ?_
    rintro e w1 ⟨rfl, rfl⟩
    go_wp2_with fail
    refine (as_nil _ _).mono ?_
    rintro e w1 ⟨rfl, rfl⟩
    go_wp2_with fail
    go_ret
    exact ⟨rfl, H1.out.below⟩
  · go_enter Tryz.func92, Tryz.ntmps92
    go_wp2_with fail
    refine (Is_fault _ true _ _ (fun w => is_shape s a w)).mono ?_
    rintro e w1 ⟨rfl, hb⟩
    go_wp2_with fail
    go_ret
    exact ⟨rfl, ext H1.out.below hb⟩
  · go_enter Tryz.func92, Tryz.ntmps92
    go_wp2_with fail
    refine (Is_fault _ false _ _ (fun w => is_number s n a w)).mono ?_
    rintro e w1 ⟨rfl, hb⟩
    have H2 := Lib.hid (H1.out.up hb)
    have G2 := Lib.hid (G1.out.up hb)
    clear hb H1 G1 h0
    go_wp2_with fail
    refine (As_number s n w.heap.size a _ G2.out H2.out.o0).mono ?_
    rintro e w2 ⟨rfl, v, hb, rfl⟩
    have H3 := Lib.hid ((H2.out.up hb).set (b := w.heap.size) ⟨1, by simp⟩ 0 (.int .i64 n))
    obtain ⟨vs, hlen, hx⟩ := (H2.out.up hb).o0
    match vs, hlen with
    | [u], _ =>
      have k := (hx.set 0 (.int .i64 n)).cell
      clear hb H2 G2
      generalize v.setCell ⟨w.heap.size, 0, none⟩ (.int .i64 n) = v2 at *
      go_wp2_with fail
      go_ret
      exact ⟨rfl, H3.out.below⟩

end Go.Proofs.YtjkgellkkjjnbaaGreatDoor
