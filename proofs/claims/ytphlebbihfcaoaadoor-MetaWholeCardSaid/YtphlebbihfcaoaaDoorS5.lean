/- A fault of superblocks, asked by errors.Is and errors.As: what both answer where it wraps the sentinel, where it wraps a number, and at nil. Under: both package variables as they are laid. -/
import Derived.Test.YtphlebbihfcaoaaDoorR0
import Derived.LaidEql
import Derived.Stop.Asserts
import Derived.RowKitTokens
namespace Go.Proofs.YtphlebbihfcaoaaDoor
open Go.RowKit Go.Extern.Stop Go.Stop Go.Extern

/-- Both package variables as they are laid: the sentinel, at block 'a', and the type of errors. -/
structure Glob (w : World) (a : Addr) : Prop where
  e0 : w.cell? ⟨0, 0, none⟩ = some (.iface 134 (.pointer (some a)))
  e1 : w.cell? ⟨1, 0, none⟩ = some (.iface 119 (.agg #[.pointer (some ⟨2, 61, none⟩)]))
  row : ∃ ca ta, w.heap[a.block]? = some (.cells ca ta (0, 0))

theorem cell_lt {w : World} {p : Addr} {v : Value} (h : w.cell? p = some v) : p.block < w.heap.size := by
  rcases Nat.lt_or_ge p.block w.heap.size with q | q
  · exact q
  · simp [World.cell?, Array.getElem?_eq_none q] at h

theorem Glob.up {w w' : World} {a : Addr} (h : Glob w a) (hb : Below w.heap.size w w') : Glob w' a := by
  refine ⟨(hb.cell (p := ⟨0, 0, none⟩) (cell_lt h.e0)).trans h.e0, (hb.cell (p := ⟨1, 0, none⟩) (cell_lt h.e1)).trans h.e1, ?_⟩
  obtain ⟨ca, ta, hr⟩ := h.row
  refine ⟨ca, ta, (hb.block _ ?_).trans hr⟩
  rcases Nat.lt_or_ge a.block w.heap.size with q | q
  · exact q
  · rw [Array.getElem?_eq_none q] at hr; cases hr

/-! ### Closed facts: errors.Is -/
theorem isTypeOf (v : Value) (w : World) : (Extern.ReflectliteType.typeOf #[.iface 134 v]).run Tryd.prog w = .ok (.iface 119 (.agg #[.pointer (some ⟨2, 134, none⟩)])) w := by kernel_rfl
theorem isComparable (w : World) : ((Extern.ReflectliteType.method fun t => (fun a => Value.bool a.comparable) <$> typeInfo t) #[.agg #[.pointer (some ⟨2, 134, none⟩)]]).run Tryd.prog w = .ok (.bool true) w := by kernel_rfl
theorem isComp : (Tryd.prog.info? 134).map (·.comparable) = some true := by kernel_rfl
theorem isSize : (Tryd.prog.info? 155).map (·.size) = some 1 := by kernel_rfl

theorem noIsF (v : Value) (xT : TypeId) (w : World) : (Instr.typeAssert (.iface 83 v) xT 121 true).run Tryd.prog w = .ok (.tuple #[.nilIface, .bool false]) w := run_typeAssert_lacksB Tryd.underlying121 (by kernel_rfl) (by kernel_rfl) v xT w
theorem noIsN (v : Value) (xT : TypeId) (w : World) : (Instr.typeAssert (.iface 34 v) xT 121 true).run Tryd.prog w = .ok (.tuple #[.nilIface, .bool false]) w := run_typeAssert_lacksB Tryd.underlying121 (by kernel_rfl) (by kernel_rfl) v xT w
theorem hasUnwrapF (v : Value) (xT : TypeId) (w : World) : (Instr.typeAssert (.iface 83 v) xT 124 true).run Tryd.prog w = .ok (.tuple #[.iface 83 v, .bool true]) w := run_typeAssert_hasB Tryd.underlying124 (by kernel_rfl) v xT w
theorem noUnwrapN (v : Value) (xT : TypeId) (w : World) : (Instr.typeAssert (.iface 34 v) xT 124 true).run Tryd.prog w = .ok (.tuple #[.nilIface, .bool false]) w := run_typeAssert_lacksB Tryd.underlying124 (by kernel_rfl) (by kernel_rfl) v xT w
theorem noUnwrapsN (v : Value) (xT : TypeId) (w : World) : (Instr.typeAssert (.iface 34 v) xT 126 true).run Tryd.prog w = .ok (.tuple #[.nilIface, .bool false]) w := run_typeAssert_lacksB Tryd.underlying126 (by kernel_rfl) (by kernel_rfl) v xT w
theorem noAsF (v : Value) (xT : TypeId) (w : World) : (Instr.typeAssert (.iface 83 v) xT 131 true).run Tryd.prog w = .ok (.tuple #[.nilIface, .bool false]) w := run_typeAssert_lacksB Tryd.underlying131 (by kernel_rfl) (by kernel_rfl) v xT w

/-- What a fault wraps. -/
theorem unwrap_any (s : ByteArray) (x : Value) (w : World) : Calls Tryd.prog 99 #[.agg #[.string s, x]] w fun e w' => e = .returned x ∧ Below w.heap.size w w' := by
  go_enter Tryd.func99, Tryd.ntmps99
  go_wp2
  go_ret
  exact ⟨rfl, below1⟩

/-- errors.Is(nil, x). -/
theorem is_nil (b : Addr) (w : World) :
    Calls Tryd.prog 55 #[.nilIface, .iface 134 (.pointer (some b))] w fun e w' => e = .returned (.bool false) ∧ w' = w := by
  have hn := run_eql_iface_nil_left (P := Tryd.prog) w 134 (.pointer (some b)) Tryd.underlying61
  go_enter Tryd.func55, Tryd.ntmps55
  go_wp2
  go_ret
  exact ⟨rfl, rfl⟩

set_option maxHeartbeats 4000000 in
/-- errors.Is(fault that wraps x, x). -/
theorem is_shape (s : ByteArray) (b : Addr) (w : World) :
    Calls Tryd.prog 71 #[.iface 83 (.agg #[.string s, .iface 134 (.pointer (some b))]), .iface 134 (.pointer (some b)), .bool true] w fun e w' => e = .returned (.bool true) ∧ Below w.heap.size w w' := by
  obtain ⟨i, hi, hcmp⟩ := Option.map_eq_some_iff.1 isComp
  obtain ⟨j, hj, hjs⟩ := Option.map_eq_some_iff.1 isSize
  have nF := noIsF
  have uF := hasUnwrapF
  have heq := fun w => run_eql_iface_ptr_same (P := Tryd.prog) w b Tryd.underlying61 Tryd.underlying134 hi hcmp hj
  have hty := run_eql_iface_types (P := Tryd.prog) 83 134 (.agg #[.string s, .iface 134 (.pointer (some b))]) (.pointer (some b)) Tryd.underlying61 (by decide) w
  go_enter Tryd.func71, Tryd.ntmps71
  go_wp2_with fail
  refine wp_loop_rounds 2 ?_
  rw [rounds_succ]
  go_wp2_with fail
  refine (unwrap_any _ _ _).mono ?_
  rintro e w1 ⟨rfl, hb⟩
  go_wp2_with fail
  rw [rounds_succ]
  go_wp2_with fail
  go_ret
  exact ⟨rfl, hb⟩

set_option maxHeartbeats 4000000 in
/-- errors.Is(fault that wraps a number, x). -/
theorem is_number (s : ByteArray) (n : Int) (b : Addr) (w : World) :
    Calls Tryd.prog 71 #[.iface 83 (.agg #[.string s, .iface 34 (.int .i64 n)]), .iface 134 (.pointer (some b)), .bool true] w fun e w' => e = .returned (.bool false) ∧ Below w.heap.size w w' := by
  have nF := noIsF
  have uF := hasUnwrapF
  have nN := noIsN
  have uN := noUnwrapN
  have vN := noUnwrapsN
  have hty := fun w => run_eql_iface_types (P := Tryd.prog) 83 134 (.agg #[.string s, .iface 34 (.int .i64 n)]) (.pointer (some b)) Tryd.underlying61 (by decide) w
  have hty2 := fun w => run_eql_iface_types (P := Tryd.prog) 34 134 (.int .i64 n) (.pointer (some b)) Tryd.underlying61 (by decide) w
  go_enter Tryd.func71, Tryd.ntmps71
  go_wp2_with fail
  refine wp_loop_rounds 2 ?_
  rw [rounds_succ]
  go_wp2_with fail
  refine (unwrap_any _ _ _).mono ?_
  rintro e w1 ⟨rfl, hb⟩
  go_wp2_with fail
  rw [rounds_succ]
  go_wp2_with fail
  go_ret
  exact ⟨rfl, hb⟩

theorem cTypeOf (t : TypeId) (v : Value) (w : World) (h : (Extern.ReflectliteType.typeOf #[.iface t v]).run Tryd.prog w = .ok (.iface 119 (.agg #[.pointer (some ⟨2, t, none⟩)])) w) :
    (callFunc 70 #[.iface t v]).run Tryd.prog w = .ok (.value (.iface 119 (.agg #[.pointer (some ⟨2, t, none⟩)]))) w := by
  rw [@run_callFunc_extern Tryd.prog 70 _ Extern.ReflectliteType.typeOf Tryd.func70 (by kernel_rfl) (by kernel_rfl) (by kernel_rfl) (by kernel_rfl), h]
  rfl

theorem cComparable (w : World) : (callFunc 105 #[.agg #[.pointer (some ⟨2, 134, none⟩)]]).run Tryd.prog w = .ok (.value (.bool true)) w := by
  rw [@run_callFunc_extern Tryd.prog 105 _ (Extern.ReflectliteType.method fun t => do Rtype.noPackHeld "Comparable" t; pure (.bool (← typeInfo t).comparable)) Tryd.func105 (by kernel_rfl) (by kernel_rfl) (by kernel_rfl) (by kernel_rfl)]
  kernel_rfl

set_option maxHeartbeats 4000000 in
theorem Is_fault (v : Value) (r : Bool) (b : Addr) (w : World)
    (h : ∀ w, Calls Tryd.prog 71 #[.iface 83 v, .iface 134 (.pointer (some b)), .bool true] w fun e w' => e = .returned (.bool r) ∧ Below w.heap.size w w') :
    Calls Tryd.prog 55 #[.iface 83 v, .iface 134 (.pointer (some b))] w fun e w' => e = .returned (.bool r) ∧ Below w.heap.size w w' := by
  have h8 := fun v w => cTypeOf 134 v w (isTypeOf v w)
  have h32 := cComparable
  have H := Lib.hid h; clear h
  go_enter Tryd.func55, Tryd.ntmps55
  go_wp2_with fail
  refine (H.out _).mono ?_
  rintro e w1 ⟨rfl, hb⟩
  go_wp2_with fail
  go_ret
  exact ⟨rfl, hb⟩

/-! ### Closed facts: errors.As at a target of type *Errno -/
theorem cValueOfP (t : Addr) (w : World) : (callFunc 72 #[.iface 88 (.pointer (some t))]).run Tryd.prog w
    = .ok (.value (.agg #[.pointer (some ⟨2, 88, none⟩), .pointer (some ⟨w.heap.size, 0, none⟩), .int .u64 150])) (w.alloc (.cells #[.pointer (some t)] 88)) := by
  rw [@run_callFunc_extern Tryd.prog 72 _ (fun args => ReflectliteValue.unpack (args.getD 0 (.tuple #[]))) Tryd.func72 (by kernel_rfl) (by kernel_rfl) (by kernel_rfl) (by kernel_rfl)]
  kernel_rfl
theorem cValueOfN (n : Int) (w : World) : (callFunc 72 #[.iface 34 (.int .i64 n)]).run Tryd.prog w
    = .ok (.value (.agg #[.pointer (some ⟨2, 34, none⟩), .pointer (some ⟨w.heap.size, 0, none⟩), .int .u64 130])) (w.alloc (.cells #[.int .i64 n] 34)) := by
  rw [@run_callFunc_extern Tryd.prog 72 _ (fun args => ReflectliteValue.unpack (args.getD 0 (.tuple #[]))) Tryd.func72 (by kernel_rfl) (by kernel_rfl) (by kernel_rfl) (by kernel_rfl)]
  kernel_rfl
theorem cType (a : Addr) (w : World) : (callFunc 73 #[.agg #[.pointer (some ⟨2, 88, none⟩), .pointer (some a), .int .u64 150]]).run Tryd.prog w
    = .ok (.value (.iface 119 (.agg #[.pointer (some ⟨2, 88, none⟩)]))) w := by
  rw [@run_callFunc_extern Tryd.prog 73 _ (ReflectliteValue.methodAny (ReflectliteValue.valueError "reflectlite.Value.Type" 0) (fun t _ _ _ => ReflectliteType.toType t)) Tryd.func73 (by kernel_rfl) (by kernel_rfl) (by kernel_rfl) (by kernel_rfl)]
  kernel_rfl
theorem cKindP (w : World) : (callFunc 94 #[.pointer (some ⟨2, 88, none⟩)]).run Tryd.prog w = .ok (.value (.int .u8 22)) w := by
  rw [@run_callFunc_extern Tryd.prog 94 _ (ReflectliteType.abiMethod fun t => do pure (.int .u8 (← Rtype.kind t))) Tryd.func94 (by kernel_rfl) (by kernel_rfl) (by kernel_rfl) (by kernel_rfl)]
  kernel_rfl
theorem cKindN (w : World) : (callFunc 94 #[.pointer (some ⟨2, 34, none⟩)]).run Tryd.prog w = .ok (.value (.int .u8 2)) w := by
  rw [@run_callFunc_extern Tryd.prog 94 _ (ReflectliteType.abiMethod fun t => do pure (.int .u8 (← Rtype.kind t))) Tryd.func94 (by kernel_rfl) (by kernel_rfl) (by kernel_rfl) (by kernel_rfl)]
  kernel_rfl
theorem cElem (w : World) : (callFunc 106 #[.agg #[.pointer (some ⟨2, 88, none⟩)]]).run Tryd.prog w = .ok (.value (.iface 119 (.agg #[.pointer (some ⟨2, 34, none⟩)]))) w := by
  rw [@run_callFunc_extern Tryd.prog 106 _ (ReflectliteType.method ReflectliteType.elem) Tryd.func106 (by kernel_rfl) (by kernel_rfl) (by kernel_rfl) (by kernel_rfl)]
  kernel_rfl
theorem cImplements (w : World) : (callFunc 107 #[.agg #[.pointer (some ⟨2, 34, none⟩)], .iface 119 (.agg #[.pointer (some ⟨2, 61, none⟩)])]).run Tryd.prog w = .ok (.value (.bool true)) w := by
  rw [@run_callFunc_extern Tryd.prog 107 _ (ReflectliteType.relation "Implements" ReflectliteType.implements_) Tryd.func107 (by kernel_rfl) (by kernel_rfl) (by kernel_rfl) (by kernel_rfl)]
  kernel_rfl
theorem cAssignableF (w : World) : (callFunc 104 #[.agg #[.pointer (some ⟨2, 83, none⟩)], .iface 119 (.agg #[.pointer (some ⟨2, 34, none⟩)])]).run Tryd.prog w = .ok (.value (.bool false)) w := by
  rw [@run_callFunc_extern Tryd.prog 104 _ (ReflectliteType.relation "AssignableTo" ReflectliteType.assignableTo) Tryd.func104 (by kernel_rfl) (by kernel_rfl) (by kernel_rfl) (by kernel_rfl)]
  kernel_rfl
theorem cAssignableN (w : World) : (callFunc 104 #[.agg #[.pointer (some ⟨2, 34, none⟩)], .iface 119 (.agg #[.pointer (some ⟨2, 34, none⟩)])]).run Tryd.prog w = .ok (.value (.bool true)) w := by
  rw [@run_callFunc_extern Tryd.prog 104 _ (ReflectliteType.relation "AssignableTo" ReflectliteType.assignableTo) Tryd.func104 (by kernel_rfl) (by kernel_rfl) (by kernel_rfl) (by kernel_rfl)]
  kernel_rfl
theorem typeOfF (v : Value) (w : World) : (Extern.ReflectliteType.typeOf #[.iface 83 v]).run Tryd.prog w = .ok (.iface 119 (.agg #[.pointer (some ⟨2, 83, none⟩)])) w := by kernel_rfl
theorem typeOfN (v : Value) (w : World) : (Extern.ReflectliteType.typeOf #[.iface 34 v]).run Tryd.prog w = .ok (.iface 119 (.agg #[.pointer (some ⟨2, 34, none⟩)])) w := by kernel_rfl

end Go.Proofs.YtphlebbihfcaoaaDoor
