/- How a vector, an array of three generations and a list of generations that come in are opened: each reads as numbers. No condition. -/
import Derived.LaidEql
import Derived.Stop.Asserts
import Derived.RowKitTokens
import Derived.Test.YtbmpdmomagkkmaaGreatDoorKA
import Derived.OpenShut
import Derived.ProofKit
import Derived.SliceStrings
import Derived.ChangeSlices
import Derived.Lib.SmallJoins
import Derived.LaidLaws
import Derived.LaidHandle
import Derived.LaidSub
import Derived.MakeChecks
import Derived.Stop.LaidErr
import Derived.LaidMore
import Derived.Stop.Joined
import Derived.Deep.SlicePairs
import Derived.Deep.Grids
import Derived.Below
import Derived.Test.YtbmpdmomagkkmaaGreatDoorKS
import Derived.Test.YtbmpdmomagkkmaaGreatDoorKF
namespace Go.Proofs.YtbmpdmomagkkmaaGreatDoor
open Go.RowKit Go.Extern.Stop Go.Stop Go.Extern
structure Glob (w : World) (a : Addr) : Prop where
  e0 : w.cell? ⟨1, 0, none⟩ = some (.iface 298 (.pointer (some a)))
  e1 : w.cell? ⟨2, 0, none⟩ = some (.iface 278 (.agg #[.pointer (some ⟨3, 218, none⟩)]))
  row : ∃ ca ta, w.heap[a.block]? = some (.cells ca ta (0, 0))
theorem cell_lt {w : World} {p : Addr} {v : Value} (h : w.cell? p = some v) : p.block < w.heap.size := by
  rcases Nat.lt_or_ge p.block w.heap.size with q | q
  · exact q
  · simp [World.cell?, Array.getElem?_eq_none q] at h
theorem Glob.up {w w' : World} {a : Addr} (h : Glob w a) (hb : Below w.heap.size w w') : Glob w' a := by
  refine ⟨(hb.cell (p := ⟨1, 0, none⟩) (cell_lt h.e0)).trans h.e0, (hb.cell (p := ⟨2, 0, none⟩) (cell_lt h.e1)).trans h.e1, ?_⟩
  obtain ⟨ca, ta, hr⟩ := h.row
  refine ⟨ca, ta, (hb.block _ ?_).trans hr⟩
  rcases Nat.lt_or_ge a.block w.heap.size with q | q
  · exact q
  · rw [Array.getElem?_eq_none q] at hr; cases hr
theorem isTypeOf (v : Value) (w : World) : (Extern.ReflectliteType.typeOf #[.iface 298 v]).run Tryz.prog w = .ok (.iface 278 (.agg #[.pointer (some ⟨3, 298, none⟩)])) w := by kernel_rfl
theorem isComp : (Tryz.prog.info? 298).map (·.comparable) = some true := by kernel_rfl
theorem isSize : (Tryz.prog.info? 317).map (·.size) = some 1 := by kernel_rfl
theorem noIsF (v : Value) (xT : TypeId) (w : World) : (Instr.typeAssert (.iface 241 v) xT 280 true).run Tryz.prog w = .ok (.tuple #[.nilIface, .bool false]) w := run_typeAssert_lacksB Tryz.underlying280 (by kernel_rfl) (by kernel_rfl) v xT w
theorem noIsN (v : Value) (xT : TypeId) (w : World) : (Instr.typeAssert (.iface 58 v) xT 280 true).run Tryz.prog w = .ok (.tuple #[.nilIface, .bool false]) w := run_typeAssert_lacksB Tryz.underlying280 (by kernel_rfl) (by kernel_rfl) v xT w
theorem hasUnwrapF (v : Value) (xT : TypeId) (w : World) : (Instr.typeAssert (.iface 241 v) xT 283 true).run Tryz.prog w = .ok (.tuple #[.iface 241 v, .bool true]) w := run_typeAssert_hasB Tryz.underlying283 (by kernel_rfl) v xT w
theorem noUnwrapN (v : Value) (xT : TypeId) (w : World) : (Instr.typeAssert (.iface 58 v) xT 283 true).run Tryz.prog w = .ok (.tuple #[.nilIface, .bool false]) w := run_typeAssert_lacksB Tryz.underlying283 (by kernel_rfl) (by kernel_rfl) v xT w
theorem noUnwrapsN (v : Value) (xT : TypeId) (w : World) : (Instr.typeAssert (.iface 58 v) xT 285 true).run Tryz.prog w = .ok (.tuple #[.nilIface, .bool false]) w := run_typeAssert_lacksB Tryz.underlying285 (by kernel_rfl) (by kernel_rfl) v xT w
theorem noAsF (v : Value) (xT : TypeId) (w : World) : (Instr.typeAssert (.iface 241 v) xT 290 true).run Tryz.prog w = .ok (.tuple #[.nilIface, .bool false]) w := run_typeAssert_lacksB Tryz.underlying290 (by kernel_rfl) (by kernel_rfl) v xT w
theorem unwrap_any (s : ByteArray) (x : Value) (w : World) : Calls Tryz.prog 282 #[.agg #[.string s, x]] w fun e w' => e = .returned x ∧ Below w.heap.size w w' := by
  go_enter Tryz.func282, Tryz.ntmps282
  go_wp2
  go_ret
  exact ⟨rfl, below1⟩
theorem is_nil (b : Addr) (w : World) :
    Calls Tryz.prog 231 #[.nilIface, .iface 298 (.pointer (some b))] w fun e w' => e = .returned (.bool false) ∧ w' = w := by
  have hn := run_eql_iface_nil_left (P := Tryz.prog) w 298 (.pointer (some b)) Tryz.underlying218
  go_enter Tryz.func231, Tryz.ntmps231
  go_wp2
  go_ret
  exact ⟨rfl, rfl⟩
set_option maxHeartbeats 4000000 in
theorem is_shape (s : ByteArray) (b : Addr) (w : World) :
    Calls Tryz.prog 243 #[.iface 241 (.agg #[.string s, .iface 298 (.pointer (some b))]), .iface 298 (.pointer (some b)), .bool true] w fun e w' => e = .returned (.bool true) ∧ Below w.heap.size w w' := by
  obtain ⟨i, hi, hcmp⟩ := Option.map_eq_some_iff.1 isComp
  obtain ⟨j, hj, hjs⟩ := Option.map_eq_some_iff.1 isSize
  have nF := noIsF
  have uF := hasUnwrapF
  have heq := fun w => run_eql_iface_ptr_same (P := Tryz.prog) w b Tryz.underlying218 Tryz.underlying298 hi hcmp hj
  have hty := run_eql_iface_types (P := Tryz.prog) 241 298 (.agg #[.string s, .iface 298 (.pointer (some b))]) (.pointer (some b)) Tryz.underlying218 (by decide) w
  go_enter Tryz.func243, Tryz.ntmps243
  go_wp2_with fail
  refine wp_loop_rounds 2 ?_
  rw [rounds_succ]
  go_wp2_with fail
  refine (unwrap_any _ _ _).mono ?_
  rintro e w1 ⟨rfl, hb⟩
  go_wp2_with fail
  rw [rounds_succ]
  go_wp2_with fail
  go_ret
  exact ⟨rfl, hb⟩
set_option maxHeartbeats 4000000 in
theorem is_number (s : ByteArray) (n : Int) (b : Addr) (w : World) :
    Calls Tryz.prog 243 #[.iface 241 (.agg #[.string s, .iface 58 (.int .i64 n)]), .iface 298 (.pointer (some b)), .bool true] w fun e w' => e = .returned (.bool false) ∧ Below w.heap.size w w' := by
  have nF := noIsF
  have uF := hasUnwrapF
  have nN := noIsN
  have uN := noUnwrapN
  have vN := noUnwrapsN
  have hty := fun w => run_eql_iface_types (P := Tryz.prog) 241 298 (.agg #[.string s, .iface 58 (.int .i64 n)]) (.pointer (some b)) Tryz.underlying218 (by decide) w
  have hty2 := fun w => run_eql_iface_types (P := Tryz.prog) 58 298 (.int .i64 n) (.pointer (some b)) Tryz.underlying218 (by decide) w
  go_enter Tryz.func243, Tryz.ntmps243
  go_wp2_with fail
  refine wp_loop_rounds 2 ?_
  rw [rounds_succ]
  go_wp2_with fail
  refine (unwrap_any _ _ _).mono ?_
  rintro e w1 ⟨rfl, hb⟩
  go_wp2_with fail
  rw [rounds_succ]
  go_wp2_with fail
  go_ret
  exact ⟨rfl, hb⟩
theorem cTypeOf (t : TypeId) (v : Value) (w : World) (h : (Extern.ReflectliteType.typeOf #[.iface t v]).run Tryz.prog w = .ok (.iface 278 (.agg #[.pointer (some ⟨3, t, none⟩)])) w) :
    (callFunc 242 #[.iface t v]).run Tryz.prog w = .ok (.value (.iface 278 (.agg #[.pointer (some ⟨3, t, none⟩)]))) w := by
  rw [@run_callFunc_extern Tryz.prog 242 _ Extern.ReflectliteType.typeOf Tryz.func242 (by kernel_rfl) (by kernel_rfl) (by kernel_rfl) (by kernel_rfl), h]
  rfl
theorem cComparable (w : World) : (callFunc 288 #[.agg #[.pointer (some ⟨3, 298, none⟩)]]).run Tryz.prog w = .ok (.value (.bool true)) w := by
  rw [@run_callFunc_extern Tryz.prog 288 _ (Extern.ReflectliteType.method fun t => do Rtype.noPackHeld "Comparable" t; pure (.bool (← typeInfo t).comparable)) Tryz.func288 (by kernel_rfl) (by kernel_rfl) (by kernel_rfl) (by kernel_rfl)]
  kernel_rfl
set_option maxHeartbeats 4000000 in
theorem Is_fault (v : Value) (r : Bool) (b : Addr) (w : World)
    (h : ∀ w, Calls Tryz.prog 243 #[.iface 241 v, .iface 298 (.pointer (some b)), .bool true] w fun e w' => e = .returned (.bool r) ∧ Below w.heap.size w w') :
    Calls Tryz.prog 231 #[.iface 241 v, .iface 298 (.pointer (some b))] w fun e w' => e = .returned (.bool r) ∧ Below w.heap.size w w' := by
  have h8 := fun v w => cTypeOf 298 v w (isTypeOf v w)
  have h32 := cComparable
  have H := Lib.hid h; clear h
  go_enter Tryz.func231, Tryz.ntmps231
  go_wp2_with fail
  refine (H.out _).mono ?_
  rintro e w1 ⟨rfl, hb⟩
  go_wp2_with fail
  go_ret
  exact ⟨rfl, hb⟩
theorem cValueOfP (t : Addr) (w : World) : (callFunc 244 #[.iface 246 (.pointer (some t))]).run Tryz.prog w
    = .ok (.value (.agg #[.pointer (some ⟨3, 246, none⟩), .pointer (some ⟨w.heap.size, 0, none⟩), .int .u64 150])) (w.alloc (.cells #[.pointer (some t)] 246)) := by
  rw [@run_callFunc_extern Tryz.prog 244 _ (fun args => ReflectliteValue.unpack (args.getD 0 (.tuple #[]))) Tryz.func244 (by kernel_rfl) (by kernel_rfl) (by kernel_rfl) (by kernel_rfl)]
  kernel_rfl
theorem cValueOfN (n : Int) (w : World) : (callFunc 244 #[.iface 58 (.int .i64 n)]).run Tryz.prog w
    = .ok (.value (.agg #[.pointer (some ⟨3, 58, none⟩), .pointer (some ⟨w.heap.size, 0, none⟩), .int .u64 130])) (w.alloc (.cells #[.int .i64 n] 58)) := by
  rw [@run_callFunc_extern Tryz.prog 244 _ (fun args => ReflectliteValue.unpack (args.getD 0 (.tuple #[]))) Tryz.func244 (by kernel_rfl) (by kernel_rfl) (by kernel_rfl) (by kernel_rfl)]
  kernel_rfl
theorem cType (a : Addr) (w : World) : (callFunc 245 #[.agg #[.pointer (some ⟨3, 246, none⟩), .pointer (some a), .int .u64 150]]).run Tryz.prog w
    = .ok (.value (.iface 278 (.agg #[.pointer (some ⟨3, 246, none⟩)]))) w := by
  rw [@run_callFunc_extern Tryz.prog 245 _ (ReflectliteValue.methodAny (ReflectliteValue.valueError "reflectlite.Value.Type" 0) (fun t _ _ _ => ReflectliteType.toType t)) Tryz.func245 (by kernel_rfl) (by kernel_rfl) (by kernel_rfl) (by kernel_rfl)]
  kernel_rfl
theorem cKindP (w : World) : (callFunc 276 #[.pointer (some ⟨3, 246, none⟩)]).run Tryz.prog w = .ok (.value (.int .u8 22)) w := by
  rw [@run_callFunc_extern Tryz.prog 276 _ (ReflectliteType.abiMethod fun t => do pure (.int .u8 (← Rtype.kind t))) Tryz.func276 (by kernel_rfl) (by kernel_rfl) (by kernel_rfl) (by kernel_rfl)]
  kernel_rfl
theorem cKindN (w : World) : (callFunc 276 #[.pointer (some ⟨3, 58, none⟩)]).run Tryz.prog w = .ok (.value (.int .u8 2)) w := by
  rw [@run_callFunc_extern Tryz.prog 276 _ (ReflectliteType.abiMethod fun t => do pure (.int .u8 (← Rtype.kind t))) Tryz.func276 (by kernel_rfl) (by kernel_rfl) (by kernel_rfl) (by kernel_rfl)]
  kernel_rfl
theorem cElem (w : World) : (callFunc 289 #[.agg #[.pointer (some ⟨3, 246, none⟩)]]).run Tryz.prog w = .ok (.value (.iface 278 (.agg #[.pointer (some ⟨3, 58, none⟩)]))) w := by
  rw [@run_callFunc_extern Tryz.prog 289 _ (ReflectliteType.method ReflectliteType.elem) Tryz.func289 (by kernel_rfl) (by kernel_rfl) (by kernel_rfl) (by kernel_rfl)]
  kernel_rfl
theorem cImplements (w : World) : (callFunc 290 #[.agg #[.pointer (some ⟨3, 58, none⟩)], .iface 278 (.agg #[.pointer (some ⟨3, 218, none⟩)])]).run Tryz.prog w = .ok (.value (.bool true)) w := by
  rw [@run_callFunc_extern Tryz.prog 290 _ (ReflectliteType.relation "Implements" ReflectliteType.implements_) Tryz.func290 (by kernel_rfl) (by kernel_rfl) (by kernel_rfl) (by kernel_rfl)]
  kernel_rfl
theorem cAssignableF (w : World) : (callFunc 287 #[.agg #[.pointer (some ⟨3, 241, none⟩)], .iface 278 (.agg #[.pointer (some ⟨3, 58, none⟩)])]).run Tryz.prog w = .ok (.value (.bool false)) w := by
  rw [@run_callFunc_extern Tryz.prog 287 _ (ReflectliteType.relation "AssignableTo" ReflectliteType.assignableTo) Tryz.func287 (by kernel_rfl) (by kernel_rfl) (by kernel_rfl) (by kernel_rfl)]
  kernel_rfl
theorem cAssignableN (w : World) : (callFunc 287 #[.agg #[.pointer (some ⟨3, 58, none⟩)], .iface 278 (.agg #[.pointer (some ⟨3, 58, none⟩)])]).run Tryz.prog w = .ok (.value (.bool true)) w := by
  rw [@run_callFunc_extern Tryz.prog 287 _ (ReflectliteType.relation "AssignableTo" ReflectliteType.assignableTo) Tryz.func287 (by kernel_rfl) (by kernel_rfl) (by kernel_rfl) (by kernel_rfl)]
  kernel_rfl
theorem typeOfF (v : Value) (w : World) : (Extern.ReflectliteType.typeOf #[.iface 241 v]).run Tryz.prog w = .ok (.iface 278 (.agg #[.pointer (some ⟨3, 241, none⟩)])) w := by kernel_rfl
theorem typeOfN (v : Value) (w : World) : (Extern.ReflectliteType.typeOf #[.iface 58 v]).run Tryz.prog w = .ok (.iface 278 (.agg #[.pointer (some ⟨3, 58, none⟩)])) w := by kernel_rfl
end Go.Proofs.YtbmpdmomagkkmaaGreatDoor
namespace Go.Proofs.YtbmpdmomagkkmaaGreatDoor
open Go.RowKit Go.Extern.Stop Go.Stop Go.Extern
theorem partsP (a : Addr) (w : World) : (ReflectliteValue.parts (.agg #[.pointer (some ⟨3, 246, none⟩), .pointer (some a), .int .u64 150])).run Tryz.prog w = .ok (some (246, a, 150)) w := by kernel_rfl
theorem partsN (a : Addr) (w : World) : (ReflectliteValue.parts (.agg #[.pointer (some ⟨3, 58, none⟩), .pointer (some a), .int .u64 130])).run Tryz.prog w = .ok (some (58, a, 130)) w := by kernel_rfl
theorem partsA (a : Addr) (w : World) : (ReflectliteValue.parts (.agg #[.pointer (some ⟨3, 58, none⟩), .pointer (some a), .int .u64 386])).run Tryz.prog w = .ok (some (58, a, 386)) w := by kernel_rfl
theorem elemOfP (w : World) : (Rtype.elem? 246).run Tryz.prog w = .ok (some 58) w := by kernel_rfl
theorem mkN (p : Addr) (w : World) : (ReflectliteValue.mk 58 p ReflectliteValue.flagAddr).run Tryz.prog w = .ok (.agg #[.pointer (some ⟨3, 58, none⟩), .pointer (some p), .int .u64 386]) w := by kernel_rfl
theorem directN (w : World) : (Rtype.directlyAssignable 58 58).run Tryz.prog w = .ok true w := by kernel_rfl
theorem method_parts {z : Sem Value} {f : TypeId → Addr → Nat → Nat → Sem Value} {v : Value} {g : Option (TypeId × Addr × Nat) → Sem Value} (h : ReflectliteValue.method z f #[v] = (ReflectliteValue.parts v >>= fun p => g p)) {w w' : World} {P : Program} {y : Value}
    (h2 : (ReflectliteValue.parts v >>= fun p => g p).run P w = .ok y w') : (ReflectliteValue.method z f #[v]).run P w = .ok y w' := by rw [h]; exact h2
theorem cIsNil (a p : Addr) (W : World) (ha : W.cell? a = some (.pointer (some p))) :
    (callFunc 246 #[.agg #[.pointer (some ⟨3, 246, none⟩), .pointer (some a), .int .u64 150]]).run Tryz.prog W = .ok (.value (.bool false)) W := by
  rw [@run_callFunc_extern Tryz.prog 246 _ (ReflectliteValue.method (ReflectliteValue.valueError "reflectlite.Value.IsNil" 0) ReflectliteValue.isNil) Tryz.func246 (by kernel_rfl) (by kernel_rfl) (by kernel_rfl) (by kernel_rfl)]
  refine congrArg (fun r : Result Value => r.andThen fun v w' => Result.ok (Next.value v) w') (method_parts rfl ?_)
  simp only [Sem.run_bind, partsP, Result.andThen]
  simp [ReflectliteValue.isNil, loadVar, isAgg, underlying, Tryz.underlying246, ha, Result.andThen]
theorem cElemV (a p : Addr) (W : World) (ha : W.cell? a = some (.pointer (some p))) :
    (callFunc 254 #[.agg #[.pointer (some ⟨3, 246, none⟩), .pointer (some a), .int .u64 150]]).run Tryz.prog W
      = .ok (.value (.agg #[.pointer (some ⟨3, 58, none⟩), .pointer (some p), .int .u64 386])) W := by
  rw [@run_callFunc_extern Tryz.prog 254 _ (ReflectliteValue.method (ReflectliteValue.valueError "reflectlite.Value.Elem" 0) ReflectliteValue.elem) Tryz.func254 (by kernel_rfl) (by kernel_rfl) (by kernel_rfl) (by kernel_rfl)]
  refine congrArg (fun r : Result Value => r.andThen fun v w' => Result.ok (Next.value v) w') (method_parts rfl ?_)
  simp only [Sem.run_bind, partsP, Result.andThen]
  simp [ReflectliteValue.elem, loadVar, isAgg, underlying, Tryz.underlying246, ha, Result.andThen, elemOfP, mkN]
theorem set_parts {v x : Value} {f : Option (TypeId × Addr × Nat) → Option (TypeId × Addr × Nat) → Sem Value} (h : ReflectliteValue.set #[v, x] = (ReflectliteValue.parts v >>= fun p => ReflectliteValue.parts x >>= fun q => f p q)) {w w' : World} {P : Program} {y : Value}
    (h2 : (ReflectliteValue.parts v >>= fun p => ReflectliteValue.parts x >>= fun q => f p q).run P w = .ok y w') : (ReflectliteValue.set #[v, x]).run P w = .ok y w' := by rw [h]; exact h2
theorem cSet (ta b : Addr) (n : Int) (old : Value) (W : World) (hb : W.cell? b = some (.int .i64 n)) (ht : W.cell? ta = some old) (hf : W.frozen? ta = false) :
    (callFunc 255 #[.agg #[.pointer (some ⟨3, 58, none⟩), .pointer (some ta), .int .u64 386], .agg #[.pointer (some ⟨3, 58, none⟩), .pointer (some b), .int .u64 130]]).run Tryz.prog W
      = .ok (.value (.tuple #[])) (W.setCell ta (.int .i64 n)) := by
  rw [@run_callFunc_extern Tryz.prog 255 _ ReflectliteValue.set Tryz.func255 (by kernel_rfl) (by kernel_rfl) (by kernel_rfl) (by kernel_rfl)]
  refine congrArg (fun r : Result Value => r.andThen fun v w' => Result.ok (Next.value v) w') (set_parts rfl ?_)
  simp only [Sem.run_bind, partsA, partsN, Result.andThen]
  simp [ReflectliteValue.flagAddr, loadVar, isAgg, underlying, Tryz.underlying58, hb, Result.andThen, directN, storeVar, Value.cells, storeCells, Addr.add]
  rw [run_store Tryz.prog W ta _ _ (by rfl)]
  simp [ht, hf]
theorem as_nil (t : Value) (w : World) :
    Calls Tryz.prog 232 #[.nilIface, t] w fun e w' => e = .returned (.bool false) ∧ w' = w := by
  go_enter Tryz.func232, Tryz.ntmps232
  go_wp2
  go_ret
  exact ⟨rfl, rfl⟩
set_option maxHeartbeats 4000000 in
theorem as_number (s : ByteArray) (n : Int) (tb a : Nat) (w : World) (hv : w.cell? ⟨a, 0, none⟩ = some (.pointer (some ⟨tb, 0, none⟩))) (ho : Own w tb 1) :
    Calls Tryz.prog 247 #[.iface 241 (.agg #[.string s, .iface 58 (.int .i64 n)]), .iface 246 (.pointer (some ⟨tb, 0, none⟩)), .agg #[.pointer (some ⟨3, 246, none⟩), .pointer (some ⟨a, 0, none⟩), .int .u64 150], .iface 278 (.agg #[.pointer (some ⟨3, 58, none⟩)])] w
      fun e w' => e = .returned (.bool true) ∧ ∃ v, Below w.heap.size w v ∧ w' = v.setCell ⟨tb, 0, none⟩ (.int .i64 n) := by
  have tF := fun v w => cTypeOf 241 v w (typeOfF v w)
  have tN := fun v w => cTypeOf 58 v w (typeOfN v w)
  have aF := cAssignableF
  have aN := cAssignableN
  have nF := noAsF
  have uF := hasUnwrapF
  have hl := cell_lt hv
  have HH := Lib.hid ((Held.refl w).lay [.pointer (some ⟨3, 246, none⟩), .pointer (some ⟨a, 0, none⟩), .int .u64 150] 265)
  have HV := Lib.hid hv; clear hv
  have HO := Lib.hid ho; clear ho
  go_enter Tryz.func247, Tryz.ntmps247
  go_wp2_with fail
  refine wp_loop_rounds 2 ?_
  rw [rounds_succ]
  go_wp2_with fail
  refine (unwrap_any _ _ _).mono ?_
  rintro e w1 ⟨rfl, hb⟩
  have H1 := Lib.hid (HH.out.up hb)
  clear hb HH
  have kb := H1.out.b0.cell
  have ka := ((H1.out.below.cell (p := ⟨a, 0, none⟩) hl).trans HV.out)
  have eV := cElemV ⟨a, 0, none⟩ ⟨tb, 0, none⟩ w1 ka
  have vN := cValueOfN n w1
  obtain ⟨vs, hlen, hx⟩ := (HO.out.below H1.out.below)
  match vs, hlen with
  | [u], _ =>
    have sN := cSet ⟨tb, 0, none⟩ ⟨w1.heap.size, 0, none⟩ n u (w1.alloc (.cells #[.int .i64 n] 58)) ((Box.new w1 [.int .i64 n] 58).cell 0) ((hx.alloc _).cell 0) ((hx.alloc _).frozen 0)
    go_wp2_with fail
    rw [rounds_succ]
    go_wp2_with fail
    go_ret
    exact ⟨rfl, _, (H1.out.alloc _).below, rfl⟩
set_option maxHeartbeats 4000000 in
theorem As_number (s : ByteArray) (n : Int) (tb : Nat) (a : Addr) (w : World) (hg : Glob w a) (ho : Own w tb 1) :
    Calls Tryz.prog 232 #[.iface 241 (.agg #[.string s, .iface 58 (.int .i64 n)]), .iface 246 (.pointer (some ⟨tb, 0, none⟩))] w
      fun e w' => e = .returned (.bool true) ∧ ∃ v, Below w.heap.size w v ∧ w' = v.setCell ⟨tb, 0, none⟩ (.int .i64 n) := by
  have H0 := Lib.hid ((Held.refl w).lay [.pointer (some ⟨tb, 0, none⟩)] 246)
  have H1 := Lib.hid (H0.out.lay [.pointer (some ⟨3, 246, none⟩), .pointer (some ⟨w.heap.size, 0, none⟩), .int .u64 150] 265)
  rw [World.size_alloc] at H1
  have vP := cValueOfP ⟨tb, 0, none⟩ w
  have cT := cType
  have kP := cKindP
  have kN := cKindN
  have eE := cElem
  have iI := cImplements
  have k1 := H1.out.b1.cell 0
  have n8 := cIsNil ⟨w.heap.size, 0, none⟩ ⟨tb, 0, none⟩ _ k1
  have hg1 := (hg.up (below2 (o := .cells #[.pointer (some ⟨tb, 0, none⟩)] 246) (p := .cells #[.pointer (some ⟨3, 246, none⟩), .pointer (some ⟨w.heap.size, 0, none⟩), .int .u64 150] 265))).e1
  have HO := Lib.hid ho; clear ho
  have HG := Lib.hid hg; clear hg
  go_enter Tryz.func232, Tryz.ntmps232
  go_wp2_with fail
  refine (as_number s n tb w.heap.size _ k1 ((HO.out.below below1).below below1)).mono ?_
  rintro e w1 ⟨rfl, v, hb, rfl⟩
  go_wp2_with fail
  go_ret
  exact ⟨rfl, v, ext H1.out.below hb, rfl⟩
def ErrOf (a : Addr) (v : Value) (e : Int) : Prop :=
  (e = 0 ∧ v = .nilIface) ∨ (∃ s, e = 2 ∧ v = .iface 241 (.agg #[.string s, .iface 298 (.pointer (some a))])) ∨ ∃ s, v = .iface 241 (.agg #[.string s, .iface 58 (.int .i64 e)])
set_option maxHeartbeats 1000000 in
theorem number_any (v : Value) (n : Int) (a : Addr) (w : World) (hg : Glob w a) (hv : ErrOf a v n) :
    Calls Tryz.prog 200 #[v] w fun e w' => e = .returned (.int .i64 n) ∧ Below w.heap.size w w' := by
  have h0 := (hg.up (below1 (o := .cells #[.int .i64 0] 58))).e0
  have G1 := Lib.hid (hg.up (below1 (o := .cells #[.int .i64 0] 58)))
  have H1 := Lib.hid ((Held.refl w).own [.int .i64 0] 58 (n := 1) rfl)
  clear hg
  rcases hv with ⟨rfl, rfl⟩ | ⟨s, rfl, rfl⟩ | ⟨s, rfl⟩
  · go_enter Tryz.func200, Tryz.ntmps200
    go_wp2_with fail
    refine (is_nil _ _).mono ?_
    rintro e w1 ⟨rfl, rfl⟩
    go_wp2_with fail
    refine (as_nil _ _).mono ?_
    rintro e w1 ⟨rfl, rfl⟩
    go_wp2_with fail
    go_ret
    exact ⟨rfl, H1.out.below⟩
  · go_enter Tryz.func200, Tryz.ntmps200
    go_wp2_with fail
    refine (Is_fault _ true _ _ (fun w => is_shape s a w)).mono ?_
    rintro e w1 ⟨rfl, hb⟩
    go_wp2_with fail
    go_ret
    exact ⟨rfl, ext H1.out.below hb⟩
  · go_enter Tryz.func200, Tryz.ntmps200
    go_wp2_with fail
    refine (Is_fault _ false _ _ (fun w => is_number s n a w)).mono ?_
    rintro e w1 ⟨rfl, hb⟩
    have H2 := Lib.hid (H1.out.up hb)
    have G2 := Lib.hid (G1.out.up hb)
    clear hb H1 G1 h0
    go_wp2_with fail
    refine (As_number s n w.heap.size a _ G2.out H2.out.o0).mono ?_
    rintro e w2 ⟨rfl, v, hb, rfl⟩
    have H3 := Lib.hid ((H2.out.up hb).set (b := w.heap.size) ⟨1, by simp⟩ 0 (.int .i64 n))
    obtain ⟨vs, hlen, hx⟩ := (H2.out.up hb).o0
    match vs, hlen with
    | [u], _ =>
      have k := (hx.set 0 (.int .i64 n)).cell
      clear hb H2 G2
      generalize v.setCell ⟨w.heap.size, 0, none⟩ (.int .i64 n) = v2 at *
      go_wp2_with fail
      go_ret
      exact ⟨rfl, H3.out.below⟩
end Go.Proofs.YtbmpdmomagkkmaaGreatDoor
namespace Go.Proofs.YtbmpdmomagkkmaaGreatDoor
open Go.ChangeShapes Go.WideShapes Go.ChangeAt Go.RowKit
set_option maxRecDepth 100000
end Go.Proofs.YtbmpdmomagkkmaaGreatDoor
namespace Go.Proofs.YtbmpdmomagkkmaaGreatDoor
open Go.ChangeShapes Go.WideShapes Go.ChangeAt Go.RowKit
set_option maxRecDepth 100000
section
variable {H : Type} {enc : TypeId × Value → H} {W : World} {r : Reach} {base : Nat}
theorem open_i64 {fuel : Nat} {cs : List Value} {x : DataW H × List MemPlace} (h : DataW.trod enc Tryz.prog W 0 (fun _ => true) true fuel 3 cs = some x) : ∃ c : Int, cs = [.int .i64 c] := by
  obtain ⟨c, rfl, _, wc⟩ := DataW.trod_int (k := .i64) Tryz.underlying3 h
  exact ⟨c, rfl⟩
theorem open_b {fuel : Nat} {cs : List Value} {x : DataW H × List MemPlace} (h : DataW.trod enc Tryz.prog W 0 (fun _ => true) true fuel 4 cs = some x) : ∃ c : Bool, cs = [.bool c] := by
  obtain ⟨c, rfl, _⟩ := DataW.trod_bool Tryz.underlying4 h
  exact ⟨c, rfl⟩
end
end Go.Proofs.YtbmpdmomagkkmaaGreatDoor
namespace Go.Proofs.YtbmpdmomagkkmaaGreatDoor
open Go.ChangeShapes Go.WideShapes Go.ChangeAt Go.RowKit
set_option maxRecDepth 100000
theorem gShape : Tryz.prog.globalNamed "gemination/super.errShape" = some 1 := by kernel_rfl
theorem tShape : (Tryz.prog.globals[1]?).map (·.type) = some 218 := by kernel_rfl
theorem gType : Tryz.prog.globalNamed "errors.errorType" = some 2 := by kernel_rfl
theorem rType : (Tryz.prog.cutTypes.find? (·.1 == "internal/reflectlite.rtype")).map (·.2) = some 278 := by kernel_rfl
theorem typesSize : Tryz.prog.types.size = 329 := by kernel_rfl
theorem oneRow : ((List.range 329).filter fun t => Tryz.prog.rowNamed t [101, 114, 114, 111, 114]) = [218] := by kernel_rfl
theorem star : "*" ++ "errors.errorString" = "*errors.errorString" := by decide
theorem rowPtr (u : TypeId) (h : Tryz.prog.typeName? 3 u = some "*errors.errorString") : u = 298 :=
  typeName_ptr_named (nm := "errors.errorString") (by rw [star]; kernel_rfl) (by kernel_rfl) (by decide) u (by rw [star]; exact h)
theorem cellsES : Tryz.prog.cellsOf 317 = 1 := by kernel_rfl
theorem cellsS : Tryz.prog.cellsOf 9 = 1 := by kernel_rfl
def laid1 : List (String × DataW Unit) := [("errors.errorType", Rows.laid_errors_errorType), ("gemination/super.errShape", Rows.laid_gemination_super_errShape)]
theorem sentinel_row {P : Program} {n nm : String} {text : List UInt8} {q : List (String × DataW Unit)} {W : World} {g : Nat} {ti tp te ts : TypeId} {ms : Array (String × TypeId)} {f : Field}
    (h : laidMet P ((n, .iface nm (.ptr (.agg [.lit (.string text)]))) :: q) W)
    (hg : P.globalNamed n = some g) (ht : (P.globals[g]?).map (·.type) = some ti) (hi : P.underlying ti = some (.interface ms)) (hrow : ∀ u, P.typeName? 3 u = some nm → u = tp)
    (hp : P.underlying tp = some (.pointer te)) (he : P.underlying te = some (.struct #[f])) (hft : f.type = ts) (hfo : f.offset = 0) (hs : P.underlying ts = some .string) (hc : P.cellsOf te = 1) (hcs : P.cellsOf ts = 1) :
    ∃ a c t, W.cell? ⟨g, 0, none⟩ = some (.iface tp (.pointer (some a))) ∧ W.heap[a.block]? = some (.cells c t (0, 0)) := by
  obtain ⟨ps, ⟨g0, t0, cs0, f0, p0, q0, hg0, ht0, hv0, hd0, _, e0⟩, _, hrows⟩ := h
  obtain rfl := Option.some.inj (hg.symm.trans hg0)
  obtain rfl := Option.some.inj (ht.symm.trans ht0)
  subst e0
  obtain ⟨l0⟩ := cs0
  have ok0 : ∀ u v, l0 = [.iface u v] → Value.okWide P W .any 0 u v := fun u v e => by
    subst e
    exact (hrows g 0 (by simp [MemPlace.row])).2 u v (by simpa using World.var?_cell hg0 hv0 0)
  obtain ⟨a, s, rfl, _, _, _, rfl⟩ := errorString_of_trod hi hrow hp he hft hfo hs hc hcs hd0 ok0
  obtain ⟨c, t, hb⟩ := (hrows a.block a.off (by simp [MemPlace.row])).1
  exact ⟨a, c, t, by simpa using World.var?_cell hg0 hv0 0, hb⟩
theorem glob_of {W : World} (h : laidMetH Tryz.prog laid1 W) : ∃ a, Glob W a := by
  obtain ⟨hp, hh⟩ := laidMetH_iff.1 h
  have hp' : laidMet Tryz.prog [("gemination/super.errShape", Rows.laid_gemination_super_errShape)] W := hp
  obtain ⟨a, c, t, hc, hb⟩ := sentinel_row hp' gShape tShape Tryz.underlying218 rowPtr Tryz.underlying298 Tryz.underlying317 rfl rfl Tryz.underlying9 cellsES cellsS
  have hh' : handlesMet Tryz.prog [("errors.errorType", Rows.laid_errors_errorType)] W := hh
  obtain ⟨name, u, ty, e1, e2, e3, e4, e5⟩ := hh' _ (List.mem_singleton.2 rfl)
  have en : name = [101, 114, 114, 111, 114] := (Option.some.inj e1).symm
  subst en
  obtain rfl := Option.some.inj (rType.symm.trans e2)
  have hm : ty ∈ (List.range 329).filter fun t => Tryz.prog.rowNamed t [101, 114, 114, 111, 114] := List.mem_filter.2 ⟨List.mem_range.2 (by rw [← typesSize]; exact e3), e4⟩
  rw [oneRow] at hm
  obtain rfl := List.mem_singleton.1 hm
  have ht : typeHandle Tryz.prog 218 = .pointer (some ⟨3, 218, none⟩) := by kernel_rfl
  rw [ht] at e5
  exact ⟨a, hc, by simpa using World.var?_cell gType e5 0, c, t, hb⟩
theorem door_met (os : Os) (args : Array Value) : laidMetH Tryz.prog laid1 ((World.doorLaid Tryz.prog 40 os).forCall (fun _ _ => 0) ⟨#[], args, []⟩).memory :=
  laidMetH_of_parts3 (fuel := 8) (laidMet_of_run' 8 (by kernel_rfl) (by kernel_rfl)) (by kernel_rfl) (by kernel_rfl)
end Go.Proofs.YtbmpdmomagkkmaaGreatDoor
namespace Go.Proofs.YtbmpdmomagkkmaaGreatDoor
open Go.ChangeShapes Go.WideShapes Go.ChangeAt Go.RowKit
section
variable {H : Type} {enc : TypeId × Value → H} {W : World} {r : Reach} {base : Nat}
theorem block_add (a : Addr) (j : Nat) : (a.add j).block = a.block := by unfold Addr.add; split <;> rfl
set_option maxRecDepth 100000 in
theorem open_bs {fuel : Nat} {cs : List Value} {x : DataW H × List MemPlace} (h : DataW.trod enc Tryz.prog W 0 (fun _ => true) true fuel 57 cs = some x) :
    ∃ A c s, cs = [.slice A (s : List Bool).length c] ∧ (A = none → c = 0) ∧ Es Value.bool W W.heap.size A s := by
  rcases Go.Deep.open_bools Tryz.underlying57 Tryz.underlying4 (by kernel_rfl) h with ⟨rfl, _⟩ | ⟨a, len, cap, B, rfl, _, hl, _, _, hc⟩
  · exact ⟨none, 0, [], rfl, fun _ => rfl, es_nil _ _ _ _⟩
  · refine ⟨some a, cap, (List.range len).map B, by simp, (fun q => by cases q), ?_⟩
    intro j t hj
    simp only [List.getElem?_map, Option.map_eq_some_iff] at hj
    obtain ⟨i, hi, rfl⟩ := hj
    obtain ⟨hil, rfl⟩ := List.getElem?_eq_some_iff.1 hi
    simp only [List.length_range] at hil
    simp only [List.getElem_range]
    have hq := hc j (by omega)
    have hb := World.block_lt_of_cell? W (a.add j) hq
    rw [block_add] at hb
    exact ⟨a, rfl, hb, hq⟩
set_option maxRecDepth 100000 in
theorem open_bools38 {v : Value} {d : DataW H} {ps : List MemPlace} (hval : Value.okWide Tryz.prog W r base 57 v) (h : DataW.Trod enc Tryz.prog W 0 (fun _ => true) true 57 v d ps) :
    ∃ A c s, v = .slice A (s : List Bool).length c ∧ Es Value.bool W W.heap.size A s := by
  obtain ⟨a0, len, cap, rfl⟩ := okWide_slice Tryz.underlying57 hval
  obtain ⟨fuel, hf⟩ := h
  obtain ⟨A, c, s, e, _, hs⟩ := open_bs hf
  have e : (.slice a0 len cap : Value) = .slice A s.length c := by simpa [Value.cells] using e
  exact ⟨A, c, s, e, hs⟩
end
end Go.Proofs.YtbmpdmomagkkmaaGreatDoor
namespace Go.Proofs.YtbmpdmomagkkmaaGreatDoor
open Go.ChangeShapes Go.WideShapes Go.ChangeAt Go.RowKit Go.WideElems
section
variable {H : Type} {enc : TypeId × Value → H} {P : Program}
theorem all_stay (hl : laidOutB P = true) {W W' : World} {sp : Nat → Bool} : ∀ {ts : List TypeId} {vs : List Value} {ds : List (DataW H)} {ps : List MemPlace},
    (∀ t ∈ ts, P.readableRec t = true ∧ t < P.types.size) → DataW.TrodAll enc P W 0 (fun _ => true) true ts vs ds ps →
    (∀ p ∈ ps, W.sameAt W' p) → (∀ p ∈ ps, sp p.block = true) → DataW.TrodAll enc P W' 0 sp true ts vs ds ps
  | [], _, _, _, _, h, _, _ => by
    obtain ⟨rfl, rfl, rfl⟩ := trodAll_nil h
    exact h
  | t :: ts, _, _, _, ht, h, hs, hp => by
    obtain ⟨v, vs1, d, ds1, a, b, rfl, rfl, rfl, h1, h2⟩ := trodAll_cons h
    have hr := ht t (by simp)
    exact ⟨a, b, Trod_stays hl hr.1 hr.2 h1 (fun p q => hs p (by simp [q])) (fun p q => hp p (by simp [q])),
      all_stay hl (fun t q => ht t (by simp [q])) h2 (fun p q => hs p (by simp [q])) (fun p q => hp p (by simp [q])), rfl⟩
theorem law_post {f : Func} {s : ChangeSpec} {W W' : World} {args : Array Value} {ds gs : List (DataW H)} {before : List MemPlace} {tb : TypeId}
    (hl : laidOutB P = true) (ht : (f.params.toList.all fun t => P.readableRec t && decide (t < P.types.size)) = true) (hv : s.vars = []) (hr : f.resultTypes = #[tb]) (htb : P.underlying tb = some .bool)
    (hW : DataW.Whole enc P f.params.toList s.vars false W args.toList ds gs before)
    (hs : s.fn H (ds ++ gs) = { results := [.lit (.bool true)], args := ds }) (hb : Below W.heap.size W W') :
    s.post enc P f false true false false W args (.bool true) W' := by
  have hW' := hW
  have hlt : ∀ p ∈ before, p.block < W.heap.size := fun p hp => hW.lt p hp
  obtain ⟨p, q, hA, hV, rfl, _, _⟩ := hW
  rw [hv] at hV
  obtain ⟨rfl, rfl⟩ := trodVars_none hV
  refine ⟨ds, [], p ++ [], [], p, [], hW', ?_, ?_, ?_, hb.frame _, fun h => by cases h⟩
  · rw [hs, hr]
    exact trodAll_mk1 (shut_bool htb true)
  · rw [hs]
    refine all_stay hl (fun t h => ?_) hA (fun x hx => hb.same (hlt x (by simp [hx]))) (fun x hx => by simpa using hlt x (by simp [hx]))
    have := List.all_eq_true.1 ht t h
    simpa using this
  · rw [hs, hv]
    rfl
end
end Go.Proofs.YtbmpdmomagkkmaaGreatDoor
