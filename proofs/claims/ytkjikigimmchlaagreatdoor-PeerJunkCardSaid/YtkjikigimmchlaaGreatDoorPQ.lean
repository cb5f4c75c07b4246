/- Packets out of bytes by the code's way, carried out plainly; for every text of up to three thousand bytes. Under: the type of errors as it is laid. -/
import Derived.LaidEql
import Derived.Stop.Asserts
import Derived.RowKitTokens
import Derived.Test.YtkjikigimmchlaaGreatDoorKA
import Derived.Test.YtkjikigimmchlaaGreatDoorWQ
import Derived.Test.YtkjikigimmchlaaGreatDoorX5
namespace Go.Proofs.YtkjikigimmchlaaGreatDoor
open Go.RowKit Go.Extern.Stop Go.Stop Go.Extern
def Etyp (w : World) : Prop := w.cell? ⟨0, 0, none⟩ = some (.iface 250 (.agg #[.pointer (some ⟨2, 130, none⟩)]))
theorem ea_cell_lt {w : World} {p : Addr} {v : Value} (h : w.cell? p = some v) : p.block < w.heap.size := by
  rcases Nat.lt_or_ge p.block w.heap.size with q | q
  · exact q
  · simp [World.cell?, Array.getElem?_eq_none q] at h
theorem Etyp.up {w w' : World} (h : Etyp w) (hb : Below w.heap.size w w') : Etyp w' := (hb.cell (p := ⟨0, 0, none⟩) (ea_cell_lt h)).trans h
theorem ea_cTypeOf (t : TypeId) (v : Value) (w : World) (h : (Extern.ReflectliteType.typeOf #[.iface t v]).run Tryz.prog w = .ok (.iface 250 (.agg #[.pointer (some ⟨2, t, none⟩)])) w) :
    (callFunc 210 #[.iface t v]).run Tryz.prog w = .ok (.value (.iface 250 (.agg #[.pointer (some ⟨2, t, none⟩)]))) w := by
  rw [@run_callFunc_extern Tryz.prog 210 _ Extern.ReflectliteType.typeOf Tryz.func210 (by kernel_rfl) (by kernel_rfl) (by kernel_rfl) (by kernel_rfl), h]
  rfl
theorem ea_cValueOfP (t : Addr) (w : World) : (callFunc 165 #[.iface 176 (.pointer (some t))]).run Tryz.prog w
    = .ok (.value (.agg #[.pointer (some ⟨2, 176, none⟩), .pointer (some ⟨w.heap.size, 0, none⟩), .int .u64 150])) (w.alloc (.cells #[.pointer (some t)] 176)) := by
  rw [@run_callFunc_extern Tryz.prog 165 _ (fun args => ReflectliteValue.unpack (args.getD 0 (.tuple #[]))) Tryz.func165 (by kernel_rfl) (by kernel_rfl) (by kernel_rfl) (by kernel_rfl)]
  kernel_rfl
theorem ea_cValueOfN (n : Int) (w : World) : (callFunc 165 #[.iface 51 (.int .i64 n)]).run Tryz.prog w
    = .ok (.value (.agg #[.pointer (some ⟨2, 51, none⟩), .pointer (some ⟨w.heap.size, 0, none⟩), .int .u64 130])) (w.alloc (.cells #[.int .i64 n] 51)) := by
  rw [@run_callFunc_extern Tryz.prog 165 _ (fun args => ReflectliteValue.unpack (args.getD 0 (.tuple #[]))) Tryz.func165 (by kernel_rfl) (by kernel_rfl) (by kernel_rfl) (by kernel_rfl)]
  kernel_rfl
theorem ea_cType (a : Addr) (w : World) : (callFunc 166 #[.agg #[.pointer (some ⟨2, 176, none⟩), .pointer (some a), .int .u64 150]]).run Tryz.prog w
    = .ok (.value (.iface 250 (.agg #[.pointer (some ⟨2, 176, none⟩)]))) w := by
  rw [@run_callFunc_extern Tryz.prog 166 _ (ReflectliteValue.methodAny (ReflectliteValue.valueError "reflectlite.Value.Type" 0) (fun t _ _ _ => ReflectliteType.toType t)) Tryz.func166 (by kernel_rfl) (by kernel_rfl) (by kernel_rfl) (by kernel_rfl)]
  kernel_rfl
theorem ea_cKindP (w : World) : (callFunc 280 #[.pointer (some ⟨2, 176, none⟩)]).run Tryz.prog w = .ok (.value (.int .u8 22)) w := by
  rw [@run_callFunc_extern Tryz.prog 280 _ (ReflectliteType.abiMethod fun t => do pure (.int .u8 (← Rtype.kind t))) Tryz.func280 (by kernel_rfl) (by kernel_rfl) (by kernel_rfl) (by kernel_rfl)]
  kernel_rfl
theorem ea_cKindN (w : World) : (callFunc 280 #[.pointer (some ⟨2, 51, none⟩)]).run Tryz.prog w = .ok (.value (.int .u8 2)) w := by
  rw [@run_callFunc_extern Tryz.prog 280 _ (ReflectliteType.abiMethod fun t => do pure (.int .u8 (← Rtype.kind t))) Tryz.func280 (by kernel_rfl) (by kernel_rfl) (by kernel_rfl) (by kernel_rfl)]
  kernel_rfl
theorem ea_cElem (w : World) : (callFunc 292 #[.agg #[.pointer (some ⟨2, 176, none⟩)]]).run Tryz.prog w = .ok (.value (.iface 250 (.agg #[.pointer (some ⟨2, 51, none⟩)]))) w := by
  rw [@run_callFunc_extern Tryz.prog 292 _ (ReflectliteType.method ReflectliteType.elem) Tryz.func292 (by kernel_rfl) (by kernel_rfl) (by kernel_rfl) (by kernel_rfl)]
  kernel_rfl
theorem ea_cImplements (w : World) : (callFunc 293 #[.agg #[.pointer (some ⟨2, 51, none⟩)], .iface 250 (.agg #[.pointer (some ⟨2, 130, none⟩)])]).run Tryz.prog w = .ok (.value (.bool true)) w := by
  rw [@run_callFunc_extern Tryz.prog 293 _ (ReflectliteType.relation "Implements" ReflectliteType.implements_) Tryz.func293 (by kernel_rfl) (by kernel_rfl) (by kernel_rfl) (by kernel_rfl)]
  kernel_rfl
theorem ea_cAssignableN (w : World) : (callFunc 290 #[.agg #[.pointer (some ⟨2, 51, none⟩)], .iface 250 (.agg #[.pointer (some ⟨2, 51, none⟩)])]).run Tryz.prog w = .ok (.value (.bool true)) w := by
  rw [@run_callFunc_extern Tryz.prog 290 _ (ReflectliteType.relation "AssignableTo" ReflectliteType.assignableTo) Tryz.func290 (by kernel_rfl) (by kernel_rfl) (by kernel_rfl) (by kernel_rfl)]
  kernel_rfl
theorem ea_typeOfN (v : Value) (w : World) : (Extern.ReflectliteType.typeOf #[.iface 51 v]).run Tryz.prog w = .ok (.iface 250 (.agg #[.pointer (some ⟨2, 51, none⟩)])) w := by kernel_rfl
theorem ea_partsP (a : Addr) (w : World) : (ReflectliteValue.parts (.agg #[.pointer (some ⟨2, 176, none⟩), .pointer (some a), .int .u64 150])).run Tryz.prog w = .ok (some (176, a, 150)) w := by kernel_rfl
theorem ea_partsN (a : Addr) (w : World) : (ReflectliteValue.parts (.agg #[.pointer (some ⟨2, 51, none⟩), .pointer (some a), .int .u64 130])).run Tryz.prog w = .ok (some (51, a, 130)) w := by kernel_rfl
theorem ea_partsA (a : Addr) (w : World) : (ReflectliteValue.parts (.agg #[.pointer (some ⟨2, 51, none⟩), .pointer (some a), .int .u64 386])).run Tryz.prog w = .ok (some (51, a, 386)) w := by kernel_rfl
theorem ea_elemOfP (w : World) : (Rtype.elem? 176).run Tryz.prog w = .ok (some 51) w := by kernel_rfl
theorem ea_mkN (p : Addr) (w : World) : (ReflectliteValue.mk 51 p ReflectliteValue.flagAddr).run Tryz.prog w = .ok (.agg #[.pointer (some ⟨2, 51, none⟩), .pointer (some p), .int .u64 386]) w := by kernel_rfl
theorem ea_directN (w : World) : (Rtype.directlyAssignable 51 51).run Tryz.prog w = .ok true w := by kernel_rfl
theorem ea_method_parts {z : Sem Value} {f : TypeId → Addr → Nat → Nat → Sem Value} {v : Value} {g : Option (TypeId × Addr × Nat) → Sem Value} (h : ReflectliteValue.method z f #[v] = (ReflectliteValue.parts v >>= fun p => g p)) {w w' : World} {P : Program} {y : Value}
    (h2 : (ReflectliteValue.parts v >>= fun p => g p).run P w = .ok y w') : (ReflectliteValue.method z f #[v]).run P w = .ok y w' := by rw [h]; exact h2
theorem ea_cIsNil (a p : Addr) (W : World) (ha : W.cell? a = some (.pointer (some p))) :
    (callFunc 167 #[.agg #[.pointer (some ⟨2, 176, none⟩), .pointer (some a), .int .u64 150]]).run Tryz.prog W = .ok (.value (.bool false)) W := by
  rw [@run_callFunc_extern Tryz.prog 167 _ (ReflectliteValue.method (ReflectliteValue.valueError "reflectlite.Value.IsNil" 0) ReflectliteValue.isNil) Tryz.func167 (by kernel_rfl) (by kernel_rfl) (by kernel_rfl) (by kernel_rfl)]
  refine congrArg (fun r : Result Value => r.andThen fun v w' => Result.ok (Next.value v) w') (ea_method_parts rfl ?_)
  simp only [Sem.run_bind, ea_partsP, Result.andThen]
  simp [ReflectliteValue.isNil, loadVar, isAgg, underlying, Tryz.underlying176, ha, Result.andThen]
theorem ea_cElemV (a p : Addr) (W : World) (ha : W.cell? a = some (.pointer (some p))) :
    (callFunc 211 #[.agg #[.pointer (some ⟨2, 176, none⟩), .pointer (some a), .int .u64 150]]).run Tryz.prog W
      = .ok (.value (.agg #[.pointer (some ⟨2, 51, none⟩), .pointer (some p), .int .u64 386])) W := by
  rw [@run_callFunc_extern Tryz.prog 211 _ (ReflectliteValue.method (ReflectliteValue.valueError "reflectlite.Value.Elem" 0) ReflectliteValue.elem) Tryz.func211 (by kernel_rfl) (by kernel_rfl) (by kernel_rfl) (by kernel_rfl)]
  refine congrArg (fun r : Result Value => r.andThen fun v w' => Result.ok (Next.value v) w') (ea_method_parts rfl ?_)
  simp only [Sem.run_bind, ea_partsP, Result.andThen]
  simp [ReflectliteValue.elem, loadVar, isAgg, underlying, Tryz.underlying176, ha, Result.andThen, ea_elemOfP, ea_mkN]
theorem ea_set_parts {v x : Value} {f : Option (TypeId × Addr × Nat) → Option (TypeId × Addr × Nat) → Sem Value} (h : ReflectliteValue.set #[v, x] = (ReflectliteValue.parts v >>= fun p => ReflectliteValue.parts x >>= fun q => f p q)) {w w' : World} {P : Program} {y : Value}
    (h2 : (ReflectliteValue.parts v >>= fun p => ReflectliteValue.parts x >>= fun q => f p q).run P w = .ok y w') : (ReflectliteValue.set #[v, x]).run P w = .ok y w' := by rw [h]; exact h2
theorem ea_cSet (ta b : Addr) (n : Int) (old : Value) (W : World) (hb : W.cell? b = some (.int .i64 n)) (ht : W.cell? ta = some old) (hf : W.frozen? ta = false) :
    (callFunc 212 #[.agg #[.pointer (some ⟨2, 51, none⟩), .pointer (some ta), .int .u64 386], .agg #[.pointer (some ⟨2, 51, none⟩), .pointer (some b), .int .u64 130]]).run Tryz.prog W
      = .ok (.value (.tuple #[])) (W.setCell ta (.int .i64 n)) := by
  rw [@run_callFunc_extern Tryz.prog 212 _ ReflectliteValue.set Tryz.func212 (by kernel_rfl) (by kernel_rfl) (by kernel_rfl) (by kernel_rfl)]
  refine congrArg (fun r : Result Value => r.andThen fun v w' => Result.ok (Next.value v) w') (ea_set_parts rfl ?_)
  simp only [Sem.run_bind, ea_partsA, ea_partsN, Result.andThen]
  simp [ReflectliteValue.flagAddr, loadVar, isAgg, underlying, Tryz.underlying51, hb, Result.andThen, ea_directN, storeVar, Value.cells, storeCells, Addr.add]
  rw [run_store Tryz.prog W ta _ _ (by rfl)]
  simp [ht, hf]
theorem ea_as_nil (t : Value) (w : World) :
    Calls Tryz.prog 111 #[.nilIface, t] w fun e w' => e = .returned (.bool false) ∧ w' = w := by
  go_enter Tryz.func111, Tryz.ntmps111
  go_wp2
  go_ret
  exact ⟨rfl, rfl⟩
end Go.Proofs.YtkjikigimmchlaaGreatDoor
namespace Go.Proofs.YtkjikigimmchlaaGreatDoor
open Go.RowKit Go.Extern.Stop Go.Stop Go.Extern
theorem ea_pkHasUnwrap (v : Value) (xT : TypeId) (w : World) : (Instr.typeAssert (.iface 173 v) xT 258 true).run Tryz.prog w = .ok (.tuple #[.iface 173 v, .bool true]) w := run_typeAssert_hasB Tryz.underlying258 (by kernel_rfl) v xT w
theorem ea_pkNoAs (v : Value) (xT : TypeId) (w : World) : (Instr.typeAssert (.iface 173 v) xT 255 true).run Tryz.prog w = .ok (.tuple #[.nilIface, .bool false]) w := run_typeAssert_lacksB Tryz.underlying255 (by kernel_rfl) (by kernel_rfl) v xT w
theorem ea_pkUnwrap_any (s : ByteArray) (x : Value) (w : World) : Calls Tryz.prog 285 #[.agg #[.string s, x]] w fun e w' => e = .returned x ∧ Below w.heap.size w w' := by
  go_enter Tryz.func285, Tryz.ntmps285
  go_wp2
  go_ret
  exact ⟨rfl, below1⟩
theorem ea_pkAssignable (w : World) : (callFunc 290 #[.agg #[.pointer (some ⟨2, 173, none⟩)], .iface 250 (.agg #[.pointer (some ⟨2, 51, none⟩)])]).run Tryz.prog w = .ok (.value (.bool false)) w := by
  rw [@run_callFunc_extern Tryz.prog 290 _ (ReflectliteType.relation "AssignableTo" ReflectliteType.assignableTo) Tryz.func290 (by kernel_rfl) (by kernel_rfl) (by kernel_rfl) (by kernel_rfl)]
  kernel_rfl
theorem ea_pkTypeOf (v : Value) (w : World) : (Extern.ReflectliteType.typeOf #[.iface 173 v]).run Tryz.prog w = .ok (.iface 250 (.agg #[.pointer (some ⟨2, 173, none⟩)])) w := by kernel_rfl
set_option maxHeartbeats 4000000 in
theorem ea_pk_as (s : ByteArray) (n : Int) (tb a : Nat) (w : World) (hv : w.cell? ⟨a, 0, none⟩ = some (.pointer (some ⟨tb, 0, none⟩))) (ho : Own w tb 1) :
    Calls Tryz.prog 168 #[.iface 173 (.agg #[.string s, .iface 51 (.int .i64 n)]), .iface 176 (.pointer (some ⟨tb, 0, none⟩)), .agg #[.pointer (some ⟨2, 176, none⟩), .pointer (some ⟨a, 0, none⟩), .int .u64 150], .iface 250 (.agg #[.pointer (some ⟨2, 51, none⟩)])] w
      fun e w' => e = .returned (.bool true) ∧ ∃ v, Below w.heap.size w v ∧ w' = v.setCell ⟨tb, 0, none⟩ (.int .i64 n) := by
  have tF := fun v w => ea_cTypeOf 173 v w (ea_pkTypeOf v w)
  have tN := fun v w => ea_cTypeOf 51 v w (ea_typeOfN v w)
  have aF := ea_pkAssignable
  have aN := ea_cAssignableN
  have nF := ea_pkNoAs
  have uF := ea_pkHasUnwrap
  have hl := ea_cell_lt hv
  have HH := Lib.hid ((Held.refl w).lay [.pointer (some ⟨2, 176, none⟩), .pointer (some ⟨a, 0, none⟩), .int .u64 150] 217)
  have HV := Lib.hid hv; clear hv
  have HO := Lib.hid ho; clear ho
  go_enter Tryz.func168, Tryz.ntmps168
  go_wp2_with fail
  refine wp_loop_rounds 2 ?_
  rw [rounds_succ]
  go_wp2_with fail
  refine (ea_pkUnwrap_any _ _ _).mono ?_
  rintro e w1 ⟨rfl, hb⟩
  have H1 := Lib.hid (HH.out.up hb)
  clear hb HH
  have kb := H1.out.b0.cell
  have ka := ((H1.out.below.cell (p := ⟨a, 0, none⟩) hl).trans HV.out)
  have eV := ea_cElemV ⟨a, 0, none⟩ ⟨tb, 0, none⟩ w1 ka
  have vN := ea_cValueOfN n w1
  obtain ⟨vs, hlen, hx⟩ := (HO.out.below H1.out.below)
  match vs, hlen with
  | [u], _ =>
    have sN := ea_cSet ⟨tb, 0, none⟩ ⟨w1.heap.size, 0, none⟩ n u (w1.alloc (.cells #[.int .i64 n] 51)) ((Box.new w1 [.int .i64 n] 51).cell 0) ((hx.alloc _).cell 0) ((hx.alloc _).frozen 0)
    go_wp2_with fail
    rw [rounds_succ]
    go_wp2_with fail
    go_ret
    exact ⟨rfl, _, (H1.out.alloc _).below, rfl⟩
set_option maxHeartbeats 4000000 in
theorem ea_pk_As (s : ByteArray) (n : Int) (tb : Nat) (w : World) (hg : Etyp w) (ho : Own w tb 1) :
    Calls Tryz.prog 111 #[.iface 173 (.agg #[.string s, .iface 51 (.int .i64 n)]), .iface 176 (.pointer (some ⟨tb, 0, none⟩))] w
      fun e w' => e = .returned (.bool true) ∧ ∃ v, Below w.heap.size w v ∧ w' = v.setCell ⟨tb, 0, none⟩ (.int .i64 n) := by
  have H0 := Lib.hid ((Held.refl w).lay [.pointer (some ⟨tb, 0, none⟩)] 176)
  have H1 := Lib.hid (H0.out.lay [.pointer (some ⟨2, 176, none⟩), .pointer (some ⟨w.heap.size, 0, none⟩), .int .u64 150] 217)
  rw [World.size_alloc] at H1
  have vP := ea_cValueOfP ⟨tb, 0, none⟩ w
  have cT := ea_cType
  have kP := ea_cKindP
  have kN := ea_cKindN
  have eE := ea_cElem
  have iI := ea_cImplements
  have k1 := H1.out.b1.cell 0
  have n8 := ea_cIsNil ⟨w.heap.size, 0, none⟩ ⟨tb, 0, none⟩ _ k1
  have hg1 := (hg.up (below2 (o := .cells #[.pointer (some ⟨tb, 0, none⟩)] 176) (p := .cells #[.pointer (some ⟨2, 176, none⟩), .pointer (some ⟨w.heap.size, 0, none⟩), .int .u64 150] 217)))
  unfold Etyp at hg1
  have HO := Lib.hid ho; clear ho
  have HG := Lib.hid hg; clear hg
  go_enter Tryz.func111, Tryz.ntmps111
  go_wp2_with fail
  refine (ea_pk_as s n tb w.heap.size _ k1 ((HO.out.below below1).below below1)).mono ?_
  rintro e w1 ⟨rfl, v, hb, rfl⟩
  go_wp2_with fail
  go_ret
  exact ⟨rfl, v, ext H1.out.below hb, rfl⟩
def PErr (v : Value) (e : Int) : Prop := (e = 0 ∧ v = .nilIface) ∨ ∃ s, v = .iface 173 (.agg #[.string s, .iface 51 (.int .i64 e)])
set_option maxHeartbeats 1000000 in
theorem pnumber_any (v : Value) (n : Int) (w : World) (hg : Etyp w) (hv : PErr v n) :
    Calls Tryz.prog 66 #[v] w fun e w' => e = .returned (.int .i64 n) ∧ Below w.heap.size w w' := by
  have G1 := Lib.hid (hg.up (below1 (o := .cells #[.int .i64 0] 51)))
  have H1 := Lib.hid ((Held.refl w).own [.int .i64 0] 51 (n := 1) rfl)
  clear hg
  rcases hv with ⟨rfl, rfl⟩ | ⟨s, rfl⟩
  · go_enter Tryz.func66, Tryz.ntmps66
    go_wp2_with fail
    refine (ea_as_nil _ _).mono ?_
    rintro e w1 ⟨rfl, rfl⟩
    go_wp2_with fail
    go_ret
    exact ⟨rfl, H1.out.below⟩
  · go_enter Tryz.func66, Tryz.ntmps66
    go_wp2_with fail
    refine (ea_pk_As s n w.heap.size _ G1.out H1.out.o0).mono ?_
    rintro e w2 ⟨rfl, v, hb, rfl⟩
    have H3 := Lib.hid ((H1.out.up hb).set (b := w.heap.size) ⟨1, by simp⟩ 0 (.int .i64 n))
    obtain ⟨vs, hlen, hx⟩ := (H1.out.up hb).o0
    match vs, hlen with
    | [u], _ =>
      have k := (hx.set 0 (.int .i64 n)).cell
      clear hb H1 G1
      generalize v.setCell ⟨w.heap.size, 0, none⟩ (.int .i64 n) = v2 at *
      go_wp2_with fail
      go_ret
      exact ⟨rfl, H3.out.below⟩
end Go.Proofs.YtkjikigimmchlaaGreatDoor
namespace Go.Proofs.YtkjikigimmchlaaGreatDoor
open Go.RowKit PX
set_option maxRecDepth 100000
def cpkt (l : List UInt8) : Pkt :=
  if ((l.getD 0 0).toNat : Int) = 1 then ⟨((l.getD 0 0).toNat : Int), num8 l 1, (hdec (txt (l.drop 9))).1, 0, ⟨#[]⟩⟩
  else if 9 < l.length then ⟨((l.getD 0 0).toNat : Int), num8 l 1, Hel.zero, ((l.getD 9 0).toNat : Int), txt (l.drop 10)⟩
  else ⟨((l.getD 0 0).toNat : Int), num8 l 1, Hel.zero, 0, ⟨#[]⟩⟩
theorem cpkt_wide (l : List UInt8) : (cpkt l).wide := by
  unfold cpkt
  by_cases h1 : ((l.getD 0 0).toNat : Int) = 1
  · rw [if_pos h1]; exact ⟨num8_range _ _, hdec_wide2 _⟩
  · rw [if_neg h1]
    by_cases h2 : 9 < l.length
    · rw [if_pos h2]; exact ⟨num8_range _ _, Hel.zero_wide⟩
    · rw [if_neg h2]; exact ⟨num8_range _ _, Hel.zero_wide⟩
theorem drop_short {l : List UInt8} {n : Nat} (h : ¬ n < l.length) : txt (l.drop n) = ⟨#[]⟩ := by
  rw [List.drop_of_length_le (by omega)]
  rfl
theorem cpkt_of {l : List UInt8} (hr : (pktOf l).right = true) : cpkt l = pktOf l := by
  obtain ⟨_, _, _, _, _, _, r5⟩ := Pkt.right_parts hr
  unfold cpkt
  unfold pktOf at *
  dsimp only at *
  by_cases h1 : ((l.getD 0 0).toNat : Int) = 1
  · rw [if_pos h1, if_pos h1]
  · rw [if_neg h1] at r5 ⊢
    rw [if_neg h1]
    by_cases h2 : 9 < l.length
    · rw [if_pos h2]
      cases hb : blockK ((l.getD 0 0).toNat : Int)
      · rw [hb] at r5
        rw [show (false && decide (9 < l.length)) = false from rfl, if_neg (by simp)] at r5
        have hd : dataK ((l.getD 0 0).toNat : Int) = false := by
          cases q : dataK ((l.getD 0 0).toNat : Int) with
          | false => rfl
          | true => rw [data_block q] at hb; cases hb
        have := r5 hd
        dsimp only at this
        rw [txt_size, List.length_drop] at this
        omega
      · rw [show (true && decide (9 < l.length)) = true from by rw [decide_eq_true h2]; rfl, if_pos rfl]
    · rw [if_neg h2, if_neg (by rw [decide_eq_false h2]; simp), drop_short h2]
theorem openE_nil : openE ⟨#[]⟩ ≠ 0 := by
  unfold openE
  rw [if_pos (by decide)]
  decide
theorem cpkt_yes {s : ByteArray} (h0 : openE s = 0) (he : (cpkt (openT s).data.toList).encT = s) : decP s = (cpkt (openT s).data.toList, 0) := by
  cases hr : (cpkt (openT s).data.toList).right
  · unfold Pkt.encT at he
    rw [hr, if_neg (by simp)] at he
    rw [← he] at h0
    exact absurd h0 openE_nil
  · have := decP_encT (cpkt_wide (openT s).data.toList) hr
    rw [he] at this
    exact this
theorem cpkt_no {s : ByteArray} (h0 : openE s = 0) (he : ¬ (cpkt (openT s).data.toList).encT = s) : decP s = (Pkt.zero, 2) := by
  have e0 : decP s = pdec (openT s).data.toList := by
    unfold decP
    rw [if_pos h0]
  rw [e0]
  refine pdec_zero fun e => he ?_
  have hd : (decP s).2 = 0 := by rw [e0]; exact e
  obtain ⟨h1, _, h3⟩ := encT_decP hd
  have e1 : (decP s).1 = pktOf (openT s).data.toList := by
    rw [e0]
    unfold pdec at e ⊢
    by_cases hf : pformed (openT s).data.toList = true
    · rw [if_pos hf]
    · rw [if_neg hf] at e
      cases e
  rw [e1] at h1 h3
  rw [cpkt_of h1]
  exact h3
theorem decP_nohel {s : ByteArray} (h0 : openE s = 0) (h1 : (((openT s).data.toList.getD 0 0).toNat : Int) = 1) (h2 : (hdec (txt ((openT s).data.toList.drop 9))).2 ≠ 0) : decP s = (Pkt.zero, 2) := by
  unfold decP
  rw [if_pos h0]
  refine pdec_zero fun e => ?_
  obtain ⟨r1, _, _⟩ := body_pdec e
  have e1 : (pdec (openT s).data.toList).1 = pktOf (openT s).data.toList := by
    unfold pdec at e ⊢
    by_cases hf : pformed (openT s).data.toList = true
    · rw [if_pos hf]
    · rw [if_neg hf] at e
      cases e
  rw [e1] at r1
  have hp : (pktOf (openT s).data.toList).k = 1 ∧ (pktOf (openT s).data.toList).h = Hel.zero := by
    unfold pktOf
    dsimp only
    rw [if_pos h1]
    exact ⟨h1, hdec_zero _ h2⟩
  unfold Pkt.right at r1
  rw [hp.1, hp.2, if_pos rfl, show Hel.zero.right = false from by decide] at r1
  simp at r1
theorem hdec_number (x : ByteArray) (h : (hdec x).2 ≠ 0) : (hdec x).2 = 2 := by
  unfold hdec at *
  by_cases hf : hformed x.data.toList = true
  · rw [if_pos hf] at h; exact absurd rfl h
  · rw [if_neg hf]
theorem pnum_at (t : ByteArray) (h9 : 9 ≤ t.size) (w : World) : Calls Tryz.prog 108 #[.string (t.extract 1 9)] w fun e w' => e = .returned (.tuple #[.int .u64 (num8 t.data.toList 1), .bool true]) ∧ Below w.heap.size w w' := by
  have := get64_b (t.extract 1 9) w (extract8 t 1 (by omega))
  rw [extract_num8 t 1] at this
  exact this
@[reducible] def pflt (s : ByteArray) (e : Int) : Value := .iface 173 (.agg #[.string s, .iface 51 (.int .i64 e)])
theorem pfill_hel (l : Int) (x : ByteArray) (w : World) (h0 : (hdec x).2 = 0) : Calls Tryz.prog 109 #[pktV ⟨1, l, Hel.zero, 0, ⟨#[]⟩⟩, .string x] w fun e w' => e = .returned (.tuple #[pktV ⟨1, l, (hdec x).1, 0, ⟨#[]⟩⟩, .nilIface]) ∧ Below w.heap.size w w' := by
  refine run_v (t_lit 9 (t_v (args := #[.string x]) (fun u _ => hdecode_any x u) ?_))
  exact t_N (b := (hdec x).2 != 0) 9 (by simpa using h0) (e_r2 (.tuple #[pktV ⟨1, l, (hdec x).1, 0, ⟨#[]⟩⟩, .nilIface]) rfl)
theorem pfill_bad (l : Int) (x : ByteArray) (w : World) (h0 : ¬ (hdec x).2 = 0) : Calls Tryz.prog 109 #[pktV ⟨1, l, Hel.zero, 0, ⟨#[]⟩⟩, .string x] w fun e w' => e = .returned (.tuple #[pktV Pkt.zero, pflt ⟨#[104, 101, 108, 108, 111]⟩ (hdec x).2]) ∧ Below w.heap.size w w' := by
  refine run_v (t_lit 9 (t_v (args := #[.string x]) (fun u _ => hdecode_any x u) ?_))
  exact t_Y (b := (hdec x).2 != 0) 9 (by simpa using h0) (e_r2 (.tuple #[pktV Pkt.zero, pflt ⟨#[104, 101, 108, 108, 111]⟩ (hdec x).2]) rfl)
theorem pfill_nil (k l : Int) (x : ByteArray) (w : World) (hk : ¬ k = 1) (hx : x.size = 0) : Calls Tryz.prog 109 #[pktV ⟨k, l, Hel.zero, 0, ⟨#[]⟩⟩, .string x] w fun e w' => e = .returned (.tuple #[pktV ⟨k, l, Hel.zero, 0, ⟨#[]⟩⟩, .nilIface]) ∧ Below w.heap.size w w' := by
  refine run_v (t_N (b := decide (k = 1)) 0 (by simpa using hk) ?_)
  exact t_N (b := !(x.toList == (⟨#[]⟩ : ByteArray).toList)) 9 (by rw [show (⟨#[]⟩ : ByteArray).toList = [] from by rw [ByteArray.toList_eq], nil_size, hx]; rfl) (e_r2 (.tuple #[pktV ⟨k, l, Hel.zero, 0, ⟨#[]⟩⟩, .nilIface]) rfl)
theorem pfill_two (k l : Int) (x : ByteArray) (w : World) (hk : ¬ k = 1) (hx : 0 < x.size) : Calls Tryz.prog 109 #[pktV ⟨k, l, Hel.zero, 0, ⟨#[]⟩⟩, .string x] w fun e w' => e = .returned (.tuple #[pktV ⟨k, l, Hel.zero, ((x[0]?.getD 0).toNat : Int), x.extract 1 x.size⟩, .nilIface]) ∧ Below w.heap.size w w' := by
  refine run_v (t_N (b := decide (k = 1)) 0 (by simpa using hk) ?_)
  refine t_Y (b := !(x.toList == (⟨#[]⟩ : ByteArray).toList)) 0 (by rw [show (⟨#[]⟩ : ByteArray).toList = [] from by rw [ByteArray.toList_eq], nil_size, decide_eq_false (by omega)]; rfl) ?_
  refine t_ck (p := 0 ≤ (0 : Int) ∧ (0 : Int) < (x.size : Nat)) ⟨by omega, by omega⟩ (t_ck (p := inB none x.size ∧ inB (some 1) (atB none x.size)) ⟨trivial, by show 0 ≤ (1 : Int) ∧ (1 : Int) ≤ (x.size : Nat); omega⟩ ?_)
  exact e_r2 (.tuple #[pktV ⟨k, l, Hel.zero, IntKind.i64.wrap ((x[0]?.getD 0).toNat : Int), x.extract 1 x.size⟩, .nilIface]) (by rw [wrap_byte])
def GivesP (s : ByteArray) (w : World) (e : Ending) (w' : World) : Prop := (∃ v, PErr v (decP s).2 ∧ e = .returned (.tuple #[pktV (decP s).1, v])) ∧ Below w.heap.size w w'
theorem e_p {s : ByteArray} {w : World} {K : World → Prop} {t : Tree} {p : Pkt} {f : Int} (v : Value) (h : decP s = (p, f)) (hv : PErr v f) (hd : t.hd = .ret (.tuple #[pktV p, v]) := by kernel_rfl) : OK ⟨Tryz.prog, tyL, w, [], []⟩ (fun x _ u => GivesP s w (.returned x) u) t K :=
  e_v (R' := GivesP s w) (.tuple #[pktV p, v]) (fun u _ hb => ⟨⟨v, by rw [h]; exact hv, by rw [h]⟩, hb⟩) hd
theorem pp_end {s : ByteArray} {w : World} {K : World → Prop} (T0 : Tree) (X : Pkt) (h0 : openE s = 0) (hX : cpkt (openT s).data.toList = X)
    (a1 : T0.hd = .call (.fn 110) [pktV X])
    (a2 : ∀ y f, (T0.nv (.tuple #[.string y, .int .i64 f])).hd = .br (!(y.toList == s.toList)))
    (a3 : ∀ y f, (Tree.lit 9 (T0.nv (.tuple #[.string y, .int .i64 f])).yes).hd = .ret (.tuple #[pktV Pkt.zero, pflt ⟨#[107, 105, 110, 100, 32, 111, 114, 32, 102, 105, 101, 108, 100, 115]⟩ 2]))
    (a4 : ∀ y f, (Tree.lit 9 (T0.nv (.tuple #[.string y, .int .i64 f])).no).hd = .ret (.tuple #[pktV X, .nilIface])) :
    OK ⟨Tryz.prog, tyL, w, [], []⟩ (fun x _ u => GivesP s w (.returned x) u) T0 K := by
  subst hX
  refine t_v (fun u _ => pencode_any _ u (cpkt_wide _)) ?_ a1
  by_cases hq : (cpkt (openT s).data.toList).encT = s
  · exact t_N (b := !((cpkt (openT s).data.toList).encT.toList == s.toList)) 9 (by rw [hq]; simp) (e_p _ (cpkt_yes h0 hq) (.inl ⟨rfl, rfl⟩) (a4 _ _)) (a2 _ _)
  · refine t_Y (b := !((cpkt (openT s).data.toList).encT.toList == s.toList)) 9 ?_ (e_p _ (cpkt_no h0 hq) (.inr ⟨_, rfl⟩) (a3 _ _)) (a2 _ _)
    rw [Bool.not_eq_true', beq_eq_false_iff_ne, ByteArray.toList_eq, ByteArray.toList_eq]
    intro e
    exact hq (by rw [← txt_of (cpkt (openT s).data.toList).encT, e, txt_of])
theorem decP_off {s : ByteArray} (h0 : ¬ openE s = 0) : decP s = (Pkt.zero, openE s) := by unfold decP; rw [if_neg h0]
theorem decP_few {s : ByteArray} (h0 : openE s = 0) (h9 : ¬ 9 ≤ (openT s).size) : decP s = (Pkt.zero, 2) := by
  unfold decP
  rw [if_pos h0]
  exact pdec_few h9
theorem pparse_any (s : ByteArray) (hs : (s.size : Int) ≤ 3000) (w : World) : Calls Tryz.prog 65 #[.string s] w (GivesP s w) := by
  have hts := openT_size s
  refine run (R' := GivesP s w) (st_p True) trivial ?_
  refine t_v (args := #[.string s]) (fun u _ => open_any s u hs) ?_
  by_cases h0 : ¬ openE s = 0
  · exact t_Y (b := !(openE s == 0)) 9 (by simpa using h0) (e_p (pflt ⟨#[115, 101, 97, 108]⟩ (openE s)) (decP_off h0) (.inr ⟨_, rfl⟩))
  replace h0 := Decidable.not_not.1 h0
  refine t_N (b := !(openE s == 0)) 0 (by simpa using h0) ?_
  by_cases h9 : ¬ 9 ≤ (openT s).size
  · exact t_Y (b := decide (((openT s).size : Int) < 9)) 9 (decide_eq_true (by omega)) (e_p (pflt ⟨#[108, 101, 110, 103, 116, 104]⟩ 2) (decP_few h0 h9) (.inr ⟨_, rfl⟩))
  replace h9 := Decidable.not_not.1 h9
  refine t_N (b := decide (((openT s).size : Int) < 9)) 0 (decide_eq_false (by omega)) ?_
  have hk1 := fun (X : Pkt) (hX : cpkt (openT s).data.toList = X) (T0 : Tree) => pp_end (w := w) (K := fun _ => True) T0 X h0 hX
  have ht : (openT s).extract 9 (openT s).size = txt ((openT s).data.toList.drop 9) := tail_txt (openT s) 9
  have hK : IntKind.i64.wrap (((openT s)[0]?.getD 0).toNat : Nat) = (((openT s).data.toList.getD 0 0).toNat : Int) := by rw [get_at (openT s) 0 (by omega), wrap_byte]
  have hC : cpkt (openT s).data.toList = cpkt (openT s).data.toList := rfl
  have hN := decP_nohel h0
  generalize hT : openT s = t at *
  refine t_ck (p := inB (some 9) t.size ∧ inB (some 1) (atB (some 9) t.size)) ⟨⟨by omega, by omega⟩, by show 0 ≤ (1 : Int) ∧ (1 : Int) ≤ (9 : Nat); omega⟩ ?_
  refine t_v (fun u _ => pnum_at t h9 u) ?_
  refine t_ck (p := 0 ≤ (0 : Int) ∧ (0 : Int) < (t.size : Nat)) ⟨by omega, by omega⟩ (t_ck (p := inB none t.size ∧ inB (some 9) (atB none t.size)) ⟨trivial, by show 0 ≤ (9 : Int) ∧ (9 : Int) ≤ (t.size : Nat); omega⟩ ?_)
  by_cases h1 : ((t.data.toList.getD 0 0).toNat : Int) = 1
  · by_cases hh : (hdec (t.extract 9 t.size)).2 = 0
    · have hc : cpkt t.data.toList = ⟨1, num8 t.data.toList 1, (hdec (t.extract 9 t.size)).1, 0, ⟨#[]⟩⟩ := by
        unfold cpkt
        rw [if_pos h1, ← ht, h1]
      refine t_v (args := #[pktV ⟨IntKind.i64.wrap ((t[0]?.getD 0).toNat : Nat), num8 t.data.toList 1, Hel.zero, 0, ⟨#[]⟩⟩, .string (t.extract 9 t.size)]) (fun u _ => by rw [hK, h1]; exact pfill_hel _ _ u hh) ?_
      exact t_lit 1 (hk1 _ hc _ (by kernel_rfl) (by intro y f; kernel_rfl) (by intro y f; kernel_rfl) (by intro y f; kernel_rfl))
    · refine t_v (args := #[pktV ⟨IntKind.i64.wrap ((t[0]?.getD 0).toNat : Nat), num8 t.data.toList 1, Hel.zero, 0, ⟨#[]⟩⟩, .string (t.extract 9 t.size)]) (fun u _ => by rw [hK, h1]; exact pfill_bad _ _ u hh) ?_
      exact t_lit 9 (e_p (pflt ⟨#[104, 101, 108, 108, 111]⟩ (hdec (t.extract 9 t.size)).2) (hN h1 (by rw [← ht]; exact hh)) (.inr ⟨_, by rw [hdec_number _ hh]⟩))
  · by_cases h10 : 9 < t.size
    · have hc : cpkt t.data.toList = ⟨((t.data.toList.getD 0 0).toNat : Int), num8 t.data.toList 1, Hel.zero, (((t.extract 9 t.size)[0]?.getD 0).toNat : Int), (t.extract 9 t.size).extract 1 (t.extract 9 t.size).size⟩ := by
        have hz : ((t.extract 9 t.size)[0]?.getD 0) = t.data.toList.getD 9 0 := by
          have hsz : 0 < (t.extract 9 t.size).size := by simp; omega
          rw [get_at _ 0 hsz, ht, txt_data, List.getD_eq_getElem?_getD, List.getD_eq_getElem?_getD, List.getElem?_drop]
        unfold cpkt
        rw [if_neg h1, if_pos (show 9 < t.data.toList.length from h10), hz, tail_txt (t.extract 9 t.size) 1, ht, txt_data, List.drop_drop]
      refine t_v (args := #[pktV ⟨IntKind.i64.wrap ((t[0]?.getD 0).toNat : Nat), num8 t.data.toList 1, Hel.zero, 0, ⟨#[]⟩⟩, .string (t.extract 9 t.size)]) (fun u _ => by rw [hK]; exact pfill_two _ _ _ u h1 (by simp; omega)) ?_
      exact t_lit 1 (hk1 _ hc _ (by kernel_rfl) (by intro y f; kernel_rfl) (by intro y f; kernel_rfl) (by intro y f; kernel_rfl))
    · have hc : cpkt t.data.toList = ⟨((t.data.toList.getD 0 0).toNat : Int), num8 t.data.toList 1, Hel.zero, 0, ⟨#[]⟩⟩ := by
        unfold cpkt
        rw [if_neg h1, if_neg (show ¬ 9 < t.data.toList.length from h10)]
      refine t_v (args := #[pktV ⟨IntKind.i64.wrap ((t[0]?.getD 0).toNat : Nat), num8 t.data.toList 1, Hel.zero, 0, ⟨#[]⟩⟩, .string (t.extract 9 t.size)]) (fun u _ => by rw [hK]; exact pfill_nil _ _ _ u h1 (by simp; omega)) ?_
      exact t_lit 1 (hk1 _ hc _ (by kernel_rfl) (by intro y f; kernel_rfl) (by intro y f; kernel_rfl) (by intro y f; kernel_rfl))
theorem pdecode_any (s : ByteArray) (w : World) (hs : (s.size : Int) ≤ 3000) (he : Etyp w) : Calls Tryz.prog 35 #[.string s] w fun e w' => e = .returned (.tuple #[pktV (decP s).1, .int .i64 (decP s).2]) ∧ Below w.heap.size w w' := by
  refine run_v ?_
  refine t_call (args := #[.string s]) (fun u _ hb => pparse_any s hs u) ?_
  rintro u e u' _ hb ⟨⟨v, hv, rfl⟩, hb'⟩
  refine ⟨_, fun _ => True, rfl, hb', st_p _, trivial, ?_⟩
  exact t_vb (args := #[v]) (fun u _ hb => pnumber_any v (decP s).2 u (he.up hb) hv) e_r
theorem pread_any (s : ByteArray) (g : Int) (w : World) (hs : (s.size : Int) ≤ 3000) (he : Etyp w) : Calls Tryz.prog 16 #[.string s, .int .u64 g] w fun e w' => e = .returned (.tuple #[pktV (readP s g).1, .int .i64 (readP s g).2]) ∧ Below w.heap.size w w' := by
  refine run_v (t_vb (args := #[.string s]) (fun u _ hb => pdecode_any s u hs (he.up hb)) ?_)
  unfold readP
  by_cases h0 : ¬ (decP s).2 = 0
  · rw [if_neg h0]
    exact t_Y (b := !((decP s).2 == 0)) 9 (by simpa using h0) (e_r2 (.tuple #[pktV Pkt.zero, .int .i64 (decP s).2]) rfl)
  replace h0 := Decidable.not_not.1 h0
  rw [if_pos h0]
  refine t_N (b := !((decP s).2 == 0)) 0 (by simpa using h0) ?_
  by_cases hg : (decP s).1.s = g
  · rw [if_pos hg]
    exact t_N (b := !((decP s).1.s == g)) 9 (by simpa using hg) (e_r2 (.tuple #[pktV (decP s).1, .int .i64 0]) (by rw [h0]))
  · rw [if_neg hg]
    exact t_Y (b := !((decP s).1.s == g)) 9 (by simpa using hg) (e_r2 (.tuple #[pktV Pkt.zero, .int .i64 16]) rfl)
end Go.Proofs.YtkjikigimmchlaaGreatDoor
