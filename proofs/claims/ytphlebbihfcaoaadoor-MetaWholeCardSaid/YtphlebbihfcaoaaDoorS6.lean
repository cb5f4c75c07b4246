/- errors.As at a fault of superblocks that wraps a number: it answers true, and the target holds the number. Under: both package variables as they are laid. -/
import Derived.Test.YtphlebbihfcaoaaDoorS5
namespace Go.Proofs.YtphlebbihfcaoaaDoor
open Go.RowKit Go.Extern.Stop Go.Stop Go.Extern

/-! ### What reads or writes memory -/
theorem partsP (a : Addr) (w : World) : (ReflectliteValue.parts (.agg #[.pointer (some ⟨2, 88, none⟩), .pointer (some a), .int .u64 150])).run Tryd.prog w = .ok (some (88, a, 150)) w := by kernel_rfl
theorem partsN (a : Addr) (w : World) : (ReflectliteValue.parts (.agg #[.pointer (some ⟨2, 34, none⟩), .pointer (some a), .int .u64 130])).run Tryd.prog w = .ok (some (34, a, 130)) w := by kernel_rfl
theorem partsA (a : Addr) (w : World) : (ReflectliteValue.parts (.agg #[.pointer (some ⟨2, 34, none⟩), .pointer (some a), .int .u64 386])).run Tryd.prog w = .ok (some (34, a, 386)) w := by kernel_rfl
theorem elemOfP (w : World) : (Rtype.elem? 88).run Tryd.prog w = .ok (some 34) w := by kernel_rfl
theorem mkN (p : Addr) (w : World) : (ReflectliteValue.mk 34 p ReflectliteValue.flagAddr).run Tryd.prog w = .ok (.agg #[.pointer (some ⟨2, 34, none⟩), .pointer (some p), .int .u64 386]) w := by kernel_rfl
theorem directN (w : World) : (Rtype.directlyAssignable 34 34).run Tryd.prog w = .ok true w := by kernel_rfl

theorem method_parts {z : Sem Value} {f : TypeId → Addr → Nat → Nat → Sem Value} {v : Value} {g : Option (TypeId × Addr × Nat) → Sem Value} (h : ReflectliteValue.method z f #[v] = (ReflectliteValue.parts v >>= fun p => g p)) {w w' : World} {P : Program} {y : Value}
    (h2 : (ReflectliteValue.parts v >>= fun p => g p).run P w = .ok y w') : (ReflectliteValue.method z f #[v]).run P w = .ok y w' := by rw [h]; exact h2

theorem cIsNil (a p : Addr) (W : World) (ha : W.cell? a = some (.pointer (some p))) :
    (callFunc 74 #[.agg #[.pointer (some ⟨2, 88, none⟩), .pointer (some a), .int .u64 150]]).run Tryd.prog W = .ok (.value (.bool false)) W := by
  rw [@run_callFunc_extern Tryd.prog 74 _ (ReflectliteValue.method (ReflectliteValue.valueError "reflectlite.Value.IsNil" 0) ReflectliteValue.isNil) Tryd.func74 (by kernel_rfl) (by kernel_rfl) (by kernel_rfl) (by kernel_rfl)]
  refine congrArg (fun r : Result Value => r.andThen fun v w' => Result.ok (Next.value v) w') (method_parts rfl ?_)
  simp only [Sem.run_bind, partsP, Result.andThen]
  simp [ReflectliteValue.isNil, loadVar, isAgg, underlying, Tryd.underlying88, ha, Result.andThen]

theorem cElemV (a p : Addr) (W : World) (ha : W.cell? a = some (.pointer (some p))) :
    (callFunc 78 #[.agg #[.pointer (some ⟨2, 88, none⟩), .pointer (some a), .int .u64 150]]).run Tryd.prog W
      = .ok (.value (.agg #[.pointer (some ⟨2, 34, none⟩), .pointer (some p), .int .u64 386])) W := by
  rw [@run_callFunc_extern Tryd.prog 78 _ (ReflectliteValue.method (ReflectliteValue.valueError "reflectlite.Value.Elem" 0) ReflectliteValue.elem) Tryd.func78 (by kernel_rfl) (by kernel_rfl) (by kernel_rfl) (by kernel_rfl)]
  refine congrArg (fun r : Result Value => r.andThen fun v w' => Result.ok (Next.value v) w') (method_parts rfl ?_)
  simp only [Sem.run_bind, partsP, Result.andThen]
  simp [ReflectliteValue.elem, loadVar, isAgg, underlying, Tryd.underlying88, ha, Result.andThen, elemOfP, mkN]
theorem set_parts {v x : Value} {f : Option (TypeId × Addr × Nat) → Option (TypeId × Addr × Nat) → Sem Value} (h : ReflectliteValue.set #[v, x] = (ReflectliteValue.parts v >>= fun p => ReflectliteValue.parts x >>= fun q => f p q)) {w w' : World} {P : Program} {y : Value}
    (h2 : (ReflectliteValue.parts v >>= fun p => ReflectliteValue.parts x >>= fun q => f p q).run P w = .ok y w') : (ReflectliteValue.set #[v, x]).run P w = .ok y w' := by rw [h]; exact h2

theorem cSet (ta b : Addr) (n : Int) (old : Value) (W : World) (hb : W.cell? b = some (.int .i64 n)) (ht : W.cell? ta = some old) (hf : W.frozen? ta = false) :
    (callFunc 79 #[.agg #[.pointer (some ⟨2, 34, none⟩), .pointer (some ta), .int .u64 386], .agg #[.pointer (some ⟨2, 34, none⟩), .pointer (some b), .int .u64 130]]).run Tryd.prog W
      = .ok (.value (.tuple #[])) (W.setCell ta (.int .i64 n)) := by
  rw [@run_callFunc_extern Tryd.prog 79 _ ReflectliteValue.set Tryd.func79 (by kernel_rfl) (by kernel_rfl) (by kernel_rfl) (by kernel_rfl)]
  refine congrArg (fun r : Result Value => r.andThen fun v w' => Result.ok (Next.value v) w') (set_parts rfl ?_)
  simp only [Sem.run_bind, partsA, partsN, Result.andThen]
  simp [ReflectliteValue.flagAddr, loadVar, isAgg, underlying, Tryd.underlying34, hb, Result.andThen, directN, storeVar, Value.cells, storeCells, Addr.add]
  rw [run_store Tryd.prog W ta _ _ (by rfl)]
  simp [ht, hf]

/-- errors.As(nil, target). -/
theorem as_nil (t : Value) (w : World) :
    Calls Tryd.prog 56 #[.nilIface, t] w fun e w' => e = .returned (.bool false) ∧ w' = w := by
  go_enter Tryd.func56, Tryd.ntmps56
  go_wp2
  go_ret
  exact ⟨rfl, rfl⟩

set_option maxHeartbeats 4000000 in
theorem as_number (s : ByteArray) (n : Int) (tb a : Nat) (w : World) (hv : w.cell? ⟨a, 0, none⟩ = some (.pointer (some ⟨tb, 0, none⟩))) (ho : Own w tb 1) :
    Calls Tryd.prog 75 #[.iface 83 (.agg #[.string s, .iface 34 (.int .i64 n)]), .iface 88 (.pointer (some ⟨tb, 0, none⟩)), .agg #[.pointer (some ⟨2, 88, none⟩), .pointer (some ⟨a, 0, none⟩), .int .u64 150], .iface 119 (.agg #[.pointer (some ⟨2, 34, none⟩)])] w
      fun e w' => e = .returned (.bool true) ∧ ∃ v, Below w.heap.size w v ∧ w' = v.setCell ⟨tb, 0, none⟩ (.int .i64 n) := by
  have tF := fun v w => cTypeOf 83 v w (typeOfF v w)
  have tN := fun v w => cTypeOf 34 v w (typeOfN v w)
  have aF := cAssignableF
  have aN := cAssignableN
  have nF := noAsF
  have uF := hasUnwrapF
  have hl := cell_lt hv
  have HH := Lib.hid ((Held.refl w).lay [.pointer (some ⟨2, 88, none⟩), .pointer (some ⟨a, 0, none⟩), .int .u64 150] 109)
  have HV := Lib.hid hv; clear hv
  have HO := Lib.hid ho; clear ho
  go_enter Tryd.func75, Tryd.ntmps75
  go_wp2_with fail
  refine wp_loop_rounds 2 ?_
  rw [rounds_succ]
  go_wp2_with fail
  refine (unwrap_any _ _ _).mono ?_
  rintro e w1 ⟨rfl, hb⟩
  have H1 := Lib.hid (HH.out.up hb)
  clear hb HH
  have kb := H1.out.b0.cell
  have ka := ((H1.out.below.cell (p := ⟨a, 0, none⟩) hl).trans HV.out)
  have eV := cElemV ⟨a, 0, none⟩ ⟨tb, 0, none⟩ w1 ka
  have vN := cValueOfN n w1
  obtain ⟨vs, hlen, hx⟩ := (HO.out.below H1.out.below)
  match vs, hlen with
  | [u], _ =>
    have sN := cSet ⟨tb, 0, none⟩ ⟨w1.heap.size, 0, none⟩ n u (w1.alloc (.cells #[.int .i64 n] 34)) ((Box.new w1 [.int .i64 n] 34).cell 0) ((hx.alloc _).cell 0) ((hx.alloc _).frozen 0)
    go_wp2_with fail
    rw [rounds_succ]
    go_wp2_with fail
    go_ret
    exact ⟨rfl, _, (H1.out.alloc _).below, rfl⟩

set_option maxHeartbeats 4000000 in
theorem As_number (s : ByteArray) (n : Int) (tb : Nat) (a : Addr) (w : World) (hg : Glob w a) (ho : Own w tb 1) :
    Calls Tryd.prog 56 #[.iface 83 (.agg #[.string s, .iface 34 (.int .i64 n)]), .iface 88 (.pointer (some ⟨tb, 0, none⟩))] w
      fun e w' => e = .returned (.bool true) ∧ ∃ v, Below w.heap.size w v ∧ w' = v.setCell ⟨tb, 0, none⟩ (.int .i64 n) := by
  have H0 := Lib.hid ((Held.refl w).lay [.pointer (some ⟨tb, 0, none⟩)] 88)
  have H1 := Lib.hid (H0.out.lay [.pointer (some ⟨2, 88, none⟩), .pointer (some ⟨w.heap.size, 0, none⟩), .int .u64 150] 109)
  rw [World.size_alloc] at H1
  have vP := cValueOfP ⟨tb, 0, none⟩ w
  have cT := cType
  have kP := cKindP
  have kN := cKindN
  have eE := cElem
  have iI := cImplements
  have k1 := H1.out.b1.cell 0
  have n8 := cIsNil ⟨w.heap.size, 0, none⟩ ⟨tb, 0, none⟩ _ k1
  have hg1 := (hg.up (below2 (o := .cells #[.pointer (some ⟨tb, 0, none⟩)] 88) (p := .cells #[.pointer (some ⟨2, 88, none⟩), .pointer (some ⟨w.heap.size, 0, none⟩), .int .u64 150] 109))).e1
  have HO := Lib.hid ho; clear ho
  have HG := Lib.hid hg; clear hg
  go_enter Tryd.func56, Tryd.ntmps56
  go_wp2_with fail
  refine (as_number s n tb w.heap.size _ k1 ((HO.out.below below1).below below1)).mono ?_
  rintro e w1 ⟨rfl, v, hb, rfl⟩
  go_wp2_with fail
  go_ret
  exact ⟨rfl, v, ext H1.out.below hb, rfl⟩

/-- What an error is that tells a number: nil, a fault that wraps the sentinel, or a fault that wraps the number. -/
def ErrOf (a : Addr) (v : Value) (e : Int) : Prop :=
  (e = 0 ∧ v = .nilIface) ∨ (∃ s, e = 2 ∧ v = .iface 83 (.agg #[.string s, .iface 134 (.pointer (some a))])) ∨ ∃ s, v = .iface 83 (.agg #[.string s, .iface 34 (.int .i64 e)])

set_option maxHeartbeats 1000000 in
theorem number_any (v : Value) (n : Int) (a : Addr) (w : World) (hg : Glob w a) (hv : ErrOf a v n) :
    Calls Tryd.prog 32 #[v] w fun e w' => e = .returned (.int .i64 n) ∧ Below w.heap.size w w' := by
  have h0 := (hg.up (below1 (o := .cells #[.int .i64 0] 34))).e0
  have G1 := Lib.hid (hg.up (below1 (o := .cells #[.int .i64 0] 34)))
  have H1 := Lib.hid ((Held.refl w).own [.int .i64 0] 34 (n := 1) rfl)
  clear hg
  rcases hv with ⟨rfl, rfl⟩ | ⟨s, rfl, rfl⟩ | ⟨s, rfl⟩
  · go_enter Tryd.func32, Tryd.ntmps32
    go_wp2_with fail
    refine (is_nil _ _).mono ?_
    rintro e w1 ⟨rfl, rfl⟩
    go_wp2_with fail
    refine (as_nil _ _).mono ?_
    rintro e w1 ⟨rfl, rfl⟩
    go_wp2_with fail
    go_ret
    exact ⟨rfl, H1.out.below⟩
  · go_enter Tryd.func32, Tryd.ntmps32
    go_wp2_with fail
    refine (Is_fault _ true _ _ (fun w => is_shape s a w)).mono ?_
    rintro e w1 ⟨rfl, hb⟩
    go_wp2_with fail
    go_ret
    exact ⟨rfl, ext H1.out.below hb⟩
  · go_enter Tryd.func32, Tryd.ntmps32
    go_wp2_with fail
    refine (Is_fault _ false _ _ (fun w => is_number s n a w)).mono ?_
    rintro e w1 ⟨rfl, hb⟩
    have H2 := Lib.hid (H1.out.up hb)
    have G2 := Lib.hid (G1.out.up hb)
    clear hb H1 G1 h0
    go_wp2_with fail
    refine (As_number s n w.heap.size a _ G2.out H2.out.o0).mono ?_
    rintro e w2 ⟨rfl, v, hb, rfl⟩
    have H3 := Lib.hid ((H2.out.up hb).set (b := w.heap.size) ⟨1, by simp⟩ 0 (.int .i64 n))
    obtain ⟨vs, hlen, hx⟩ := (H2.out.up hb).o0
    match vs, hlen with
    | [u], _ =>
      have k := (hx.set 0 (.int .i64 n)).cell
      clear hb H2 G2
      generalize v.setCell ⟨w.heap.size, 0, none⟩ (.int .i64 n) = v2 at *
      go_wp2_with fail
      go_ret
      exact ⟨rfl, H3.out.below⟩
end Go.Proofs.YtphlebbihfcaoaaDoor
