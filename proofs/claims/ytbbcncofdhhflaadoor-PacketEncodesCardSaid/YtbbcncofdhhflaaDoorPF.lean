/- The number of a fault of packets, by errors.As. Under: the type of errors as it is laid. -/
import Derived.Test.YtbbcncofdhhflaaDoorEA
namespace Go.Proofs.YtbbcncofdhhflaaDoor
open Go.RowKit Go.Extern.Stop Go.Stop Go.Extern

theorem pkHasUnwrap (v : Value) (xT : TypeId) (w : World) : (Instr.typeAssert (.iface 65 v) xT 101 true).run Tryd.prog w = .ok (.tuple #[.iface 65 v, .bool true]) w := run_typeAssert_hasB Tryd.underlying101 (by kernel_rfl) v xT w

theorem pkNoAs (v : Value) (xT : TypeId) (w : World) : (Instr.typeAssert (.iface 65 v) xT 98 true).run Tryd.prog w = .ok (.tuple #[.nilIface, .bool false]) w := run_typeAssert_lacksB Tryd.underlying98 (by kernel_rfl) (by kernel_rfl) v xT w

theorem pkUnwrap_any (s : ByteArray) (x : Value) (w : World) : Calls Tryd.prog 85 #[.agg #[.string s, x]] w fun e w' => e = .returned x ∧ Below w.heap.size w w' := by
  go_enter Tryd.func85, Tryd.ntmps85
  go_wp2
  go_ret
  exact ⟨rfl, below1⟩

theorem pkAssignable (w : World) : (callFunc 90 #[.agg #[.pointer (some ⟨1, 65, none⟩)], .iface 93 (.agg #[.pointer (some ⟨1, 32, none⟩)])]).run Tryd.prog w = .ok (.value (.bool false)) w := by
  rw [@run_callFunc_extern Tryd.prog 90 _ (ReflectliteType.relation "AssignableTo" ReflectliteType.assignableTo) Tryd.func90 (by kernel_rfl) (by kernel_rfl) (by kernel_rfl) (by kernel_rfl)]
  kernel_rfl

theorem pkTypeOf (v : Value) (w : World) : (Extern.ReflectliteType.typeOf #[.iface 65 v]).run Tryd.prog w = .ok (.iface 93 (.agg #[.pointer (some ⟨1, 65, none⟩)])) w := by kernel_rfl

set_option maxHeartbeats 4000000 in
theorem pk_as (s : ByteArray) (n : Int) (tb a : Nat) (w : World) (hv : w.cell? ⟨a, 0, none⟩ = some (.pointer (some ⟨tb, 0, none⟩))) (ho : Own w tb 1) :
    Calls Tryd.prog 59 #[.iface 65 (.agg #[.string s, .iface 32 (.int .i64 n)]), .iface 68 (.pointer (some ⟨tb, 0, none⟩)), .agg #[.pointer (some ⟨1, 68, none⟩), .pointer (some ⟨a, 0, none⟩), .int .u64 150], .iface 93 (.agg #[.pointer (some ⟨1, 32, none⟩)])] w
      fun e w' => e = .returned (.bool true) ∧ ∃ v, Below w.heap.size w v ∧ w' = v.setCell ⟨tb, 0, none⟩ (.int .i64 n) := by
  have tF := fun v w => cTypeOf 65 v w (pkTypeOf v w)
  have tN := fun v w => cTypeOf 32 v w (typeOfN v w)
  have aF := pkAssignable
  have aN := cAssignableN
  have nF := pkNoAs
  have uF := pkHasUnwrap
  have hl := cell_lt hv
  have HH := Lib.hid ((Held.refl w).lay [.pointer (some ⟨1, 68, none⟩), .pointer (some ⟨a, 0, none⟩), .int .u64 150] 83)
  have HV := Lib.hid hv; clear hv
  have HO := Lib.hid ho; clear ho
  go_enter Tryd.func59, Tryd.ntmps59
  go_wp2_with fail
  refine wp_loop_rounds 2 ?_
  rw [rounds_succ]
  go_wp2_with fail
  refine (pkUnwrap_any _ _ _).mono ?_
  rintro e w1 ⟨rfl, hb⟩
  have H1 := Lib.hid (HH.out.up hb)
  clear hb HH
  have kb := H1.out.b0.cell
  have ka := ((H1.out.below.cell (p := ⟨a, 0, none⟩) hl).trans HV.out)
  have eV := cElemV ⟨a, 0, none⟩ ⟨tb, 0, none⟩ w1 ka
  have vN := cValueOfN n w1
  obtain ⟨vs, hlen, hx⟩ := (HO.out.below H1.out.below)
  match vs, hlen with
  | [u], _ =>
    have sN := cSet ⟨tb, 0, none⟩ ⟨w1.heap.size, 0, none⟩ n u (w1.alloc (.cells #[.int .i64 n] 32)) ((Box.new w1 [.int .i64 n] 32).cell 0) ((hx.alloc _).cell 0) ((hx.alloc _).frozen 0)
    go_wp2_with fail
    rw [rounds_succ]
    go_wp2_with fail
    go_ret
    exact ⟨rfl, _, (H1.out.alloc _).below, rfl⟩

set_option maxHeartbeats 4000000 in
theorem pk_As (s : ByteArray) (n : Int) (tb : Nat) (w : World) (hg : Etyp w) (ho : Own w tb 1) :
    Calls Tryd.prog 45 #[.iface 65 (.agg #[.string s, .iface 32 (.int .i64 n)]), .iface 68 (.pointer (some ⟨tb, 0, none⟩))] w
      fun e w' => e = .returned (.bool true) ∧ ∃ v, Below w.heap.size w v ∧ w' = v.setCell ⟨tb, 0, none⟩ (.int .i64 n) := by
  have H0 := Lib.hid ((Held.refl w).lay [.pointer (some ⟨tb, 0, none⟩)] 68)
  have H1 := Lib.hid (H0.out.lay [.pointer (some ⟨1, 68, none⟩), .pointer (some ⟨w.heap.size, 0, none⟩), .int .u64 150] 83)
  rw [World.size_alloc] at H1
  have vP := cValueOfP ⟨tb, 0, none⟩ w
  have cT := cType
  have kP := cKindP
  have kN := cKindN
  have eE := cElem
  have iI := cImplements
  have k1 := H1.out.b1.cell 0
  have n8 := cIsNil ⟨w.heap.size, 0, none⟩ ⟨tb, 0, none⟩ _ k1
  have hg1 := (hg.up (below2 (o := .cells #[.pointer (some ⟨tb, 0, none⟩)] 68) (p := .cells #[.pointer (some ⟨1, 68, none⟩), .pointer (some ⟨w.heap.size, 0, none⟩), .int .u64 150] 83)))
  unfold Etyp at hg1
  have HO := Lib.hid ho; clear ho
  have HG := Lib.hid hg; clear hg
  go_enter Tryd.func45, Tryd.ntmps45
  go_wp2_with fail
  refine (pk_as s n tb w.heap.size _ k1 ((HO.out.below below1).below below1)).mono ?_
  rintro e w1 ⟨rfl, v, hb, rfl⟩
  go_wp2_with fail
  go_ret
  exact ⟨rfl, v, ext H1.out.below hb, rfl⟩

/-- What an error of packets is that tells a number: nil, or a fault that wraps the number. -/
def PErr (v : Value) (e : Int) : Prop := (e = 0 ∧ v = .nilIface) ∨ ∃ s, v = .iface 65 (.agg #[.string s, .iface 32 (.int .i64 e)])

set_option maxHeartbeats 1000000 in
theorem pnumber_any (v : Value) (n : Int) (w : World) (hg : Etyp w) (hv : PErr v n) :
    Calls Tryd.prog 29 #[v] w fun e w' => e = .returned (.int .i64 n) ∧ Below w.heap.size w w' := by
  have G1 := Lib.hid (hg.up (below1 (o := .cells #[.int .i64 0] 32)))
  have H1 := Lib.hid ((Held.refl w).own [.int .i64 0] 32 (n := 1) rfl)
  clear hg
  rcases hv with ⟨rfl, rfl⟩ | ⟨s, rfl⟩
  · go_enter Tryd.func29, Tryd.ntmps29
    go_wp2_with fail
    refine (as_nil _ _).mono ?_
    rintro e w1 ⟨rfl, rfl⟩
    go_wp2_with fail
    go_ret
    exact ⟨rfl, H1.out.below⟩
  · go_enter Tryd.func29, Tryd.ntmps29
    go_wp2_with fail
    refine (pk_As s n w.heap.size _ G1.out H1.out.o0).mono ?_
    rintro e w2 ⟨rfl, v, hb, rfl⟩
    have H3 := Lib.hid ((H1.out.up hb).set (b := w.heap.size) ⟨1, by simp⟩ 0 (.int .i64 n))
    obtain ⟨vs, hlen, hx⟩ := (H1.out.up hb).o0
    match vs, hlen with
    | [u], _ =>
      have k := (hx.set 0 (.int .i64 n)).cell
      clear hb H1 G1
      generalize v.setCell ⟨w.heap.size, 0, none⟩ (.int .i64 n) = v2 at *
      go_wp2_with fail
      go_ret
      exact ⟨rfl, H3.out.below⟩
end Go.Proofs.YtbbcncofdhhflaaDoor
