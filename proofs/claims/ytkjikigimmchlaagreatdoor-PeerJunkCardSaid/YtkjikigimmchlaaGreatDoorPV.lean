/- Calls carried out plainly: which types locals have, and the steps that every text of this kind takes. No condition. -/
import Derived.Test.YtkjikigimmchlaaGreatDoorPX
import Derived.Test.YtkjikigimmchlaaGreatDoorKA
namespace Go.Proofs.YtkjikigimmchlaaGreatDoor
open Go.RowKit PX
def grF : List Nat := [94, 48, 75, 82, 119, 77, 79, 120, 117, 17,
  999000000, 999000000, 999000000, 999000000, 999000000, 999000000,
  999000000, 999000000, 999000000, 76, 999000000, 999000000, 74, 80, 125, 112, 67, 70, 73, 72, 115,
  18, 36, 46, 47, 49]
def tyO : List Nat := [45, 276]
def tyL (T : TypeId) : Bool := cond (Nat.blt T 1000000) (!(Nat.beq T 9 || (Nat.beq T 151 || (Nat.beq T 31 || (Nat.beq T 112 || (Nat.beq T 59 || (Nat.beq T 4 || (Nat.beq T 3 || (Nat.beq T 37 || tyO.any fun f => Nat.beq T f))))))))) (grF.any fun f => Nat.beq T (f + 1000000))
theorem cell_of {w w' : World} {a p : Addr} (hp : p.block = a.block) (h : w'.heap[a.block]? = w.heap[a.block]?) : w'.cell? p = w.cell? p := World.cell?_of_block (w := w) (by rw [hp]; exact h)
theorem addr_block (a : Addr) (n : Nat) : (a.add n).block = a.block := by unfold Addr.add; split <;> rfl
theorem add_pos (p : Addr) {i : Nat} (h : 0 < i) : p.add i = ⟨p.block, p.off + i, none⟩ := by unfold Addr.add; rw [if_neg (by omega)]
theorem st_p {ap : TypeId → Bool} (_p : Prop) : Stab ap (fun _ => _p) := fun _ _ _ h => h
set_option maxRecDepth 100000
theorem run {f : FuncId} {args : Array Value} {w : World} {R' : Ending → World → Prop} {K : World → Prop} (hs : Stab tyL K) (hK : K w) (h : OK ⟨Tryz.prog, tyL, w, [], []⟩ (fun v _ u => R' (.returned v) u) (tree ⟨Tryz.prog, tyL, w, [], []⟩ 0 f args.toList) K) : Calls Tryz.prog f args w R' := run_ok rfl hs hK h
section
variable {w : World} {F : Value → S → World → Prop} {R' : Ending → World → Prop} {K : World → Prop} {t : Tree} {f : FuncId} {args : Array Value}
theorem base_size {bo rows : List Nat} {u : World} (h : (⟨Tryz.prog, tyL, w, bo, rows⟩ : Cx).base u) : w.heap.size ≤ u.heap.size := h.2.2.2.1
theorem base_below {u : World} (h : (⟨Tryz.prog, tyL, w, [], []⟩ : Cx).base u) : Below w.heap.size w u := But.below h
theorem t_v {bo rows : List Nat} {v : Value} (hc : ∀ u, K u → Calls Tryz.prog f args u fun e u' => e = .returned v ∧ Below u.heap.size u u') (h : OK ⟨Tryz.prog, tyL, w, bo, rows⟩ F (t.nv v) K) (hd : t.hd = .call (.fn f) args.toList := by kernel_rfl) : OK ⟨Tryz.prog, tyL, w, bo, rows⟩ F t K :=
  t_call (fun u hu _ => hc u hu) (fun u e u' hu hb hr => ⟨v, fun _ => True, hr.1, hr.2, st_p _, trivial, by simpa using h⟩) hd
theorem e_v (v : Value) (h : ∀ u, K u → Below w.heap.size w u → R' (.returned v) u) (hd : t.hd = .ret v := by kernel_rfl) : OK ⟨Tryz.prog, tyL, w, [], []⟩ (fun v _ u => R' (.returned v) u) t K := t_ret v (fun u hu hb _ => h u hu (base_below hb)) hd
end
theorem run_v {f : FuncId} {args : Array Value} {w : World} {v : Value} (h : OK ⟨Tryz.prog, tyL, w, [], []⟩ (fun x _ u => Ending.returned x = .returned v ∧ Below w.heap.size w u) (tree ⟨Tryz.prog, tyL, w, [], []⟩ 0 f args.toList) fun _ => True) : Calls Tryz.prog f args w fun e w' => e = .returned v ∧ Below w.heap.size w w' := run (st_p _) trivial h
theorem e_r {w : World} {v : Value} {K : World → Prop} {t : Tree} (hd : t.hd = .ret v := by kernel_rfl) : OK ⟨Tryz.prog, tyL, w, [], []⟩ (fun x _ u => Ending.returned x = .returned v ∧ Below w.heap.size w u) t K := t_ret v (fun _ _ hb _ => ⟨rfl, base_below hb⟩) hd
theorem e_r2 {w : World} {v : Value} (x : Value) {K : World → Prop} {t : Tree} (hx : x = v) (hd : t.hd = .ret x := by kernel_rfl) : OK ⟨Tryz.prog, tyL, w, [], []⟩ (fun x _ u => Ending.returned x = .returned v ∧ Below w.heap.size w u) t K := t_ret x (fun _ _ hb _ => ⟨by rw [hx], base_below hb⟩) hd
theorem reads1 {u : World} {ty : TypeId} {p : Addr} {v : Value} (ha : pureRun Tryz.prog (isAgg ty) = some false) (hc : u.cell? p = some v) : Reads Tryz.prog u ty p v := by
  unfold Reads loadVar
  rw [Sem.run_bind, pureRun_run ha u, Result.andThen_ok]
  simp [load, Sem.run, hc]
theorem wrap_i64 {x : Int} (h0 : -9223372036854775808 ≤ x) (h1 : x < 9223372036854775808) : IntKind.i64.wrap x = x := by
  simp only [IntKind.wrap, IntKind.bits, IntKind.signed]
  simp
  omega
theorem readsC {u : World} {ty : TypeId} {p : Addr} {d : TypeDesc} (cs : List Value) (hc : ∀ j v, cs[j]? = some v → u.cell? (p.add j) = some v) (hu : Tryz.prog.underlying ty = some d) (hd : d.isRow = true) (hi : (Tryz.prog.info? ty).map (·.size) = some cs.length) : Reads Tryz.prog u ty p (.agg cs.toArray) := by
  have hl : (loadCells p cs.length).run Tryz.prog u = .ok cs.toArray u := run_loadCells_list (P := Tryz.prog) u p cs hc
  cases hq : Tryz.prog.info? ty with
  | none => simp [hq] at hi
  | some i =>
    have hs : i.size = cs.length := by simpa [hq] using hi
    have hagg : (isAgg ty).run Tryz.prog u = .ok true u := by
      unfold isAgg
      rw [Sem.run_bind, run_underlying hu u]
      cases d <;> simp_all
    unfold Reads
    simp [loadVar, Sem.run_bind, hagg, sizeOf, typeInfo, hq, hs, hl]
theorem cat_ok {n : Nat} (h : n ≤ 1000000) : ¬ ((n : Nat) : Int) > IntKind.i64.max := by
  have : IntKind.i64.max = 9223372036854775807 := by decide
  omega
theorem t_cat {w : World} {bo rows : List Nat} {F : Value → S → World → Prop} {K : World → Prop} {t : Tree} (a b : ByteArray) (hs : a.size + b.size ≤ 1000000) (h : OK ⟨Tryz.prog, tyL, w, bo, rows⟩ F t.nx K) (hd : t.hd = .ck (¬ ((a.size + b.size : Nat) : Int) > IntKind.i64.max) := by kernel_rfl) : OK ⟨Tryz.prog, tyL, w, bo, rows⟩ F t K :=
  t_ck (cat_ok hs) h hd
end Go.Proofs.YtkjikigimmchlaaGreatDoor
