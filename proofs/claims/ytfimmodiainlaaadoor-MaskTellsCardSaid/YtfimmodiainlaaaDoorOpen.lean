/- How a slice of numbers that comes in is opened: nil or not, it reads as a list of numbers of its kind; and what the listed variable holds when the call begins: the table of the lowest bits. No condition. -/
import Derived.Test.YtfimmodiainlaaaDoorM9
import Derived.Test.YtfimmodiainlaaaDoorLaw
import Derived.LaidMore
import Derived.OpenShut
import Derived.Stop.Joined
import Derived.ChangeSlices
namespace Go.Proofs.YtfimmodiainlaaaDoor
open Go.ChangeShapes Go.WideShapes Go.ChangeAt Go.RowKit

theorem cells3 : Tryd.prog.cellsOf 3 = 1 := by kernel_rfl
theorem cells22 : Tryd.prog.cellsOf 22 = 1 := by kernel_rfl

theorem open_cs {H : Type} {enc : TypeId × Value → H} {W : World} {r : Reach} {base : Nat} {v : Value} {d : DataW H} {ps : List MemPlace} {t e : TypeId} {k : IntKind} (ht : Tryd.prog.underlying t = some (.slice e)) (he : Tryd.prog.underlying e = some (.int k)) (hce : Tryd.prog.cellsOf e = 1)
    (hval : Value.okWide Tryd.prog W r base t v) (h : DataW.Trod enc Tryd.prog W 0 (fun _ => true) true t v d ps) :
    ∃ A c l, v = .slice A (l : List Int).length c ∧ (A = none → c = 0) ∧ Cs k W W.heap.size A l ∧ ∀ x ∈ l, (Lit.int k x).wf = true := by
  obtain ⟨a0, len, cap, rfl⟩ := okWide_slice ht hval
  obtain ⟨fuel, hf⟩ := h
  rcases Go.ChangeShapes.open_ints ht he hce hf with ⟨hcs, hx⟩ | ⟨a, len', cap', zs, hcs, _, hl, hm, hzl, hx, hcell, hwf⟩
  · have e : (.slice a0 len cap : Value) = .slice none 0 0 := by simpa [Value.cells] using hcs
    injection e with e1 e2 e3
    subst e1; subst e2; subst e3
    exact ⟨none, 0, [], rfl, fun _ => rfl, cs_nil _ _ _ _, by simp⟩
  · have e : (.slice a0 len cap : Value) = .slice (some a) len' cap' := by simpa [Value.cells] using hcs
    injection e with e1 e2 e3
    subst e1; subst e2; subst e3
    have hzl' : zs.length = cap := by simpa using hzl
    refine ⟨some a, cap, zs.take len, by rw [List.length_take, hzl', Nat.min_eq_left hl], (fun q => by cases q), ?_, fun x hx => hwf x (List.mem_of_mem_take hx)⟩
    intro j x hj
    obtain ⟨hjl, hjx⟩ := List.getElem?_eq_some_iff.1 hj
    rw [List.length_take, hzl', Nat.min_eq_left hl] at hjl
    have hc := hcell j (by omega)
    have hb := World.block_lt_of_cell? W (a.add j) hc
    have he : (a.add j).block = a.block := by unfold Addr.add; split <;> rfl
    rw [he] at hb
    refine ⟨a, rfl, hb, ?_⟩
    rw [hc]
    have : zs.getD j 0 = x := by
      rw [List.getElem_take] at hjx
      rw [List.getD, List.getElem?_eq_getElem (by omega), hjx]; rfl
    rw [this]

theorem open_u32s (l : List Int) (h : ∀ x ∈ l, (Lit.int .u32 x).wf = true) : ∃ k : List Nat, l = (k.map fun (x : Nat) => (x : Int)) ∧ ∀ x ∈ k, x < 4294967296 := by
  have hb : ∀ x ∈ l, 0 ≤ x ∧ x < 4294967296 := fun x hx => by have := bounds_u32 (h x hx); omega
  refine ⟨l.map Int.toNat, ?_, ?_⟩
  · rw [List.map_map]
    apply List.ext_getElem?
    intro j
    rw [List.getElem?_map]
    cases hj : l[j]? with
    | none => rfl
    | some x =>
      have := hb x (List.mem_of_getElem? hj)
      simp; omega
  · intro x hx
    obtain ⟨y, hy, rfl⟩ := List.mem_map.1 hx
    have := hb y hy
    omega

abbrev laid1 : List (String × DataW Unit) := [("math/bits.deBruijn32tab", Rows.laid_math_bits_deBruijn32tab)]
theorem gTab : Tryd.prog.globalNamed "math/bits.deBruijn32tab" = some 0 := by kernel_rfl
theorem tTab : (Tryd.prog.globals[0]?).map (·.type) = some 41 := by kernel_rfl
theorem cells5 : Tryd.prog.cellsOf 5 = 1 := by kernel_rfl
theorem cells41 : Tryd.prog.cellsOf 41 = 32 := by kernel_rfl
def tabZ : List Int := Lib.deBruijn32tab.map fun (n : Nat) => (n : Int)
theorem tabZ_at : ∀ j : Fin 32, tabZ.getD j.val 0 = ((Lib.deBruijn32tab.getD j.val 0 : Nat) : Int) := by decide +kernel

/-- The door's own heap meets the condition: three closed facts. -/
theorem door_met (os : Os) (args : Array Value) : laidMetH Tryd.prog laid1 ((World.doorLaid Tryd.prog 14 os).forCall (fun _ _ => 0) ⟨#[], args, []⟩).memory :=
  laidMetH_of_parts3 (fuel := 8) (laidMet_of_run' 8 (by kernel_rfl) (by kernel_rfl)) (by kernel_rfl) (by kernel_rfl)

theorem tab_of {W : World} (h : laidMetH Tryd.prog laid1 W) : Tab W := by
  rw [MakeChecks.laidMetH_plain _ _ _ (by kernel_rfl)] at h
  have h2 : laidMet Tryd.prog [("math/bits.deBruijn32tab", Lib.tabData .u8 tabZ)] W := h
  have hT := Lib.tabIs_of_head gTab tTab Tryd.underlying41 Tryd.underlying5 cells5 cells41 h2
  intro j hj
  have := hT.cell gTab j (by simpa [tabZ, Lib.deBruijn32tab] using hj)
  rw [this, tabZ_at ⟨j, hj⟩]
end Go.Proofs.YtfimmodiainlaaaDoor
