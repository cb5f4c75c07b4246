/- Vectors: what a mint and a retirement make, on both sides, for every vector and every generation. No other condition. -/
import Derived.Test.YtjdcpcfjekfdeaaV1
namespace Go.Proofs.Ytjdcpcfjekfdeaa
open Go.RowKit

theorem ne0 {g : Int} (h : ¬ g = 0) : (g == 0) = false := beq_eq_false_iff_ne.2 h

set_option maxHeartbeats 1000000 in
theorem retire_any (c b o p : Int) (w : World) :
    Calls Try.prog 28 #[vecV c b o p] w fun e w' => e = .returned (vecV c 0 (retO b o) (retP b o p)) ∧ Below w.heap.size w w' := by
  unfold retO retP
  by_cases hb : b = 0
  · subst hb
    go_enter Try.func28, Try.ntmps28
    go_wp2
    refine bodyPost_ret (v := vecV c 0 o p) (by simp [results, Try.results28, go_sem]) rfl ⟨rfl, ?_⟩
    exact ext_alloc (ext_alloc (Below.refl _ _) _) _
  · simp only [if_neg hb]
    have hb2 := ne0 hb
    clear hb
    go_enter Try.func28, Try.ntmps28
    go_wp2_with fail
    have hx1 := Lib.hid ((Box.new w [.int .u64 c, .int .u64 b, .int .u64 o, .int .u64 p] 25).alloc (.cells #[.int .u64 0, .int .u64 0, .int .u64 0, .int .u64 0] 25))
    have hx2 := Lib.hid (Box.new2 w (.cells #[.int .u64 c, .int .u64 b, .int .u64 o, .int .u64 p] 25) [.int .u64 0, .int .u64 0, .int .u64 0, .int .u64 0] 25)
    refine (elder_any o p b _).mono ?_
    rintro e w1 ⟨rfl, hb1⟩
    have HB := Lib.hid hb1
    have X1 := hx1.out.below hb1
    have X2 := hx2.out.below hb1
    clear hb1 hx1 hx2
    have c1 := X1.cell
    have c2 := X2.cell
    have f1 := X1.frozen
    have f2 := X2.frozen
    clear X1 X2
    go_wp2_with fail
    refine bodyPost_ret (v := vecV c 0 b o) (by simp [results, Try.results28, go_sem, c2]) rfl ⟨rfl, ?_⟩
    exact below4 ((((ext below2 HB.out).setCell (p := ⟨w.heap.size, 2, none⟩) (Nat.le_refl _) _).setCell (p := ⟨w.heap.size, 3, none⟩) (Nat.le_refl _) _).setCell (p := ⟨w.heap.size, 1, none⟩) (Nat.le_refl _) _) (by omega) _ _ _ _

set_option maxHeartbeats 1000000 in
theorem rretire_any (c b o p : Int) (w : World) :
    Calls Try.prog 29 #[vecV c b o p] w fun e w' => e = .returned (vecV c 0 (retO b o) (retP b o p)) ∧ Below w.heap.size w w' := by
  unfold retO retP
  by_cases hb : b = 0
  · subst hb
    go_enter Try.func29, Try.ntmps29
    go_wp2
    refine bodyPost_ret (v := vecV c 0 o p) (by simp [results, Try.results29, go_sem]) rfl ⟨rfl, ?_⟩
    exact ext_alloc (ext_alloc (Below.refl _ _) _) _
  · simp only [if_neg hb]
    have hb2 := ne0 hb
    clear hb
    go_enter Try.func29, Try.ntmps29
    go_wp2
    refine bodyPost_ret (v := vecV c 0 b o) (by simp [results, Try.results29, go_sem]) rfl ⟨rfl, ?_⟩
    exact ext_alloc (ext_alloc (Below.refl _ _) _) _
end Go.Proofs.Ytjdcpcfjekfdeaa
