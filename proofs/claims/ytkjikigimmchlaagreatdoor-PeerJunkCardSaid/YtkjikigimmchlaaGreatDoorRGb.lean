/- Rule: which blocks a verdict copies, on the document's side; for numbers of blocks that may be. -/
import Derived.Deep.MidRow
import Derived.Test.YtkjikigimmchlaaGreatDoorKA
import Derived.Test.YtkjikigimmchlaaGreatDoorRF
import Derived.Test.YtkjikigimmchlaaGreatDoorKM
namespace Go.Proofs.YtkjikigimmchlaaGreatDoor
open Go.RowKit
theorem Held.fresh {W0 w : World} {L : List (Nat × List Value)} {M : List (Nat × Nat)} (h : Held W0 L M w) : ∀ y ∈ M, w.heap.size ≠ y.1 := fun y hy => by
  have := (h.owns y hy).lt
  omega
theorem Held.cell0 {W0 w : World} {b : Nat} {vs : List Value} {L : List (Nat × List Value)} {M : List (Nat × Nat)} (h : Held W0 ((b, vs) :: L) M w) (hb : W0.heap.size ≤ b) (hL : ∀ x ∈ L, x.1 ≠ b) (j : Nat) (v : Value) : Held W0 ((b, vs.set j v) :: L) M (w.setCell ⟨b, j, none⟩ v) :=
  ⟨h.below.setCell (p := ⟨b, j, none⟩) hb v, Boxs.cons (h.boxs.hd.set j v) (fun x hx => (h.boxs.tl x hx).other (hL x hx) v), fun y hy => (h.owns y hy).set b j v, h.high, fun x hx y hy => by
    rcases List.mem_cons.1 hx with rfl | hx
    · exact h.apart (b, vs) (by simp) y hy
    · exact h.apart x (List.mem_cons_of_mem _ hx) y hy⟩
end Go.Proofs.YtkjikigimmchlaaGreatDoor
namespace Go.Proofs.YtkjikigimmchlaaGreatDoor
open Go.RowKit
def over : List Value → Nat → List Value → List Value
  | us, _, [] => us
  | us, o, v :: r => over (us.set o v) (o + 1) r
theorem Held.fill {W0 : World} {b : Nat} {L : List (Nat × List Value)} {M : List (Nat × Nat)} (hb : W0.heap.size ≤ b) (hL : ∀ x ∈ L, x.1 ≠ b) :
    ∀ (vs us : List Value) (o : Nat) (w : World), Held W0 ((b, us) :: L) M w → Held W0 ((b, over us o vs) :: L) M (w.setCells b o vs)
  | [], _, _, _, h => h
  | v :: r, us, o, w, h => by
    rw [World.setCells]
    exact Held.fill hb hL r (us.set o v) (o + 1) _ (h.cell0 hb hL o v)
end Go.Proofs.YtkjikigimmchlaaGreatDoor
namespace Go.Proofs.YtkjikigimmchlaaGreatDoor
open Go.RowKit
theorem es_one32 (w : World) (l : List Nat) (t : TypeId) : Cs .u32 (w.alloc (.cells ((l.map fun (x : Nat) => (x : Int)).map (Value.int .u32)).toArray t)) (w.alloc (.cells ((l.map fun (x : Nat) => (x : Int)).map (Value.int .u32)).toArray t)).heap.size (some ⟨w.heap.size, 0, none⟩) (l.map fun (x : Nat) => (x : Int)) := by
  rw [World.size_alloc]; exact cs_new _ _ _ _
theorem runion_two (m m2 : Nat) (hm : m < 4294967296) (hm2 : m2 < 4294967296) (W : World) (A : Option Addr) (h : Cs .u32 W W.heap.size A [(m : Int), (m2 : Int)]) : Calls Tryz.prog 239 #[.slice A 2 2] W fun e w' => e = .returned (.int .u32 ((uniB [m, m2] : Nat) : Int)) ∧ Below W.heap.size W w' :=
  runion_any A 2 [m, m2] W h (by simp [hm, hm2]) (by simp [maxLen])
set_option maxRecDepth 100000 in
set_option maxHeartbeats 4000000 in
theorem rbits_any (k s : Int) (x y : Hel) (w : World) (hm : x.m < 4294967296) (hm2 : y.m < 4294967296) (hn : 1 ≤ x.n ∧ x.n ≤ 32) : Calls Tryz.prog 238 #[verV k s, helV x, helV y] w fun e w' => e = .returned (.int .u32 ((bitsB k x y : Nat) : Int)) ∧ Below w.heap.size w w' := by
  obtain ⟨n, c, b, o, p, i, r, d, q, m⟩ := x
  obtain ⟨n2, c2, b2, o2, p2, i2, r2, d2, q2, m2⟩ := y
  unfold bitsB
  dsimp only [helV] at *
  have H0 := (((Held.refl w).lay [.int .i64 k, .int .i64 s] 138).lay [.int .i64 n, .int .u64 c, .int .u64 b, .int .u64 o, .int .u64 p, .bool i, .bool r, .bool d, .bool q, .int .u32 (m : Int)] 41).lay [.int .i64 n2, .int .u64 c2, .int .u64 b2, .int .u64 o2, .int .u64 p2, .bool i2, .bool r2, .bool d2, .bool q2, .int .u32 (m2 : Int)] 41
  simp only [World.size_alloc] at H0
  replace H0 := Lib.hid H0
  have hu := fun W A h => runion_two m m2 hm hm2 W A h
  have HU := Lib.hid hu; clear hu
  have ha := fun w => rall_any n w
  have HA := Lib.hid ha; clear ha
  generalize allB n = z at *
  by_cases h2 : k = 2
  · subst h2
    have hE := es_one32 ((((w.alloc (.cells #[.int .i64 2, .int .i64 s] 138)).alloc (.cells #[.int .i64 n, .int .u64 c, .int .u64 b, .int .u64 o, .int .u64 p, .bool i, .bool r, .bool d, .bool q, .int .u32 (m : Int)] 41)).alloc (.cells #[.int .i64 n2, .int .u64 c2, .int .u64 b2, .int .u64 o2, .int .u64 p2, .bool i2, .bool r2, .bool d2, .bool q2, .int .u32 (m2 : Int)] 41))) [m, m2] 37
    have HE := Lib.hid hE; clear hE
    go_enter Tryz.func238, Tryz.ntmps238
    go_wp2_with fail
    refine (HU.out _ _ ?_).mono ?_
    · simpa only [World.size_alloc, List.map_cons, List.map_nil] using HE.out
    rintro e w1 ⟨rfl, hb⟩
    have H1 := Lib.hid ((H0.out.lay [.int .u32 (m : Int), .int .u32 (m2 : Int)] 37).up hb)
    clear hb H0 HE HU
    go_wp2_with fail
    go_ret
    exact ⟨ret_int (by simp [uniB]), H1.out.below⟩
  · have e2 : (k == 2) = false := beq_eq_false_iff_ne.2 h2
    by_cases h3 : k = 3
    · subst h3
      go_enter Tryz.func238, Tryz.ntmps238
      go_wp2_with fail
      refine (HA.out _).mono ?_
      rintro e w1 ⟨rfl, rfl⟩
      go_wp2_with fail
      go_ret
      exact ⟨ret_int (by simp), H0.out.below⟩
    · have e3 : (k == 3) = false := beq_eq_false_iff_ne.2 h3
      go_enter Tryz.func238, Tryz.ntmps238
      go_wp2_with fail
      go_ret
      exact ⟨ret_int (by simp), H0.out.below⟩
end Go.Proofs.YtkjikigimmchlaaGreatDoor
