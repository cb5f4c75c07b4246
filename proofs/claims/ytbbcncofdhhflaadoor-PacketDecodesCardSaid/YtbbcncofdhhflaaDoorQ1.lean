/- Hellos: what a node says of itself, and whether a hello may be, on both sides; for every superblock and every hello. No other condition. -/
import Derived.Test.YtbbcncofdhhflaaDoorQ0
import Derived.Test.YtbbcncofdhhflaaDoorSB
import Derived.Test.YtbbcncofdhhflaaDoorSD
import Derived.Test.YtbbcncofdhhflaaDoorM2
namespace Go.Proofs.YtbbcncofdhhflaaDoor
open Go.RowKit

/-- What a node says of itself. -/
@[reducible] def helB (s : Sup) (x : Bool) (m : Nat) : Hel := ⟨s.n, s.c, s.b, s.o, s.p, s.i, s.r && !x, s.d, x, m⟩

theorem vr_b (c b o p : Int) (w : World) : Calls Tryd.prog 38 #[.agg #[.int .u64 c, .int .u64 b, .int .u64 o, .int .u64 p]] w fun e w' => e = .returned (.bool (!decide (c = 0))) ∧ Below w.heap.size w w' := vright_any c b o p w

theorem mr_b (m : Nat) (n : Int) (w : World) (hm : m < 4294967296) : Calls Tryd.prog 39 #[.int .u32 (m : Int), .int .i64 n] w fun e w' => e = .returned (.bool (mrightB m n)) ∧ Below w.heap.size w w' := by
  refine (mright_any m n w hm).mono ?_
  rintro e w' ⟨rfl, rfl⟩
  exact ⟨rfl, Below.refl _ _⟩

theorem rmr_b (m : Nat) (n : Int) (w : World) (hm : m < 4294967296) : Calls Tryd.prog 40 #[.int .u32 (m : Int), .int .i64 n] w fun e w' => e = .returned (.bool (mrightB m n)) ∧ Below w.heap.size w w' := by
  refine (mrright_any m n w hm).mono ?_
  rintro e w' ⟨rfl, rfl⟩
  exact ⟨rfl, Below.refl _ _⟩

set_option maxRecDepth 100000 in
set_option maxHeartbeats 4000000 in
theorem hright_any (h : Hel) (w : World) (hm : h.m < 4294967296) : Calls Tryd.prog 21 #[helV h] w fun e w' => e = .returned (.bool h.right) ∧ Below w.heap.size w w' := by
  obtain ⟨n, c, b, o, p, i, r, d, q, m⟩ := h
  unfold Hel.right
  dsimp only [helV] at *
  have hv := fun w => vr_b c b o p w
  have hr := fun w => mr_b m n w hm
  clear hm
  generalize (!decide (c = 0)) = x at *
  generalize mrightB m n = y at *
  have HV := Lib.hid hv; clear hv
  have HR := Lib.hid hr; clear hr
  have H0 := Lib.hid ((Held.refl w).lay [.int .i64 n, .int .u64 c, .int .u64 b, .int .u64 o, .int .u64 p, .bool i, .bool r, .bool d, .bool q, .int .u32 (m : Int)] 28)
  cases q
  · go_enter Tryd.func21, Tryd.ntmps21
    go_wp2_with fail
    refine (HV.out _).mono ?_
    rintro e w1 ⟨rfl, hb⟩
    have H1 := Lib.hid (H0.out.up hb)
    clear hb
    have k := H1.out.b0.cell
    cases x
    · go_wp2_with fail
      go_ret
      exact ⟨ret_bool (by simp), H1.out.below⟩
    · go_wp2_with fail
      refine (HR.out _).mono ?_
      rintro e w2 ⟨rfl, hb⟩
      have H2 := Lib.hid (H1.out.up hb)
      clear hb k
      go_wp2_with fail
      go_ret
      exact ⟨ret_bool (by simp), H2.out.below⟩
  · cases r
    · cases i
      · go_enter Tryd.func21, Tryd.ntmps21
        go_wp2_with fail
        refine (HV.out _).mono ?_
        rintro e w1 ⟨rfl, hb⟩
        have H1 := Lib.hid (H0.out.up hb)
        clear hb
        have k := H1.out.b0.cell
        cases x
        · go_wp2_with fail
          go_ret
          exact ⟨ret_bool (by simp), H1.out.below⟩
        · go_wp2_with fail
          refine (HR.out _).mono ?_
          rintro e w2 ⟨rfl, hb⟩
          have H2 := Lib.hid (H1.out.up hb)
          clear hb k
          go_wp2_with fail
          go_ret
          exact ⟨ret_bool (by simp), H2.out.below⟩
      · go_enter Tryd.func21, Tryd.ntmps21
        go_wp2_with fail
        go_ret
        exact ⟨ret_bool (by simp), H0.out.below⟩
    · go_enter Tryd.func21, Tryd.ntmps21
      go_wp2_with fail
      go_ret
      exact ⟨ret_bool (by simp), H0.out.below⟩

set_option maxRecDepth 100000 in
set_option maxHeartbeats 4000000 in
theorem rhright_any (h : Hel) (w : World) (hm : h.m < 4294967296) : Calls Tryd.prog 23 #[helV h] w fun e w' => e = .returned (.bool h.right) ∧ Below w.heap.size w w' := by
  obtain ⟨n, c, b, o, p, i, r, d, q, m⟩ := h
  unfold Hel.right
  dsimp only [helV] at *
  have hr := fun w => rmr_b m n w hm
  have hn := @mright_n m n
  clear hm
  generalize mrightB m n = y at *
  have HR := Lib.hid hr; clear hr
  have H0 := Lib.hid ((Held.refl w).lay [.int .i64 n, .int .u64 c, .int .u64 b, .int .u64 o, .int .u64 p, .bool i, .bool r, .bool d, .bool q, .int .u32 (m : Int)] 28)
  have hy : ¬ (1 ≤ n ∧ n ≤ 32) → y = false := fun h => by
    cases y
    · rfl
    · exact absurd (hn rfl) h
  clear hn
  by_cases h1 : (1 : Int) ≤ n
  · have e1 : decide ((1 : Int) ≤ n) = true := decide_eq_true h1
    by_cases h2 : n ≤ (32 : Int)
    · have e2 : decide (n ≤ (32 : Int)) = true := decide_eq_true h2
      clear hy
      by_cases c0 : c = 0
      · subst c0
        go_enter Tryd.func23, Tryd.ntmps23
        go_wp2_with fail
        go_ret
        exact ⟨ret_bool (by simp), H0.out.below⟩
      · have c1 : (c != 0) = true := bne_iff_ne.2 c0
        have c2 : (c == 0) = false := beq_eq_false_iff_ne.2 c0
        go_enter Tryd.func23, Tryd.ntmps23
        go_wp2_with fail
        refine (HR.out _).mono ?_
        rintro e w1 ⟨rfl, hb⟩
        have H1 := Lib.hid (H0.out.up hb)
        clear hb
        have k := H1.out.b0.cell
        cases y
        · go_wp2_with fail
          go_ret
          exact ⟨ret_bool (by simp [c0]), H1.out.below⟩
        · cases q
          · go_wp2_with fail
            go_ret
            exact ⟨ret_bool (by simp [c0]), H1.out.below⟩
          · cases r
            · cases i
              · go_wp2_with fail
                go_ret
                exact ⟨ret_bool (by simp [c0]), H1.out.below⟩
              · go_wp2_with fail
                go_ret
                exact ⟨ret_bool (by simp [c0]), H1.out.below⟩
            · go_wp2_with fail
              go_ret
              exact ⟨ret_bool (by simp [c0]), H1.out.below⟩
    · have e2 : decide (n ≤ (32 : Int)) = false := decide_eq_false h2
      obtain rfl := hy (fun h => h2 h.2)
      clear hy
      go_enter Tryd.func23, Tryd.ntmps23
      go_wp2_with fail
      go_ret
      exact ⟨ret_bool (by simp), H0.out.below⟩
  · have e1 : decide ((1 : Int) ≤ n) = false := decide_eq_false h1
    obtain rfl := hy (fun h => h1 h.1)
    clear hy
    go_enter Tryd.func23, Tryd.ntmps23
    go_wp2_with fail
    go_ret
    exact ⟨ret_bool (by simp), H0.out.below⟩

end Go.Proofs.YtbbcncofdhhflaaDoor
