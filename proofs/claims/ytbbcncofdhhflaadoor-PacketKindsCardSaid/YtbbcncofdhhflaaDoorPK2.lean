/- Packets: whether one may be, by the document; for every packet. No other condition but the width of the mask. -/
import Derived.Test.YtbbcncofdhhflaaDoorPK1
namespace Go.Proofs.YtbbcncofdhhflaaDoor
open Go.RowKit

set_option maxRecDepth 100000 in
set_option maxHeartbeats 4000000 in
theorem rpr_low (k s n c b o p : Int) (i r d q : Bool) (m : Nat) (z : Int) (t : ByteArray) (w : World) (h : k < 1) : Calls Tryd.prog 11 #[.agg #[.int .i64 k, .int .u64 s, .int .i64 n, .int .u64 c, .int .u64 b, .int .u64 o, .int .u64 p, .bool i, .bool r, .bool d, .bool q, .int .u32 (m : Int), .int .i64 z, .string t]] w fun e w' => e = .returned (.bool false) ∧ Below w.heap.size w w' := by
  have e1 : decide (k < 1) = true := decide_eq_true h
  have H0 := Lib.hid ((Held.refl w).lay [.int .i64 k, .int .u64 s, .int .i64 n, .int .u64 c, .int .u64 b, .int .u64 o, .int .u64 p, .bool i, .bool r, .bool d, .bool q, .int .u32 (m : Int), .int .i64 z, .string t] 30)
  have k0 := H0.out.b0.cell
  go_enter Tryd.func11, Tryd.ntmps11
  go_wp2_with fail
  go_ret
  exact ⟨rfl, H0.out.below⟩

set_option maxRecDepth 100000 in
set_option maxHeartbeats 4000000 in
theorem rpr_high (k s n c b o p : Int) (i r d q : Bool) (m : Nat) (z : Int) (t : ByteArray) (w : World) (h : 13 < k) : Calls Tryd.prog 11 #[.agg #[.int .i64 k, .int .u64 s, .int .i64 n, .int .u64 c, .int .u64 b, .int .u64 o, .int .u64 p, .bool i, .bool r, .bool d, .bool q, .int .u32 (m : Int), .int .i64 z, .string t]] w fun e w' => e = .returned (.bool false) ∧ Below w.heap.size w w' := by
  have e1 : decide (k < 1) = false := decide_eq_false (by omega)
  have e2 : decide (13 < k) = true := decide_eq_true h
  have H0 := Lib.hid ((Held.refl w).lay [.int .i64 k, .int .u64 s, .int .i64 n, .int .u64 c, .int .u64 b, .int .u64 o, .int .u64 p, .bool i, .bool r, .bool d, .bool q, .int .u32 (m : Int), .int .i64 z, .string t] 30)
  have k0 := H0.out.b0.cell
  go_enter Tryd.func11, Tryd.ntmps11
  go_wp2_with fail
  go_ret
  exact ⟨rfl, H0.out.below⟩

theorem nil_size (t : ByteArray) : (t.toList == ([] : List UInt8)) = decide (t.size = 0) := by
  rw [ByteArray.toList_eq, Bool.beq_eq_decide_eq, decide_eq_decide]
  constructor
  · intro h
    have : t.data.toList.length = 0 := by rw [h]; rfl
    exact this
  · intro h
    exact List.eq_nil_of_length_eq_zero h
theorem size_eight (t : ByteArray) : ((t.size : Int) == 8) = decide (t.size = 8) := by
  rw [Bool.beq_eq_decide_eq, decide_eq_decide]
  omega

set_option maxRecDepth 100000 in
set_option maxHeartbeats 4000000 in
theorem rpr_one_a (s n c b o p : Int) (i r d q : Bool) (m : Nat) (z : Int) (t : ByteArray) (w : World) (hm : m < 4294967296) (hg : Hel.right ⟨n, c, b, o, p, i, r, d, q, m⟩ = false) : Calls Tryd.prog 11 #[.agg #[.int .i64 1, .int .u64 s, .int .i64 n, .int .u64 c, .int .u64 b, .int .u64 o, .int .u64 p, .bool i, .bool r, .bool d, .bool q, .int .u32 (m : Int), .int .i64 z, .string t]] w fun e w' => e = .returned (.bool (false)) ∧ Below w.heap.size w w' := by
  have hr := fun w => rhright_any ⟨n, c, b, o, p, i, r, d, q, m⟩ w hm
  rw [hg] at hr
  have HR := Lib.hid hr; clear hr hg
  clear hm
  have H0 := Lib.hid ((Held.refl w).lay [.int .i64 1, .int .u64 s, .int .i64 n, .int .u64 c, .int .u64 b, .int .u64 o, .int .u64 p, .bool i, .bool r, .bool d, .bool q, .int .u32 (m : Int), .int .i64 z, .string t] 30)
  have k0 := H0.out.b0.cell
  go_enter Tryd.func11, Tryd.ntmps11
  go_wp2_with fail
  refine (HR.out _).mono ?_
  rintro e w1 ⟨rfl, hb⟩
  have H1 := Lib.hid (H0.out.up hb)
  clear hb
  have k0 := H1.out.b0.cell
  go_wp2_with fail
  all_goals
    go_ret
    exact ⟨rfl, H1.out.below⟩

set_option maxRecDepth 100000 in
set_option maxHeartbeats 4000000 in
theorem rpr_one_b (s n c b o p : Int) (i r d q : Bool) (m : Nat) (z : Int) (t : ByteArray) (w : World) (hm : m < 4294967296) (hg : Hel.right ⟨n, c, b, o, p, i, r, d, q, m⟩ = true) (hz : z < 0) : Calls Tryd.prog 11 #[.agg #[.int .i64 1, .int .u64 s, .int .i64 n, .int .u64 c, .int .u64 b, .int .u64 o, .int .u64 p, .bool i, .bool r, .bool d, .bool q, .int .u32 (m : Int), .int .i64 z, .string t]] w fun e w' => e = .returned (.bool (false)) ∧ Below w.heap.size w w' := by
  have hr := fun w => rhright_any ⟨n, c, b, o, p, i, r, d, q, m⟩ w hm
  rw [hg] at hr
  have HR := Lib.hid hr; clear hr hg
  have f1 : decide (z < 0) = true := decide_eq_true hz
  clear hm hz
  have H0 := Lib.hid ((Held.refl w).lay [.int .i64 1, .int .u64 s, .int .i64 n, .int .u64 c, .int .u64 b, .int .u64 o, .int .u64 p, .bool i, .bool r, .bool d, .bool q, .int .u32 (m : Int), .int .i64 z, .string t] 30)
  have k0 := H0.out.b0.cell
  go_enter Tryd.func11, Tryd.ntmps11
  go_wp2_with fail
  refine (HR.out _).mono ?_
  rintro e w1 ⟨rfl, hb⟩
  have H1 := Lib.hid (H0.out.up hb)
  clear hb
  have k0 := H1.out.b0.cell
  go_wp2_with fail
  all_goals
    go_ret
    exact ⟨rfl, H1.out.below⟩

set_option maxRecDepth 100000 in
set_option maxHeartbeats 4000000 in
theorem rpr_one_c (s n c b o p : Int) (i r d q : Bool) (m : Nat) (z : Int) (t : ByteArray) (w : World) (hm : m < 4294967296) (hg : Hel.right ⟨n, c, b, o, p, i, r, d, q, m⟩ = true) (hy : 31 < z) : Calls Tryd.prog 11 #[.agg #[.int .i64 1, .int .u64 s, .int .i64 n, .int .u64 c, .int .u64 b, .int .u64 o, .int .u64 p, .bool i, .bool r, .bool d, .bool q, .int .u32 (m : Int), .int .i64 z, .string t]] w fun e w' => e = .returned (.bool (false)) ∧ Below w.heap.size w w' := by
  have hr := fun w => rhright_any ⟨n, c, b, o, p, i, r, d, q, m⟩ w hm
  rw [hg] at hr
  have HR := Lib.hid hr; clear hr hg
  have f1 : decide (z < 0) = false := decide_eq_false (by omega)
  have f2 : decide (31 < z) = true := decide_eq_true hy
  clear hm hy
  have H0 := Lib.hid ((Held.refl w).lay [.int .i64 1, .int .u64 s, .int .i64 n, .int .u64 c, .int .u64 b, .int .u64 o, .int .u64 p, .bool i, .bool r, .bool d, .bool q, .int .u32 (m : Int), .int .i64 z, .string t] 30)
  have k0 := H0.out.b0.cell
  go_enter Tryd.func11, Tryd.ntmps11
  go_wp2_with fail
  refine (HR.out _).mono ?_
  rintro e w1 ⟨rfl, hb⟩
  have H1 := Lib.hid (H0.out.up hb)
  clear hb
  have k0 := H1.out.b0.cell
  go_wp2_with fail
  all_goals
    go_ret
    exact ⟨rfl, H1.out.below⟩

set_option maxRecDepth 100000 in
set_option maxHeartbeats 4000000 in
theorem rpr_one_d (s n c b o p : Int) (i r d q : Bool) (m : Nat) (z : Int) (t : ByteArray) (w : World) (hm : m < 4294967296) (hg : Hel.right ⟨n, c, b, o, p, i, r, d, q, m⟩ = true) (hz : 0 ≤ z) (hy : z ≤ 31) (hk : blockK 1 = false) (hn : z ≠ 0) : Calls Tryd.prog 11 #[.agg #[.int .i64 1, .int .u64 s, .int .i64 n, .int .u64 c, .int .u64 b, .int .u64 o, .int .u64 p, .bool i, .bool r, .bool d, .bool q, .int .u32 (m : Int), .int .i64 z, .string t]] w fun e w' => e = .returned (.bool (false)) ∧ Below w.heap.size w w' := by
  have hr := fun w => rhright_any ⟨n, c, b, o, p, i, r, d, q, m⟩ w hm
  rw [hg] at hr
  have HR := Lib.hid hr; clear hr hg
  have f1 : decide (z < 0) = false := decide_eq_false (by omega)
  have f2 : decide (31 < z) = false := decide_eq_false (by omega)
  have hbl := fun w => rblock_any 1 w
  rw [hk] at hbl
  have z1 : (z != 0) = true := bne_iff_ne.2 hn
  have HB := Lib.hid hbl; clear hbl hk hn
  clear hm hz hy
  have H0 := Lib.hid ((Held.refl w).lay [.int .i64 1, .int .u64 s, .int .i64 n, .int .u64 c, .int .u64 b, .int .u64 o, .int .u64 p, .bool i, .bool r, .bool d, .bool q, .int .u32 (m : Int), .int .i64 z, .string t] 30)
  have k0 := H0.out.b0.cell
  go_enter Tryd.func11, Tryd.ntmps11
  go_wp2_with fail
  refine (HR.out _).mono ?_
  rintro e w1 ⟨rfl, hb⟩
  have H1 := Lib.hid (H0.out.up hb)
  clear hb
  have k0 := H1.out.b0.cell
  go_wp2_with fail
  refine (HB.out _).mono ?_
  rintro e w7 ⟨rfl, rfl⟩
  go_wp2_with fail
  all_goals
    go_ret
    exact ⟨rfl, H1.out.below⟩

set_option maxRecDepth 100000 in
set_option maxHeartbeats 4000000 in
theorem rpr_one_e (s n c b o p : Int) (i r d q : Bool) (m : Nat) (z : Int) (t : ByteArray) (w : World) (hm : m < 4294967296) (hg : Hel.right ⟨n, c, b, o, p, i, r, d, q, m⟩ = true) (hz : 0 ≤ z) (hy : z ≤ 31) (hk : blockK 1 = true ∨ z = 0) : Calls Tryd.prog 11 #[.agg #[.int .i64 1, .int .u64 s, .int .i64 n, .int .u64 c, .int .u64 b, .int .u64 o, .int .u64 p, .bool i, .bool r, .bool d, .bool q, .int .u32 (m : Int), .int .i64 z, .string t]] w fun e w' => e = .returned (.bool (if dataK 1 then decide (t.size = 8) else decide (t.size = 0))) ∧ Below w.heap.size w w' := by
  have hr := fun w => rhright_any ⟨n, c, b, o, p, i, r, d, q, m⟩ w hm
  rw [hg] at hr
  have HR := Lib.hid hr; clear hr hg
  have f1 : decide (z < 0) = false := decide_eq_false (by omega)
  have f2 : decide (31 < z) = false := decide_eq_false (by omega)
  have hbl := fun w => rblock_any 1 w
  have hda := fun w => rdata_any 1 w
  generalize blockK 1 = y at *
  generalize dataK 1 = x at *
  have HB := Lib.hid hbl; clear hbl
  have HD := Lib.hid hda; clear hda
  clear hm hz hy
  have H0 := Lib.hid ((Held.refl w).lay [.int .i64 1, .int .u64 s, .int .i64 n, .int .u64 c, .int .u64 b, .int .u64 o, .int .u64 p, .bool i, .bool r, .bool d, .bool q, .int .u32 (m : Int), .int .i64 z, .string t] 30)
  have k0 := H0.out.b0.cell
  go_enter Tryd.func11, Tryd.ntmps11
  go_wp2_with fail
  refine (HR.out _).mono ?_
  rintro e w1 ⟨rfl, hb⟩
  have H1 := Lib.hid (H0.out.up hb)
  clear hb
  have k0 := H1.out.b0.cell
  go_wp2_with fail
  refine (HB.out _).mono ?_
  rintro e w7 ⟨rfl, rfl⟩
  cases y
  · have z0 : z = 0 := hk.resolve_left (by simp)
    subst z0
    clear hk
    go_wp2_with fail
    refine (HD.out _).mono ?_
    rintro e w8 ⟨rfl, rfl⟩
    cases x
    · go_wp2_with fail
      go_ret
      exact ⟨ret_bool (by have := nil_size t; simpa using this), H1.out.below⟩
    · go_wp2_with fail
      go_ret
      exact ⟨ret_bool (size_eight t), H1.out.below⟩
  · clear hk
    go_wp2_with fail
    refine (HD.out _).mono ?_
    rintro e w8 ⟨rfl, rfl⟩
    cases x
    · go_wp2_with fail
      go_ret
      exact ⟨ret_bool (by have := nil_size t; simpa using this), H1.out.below⟩
    · go_wp2_with fail
      go_ret
      exact ⟨ret_bool (size_eight t), H1.out.below⟩

theorem rpr_one (s n c b o p : Int) (i r d q : Bool) (m : Nat) (z : Int) (t : ByteArray) (w : World) (hm : m < 4294967296) : Calls Tryd.prog 11 #[.agg #[.int .i64 1, .int .u64 s, .int .i64 n, .int .u64 c, .int .u64 b, .int .u64 o, .int .u64 p, .bool i, .bool r, .bool d, .bool q, .int .u32 (m : Int), .int .i64 z, .string t]] w fun e w' => e = .returned (.bool (Hel.right ⟨n, c, b, o, p, i, r, d, q, m⟩ && ((decide (0 ≤ z) && decide (z ≤ 31) && (blockK 1 || decide (z = 0))) && (if dataK 1 then decide (t.size = 8) else decide (t.size = 0))))) ∧ Below w.heap.size w w' := by
  cases hg : Hel.right ⟨n, c, b, o, p, i, r, d, q, m⟩
  · exact rpr_one_a s n c b o p i r d q m z t w hm hg
  · by_cases z1 : z < 0
    · rw [show decide (0 ≤ z) = false from decide_eq_false (by omega)]
      exact rpr_one_b s n c b o p i r d q m z t w hm hg z1
    · rw [show decide (0 ≤ z) = true from decide_eq_true (by omega)]
      by_cases z2 : 31 < z
      · rw [show decide (z ≤ 31) = false from decide_eq_false (by omega)]
        exact rpr_one_c s n c b o p i r d q m z t w hm hg z2
      · rw [show decide (z ≤ 31) = true from decide_eq_true (by omega)]
        by_cases z3 : blockK 1 = true ∨ z = 0
        · have e : (blockK 1 || decide (z = 0)) = true := by rw [Bool.or_eq_true, decide_eq_true_eq]; exact z3
          rw [e]
          exact rpr_one_e s n c b o p i r d q m z t w hm hg (by omega) (by omega) z3
        · have e1 : blockK 1 = false := by
            cases q : blockK 1
            · rfl
            · exact absurd (Or.inl q) z3
          have e2 : z ≠ 0 := fun q => z3 (Or.inr q)
          have e : (blockK 1 || decide (z = 0)) = false := by rw [e1, decide_eq_false e2]; rfl
          rw [e]
          exact rpr_one_d s n c b o p i r d q m z t w hm hg (by omega) (by omega) e1 e2

set_option maxRecDepth 100000 in
set_option maxHeartbeats 4000000 in
theorem rpr_more_a (k s n c b o p : Int) (i r d q : Bool) (m : Nat) (z : Int) (t : ByteArray) (w : World) (h1 : ¬ k < 1) (h2 : ¬ 13 < k) (h3 : k ≠ 1) (hg : Hel.none ⟨n, c, b, o, p, i, r, d, q, m⟩ = false) : Calls Tryd.prog 11 #[.agg #[.int .i64 k, .int .u64 s, .int .i64 n, .int .u64 c, .int .u64 b, .int .u64 o, .int .u64 p, .bool i, .bool r, .bool d, .bool q, .int .u32 (m : Int), .int .i64 z, .string t]] w fun e w' => e = .returned (.bool (false)) ∧ Below w.heap.size w w' := by
  have e1 : decide (k < 1) = false := decide_eq_false h1
  have e2 : decide (13 < k) = false := decide_eq_false h2
  have e3 : (k == 1) = false := beq_eq_false_iff_ne.2 h3
  have e4 : (k != 1) = true := bne_iff_ne.2 h3
  clear h1 h2 h3
  have H0 := Lib.hid ((Held.refl w).lay [.int .i64 k, .int .u64 s, .int .i64 n, .int .u64 c, .int .u64 b, .int .u64 o, .int .u64 p, .bool i, .bool r, .bool d, .bool q, .int .u32 (m : Int), .int .i64 z, .string t] 30)
  have k0 := H0.out.b0.cell
  go_enter Tryd.func11, Tryd.ntmps11
  go_wp2_with fail
  all_goals
    go_ret
    exact ⟨rfl, H0.out.below⟩

set_option maxRecDepth 100000 in
set_option maxHeartbeats 4000000 in
theorem rpr_more_b (k s n c b o p : Int) (i r d q : Bool) (m : Nat) (z : Int) (t : ByteArray) (w : World) (h1 : ¬ k < 1) (h2 : ¬ 13 < k) (h3 : k ≠ 1) (hg : Hel.none ⟨n, c, b, o, p, i, r, d, q, m⟩ = true) (hz : z < 0) : Calls Tryd.prog 11 #[.agg #[.int .i64 k, .int .u64 s, .int .i64 n, .int .u64 c, .int .u64 b, .int .u64 o, .int .u64 p, .bool i, .bool r, .bool d, .bool q, .int .u32 (m : Int), .int .i64 z, .string t]] w fun e w' => e = .returned (.bool (false)) ∧ Below w.heap.size w w' := by
  have e1 : decide (k < 1) = false := decide_eq_false h1
  have e2 : decide (13 < k) = false := decide_eq_false h2
  have e3 : (k == 1) = false := beq_eq_false_iff_ne.2 h3
  have e4 : (k != 1) = true := bne_iff_ne.2 h3
  clear h1 h2 h3
  have f1 : decide (z < 0) = true := decide_eq_true hz
  clear hz
  have H0 := Lib.hid ((Held.refl w).lay [.int .i64 k, .int .u64 s, .int .i64 n, .int .u64 c, .int .u64 b, .int .u64 o, .int .u64 p, .bool i, .bool r, .bool d, .bool q, .int .u32 (m : Int), .int .i64 z, .string t] 30)
  have k0 := H0.out.b0.cell
  go_enter Tryd.func11, Tryd.ntmps11
  go_wp2_with fail
  all_goals
    go_ret
    exact ⟨rfl, H0.out.below⟩

set_option maxRecDepth 100000 in
set_option maxHeartbeats 4000000 in
theorem rpr_more_c (k s n c b o p : Int) (i r d q : Bool) (m : Nat) (z : Int) (t : ByteArray) (w : World) (h1 : ¬ k < 1) (h2 : ¬ 13 < k) (h3 : k ≠ 1) (hg : Hel.none ⟨n, c, b, o, p, i, r, d, q, m⟩ = true) (hy : 31 < z) : Calls Tryd.prog 11 #[.agg #[.int .i64 k, .int .u64 s, .int .i64 n, .int .u64 c, .int .u64 b, .int .u64 o, .int .u64 p, .bool i, .bool r, .bool d, .bool q, .int .u32 (m : Int), .int .i64 z, .string t]] w fun e w' => e = .returned (.bool (false)) ∧ Below w.heap.size w w' := by
  have e1 : decide (k < 1) = false := decide_eq_false h1
  have e2 : decide (13 < k) = false := decide_eq_false h2
  have e3 : (k == 1) = false := beq_eq_false_iff_ne.2 h3
  have e4 : (k != 1) = true := bne_iff_ne.2 h3
  clear h1 h2 h3
  have f1 : decide (z < 0) = false := decide_eq_false (by omega)
  have f2 : decide (31 < z) = true := decide_eq_true hy
  clear hy
  have H0 := Lib.hid ((Held.refl w).lay [.int .i64 k, .int .u64 s, .int .i64 n, .int .u64 c, .int .u64 b, .int .u64 o, .int .u64 p, .bool i, .bool r, .bool d, .bool q, .int .u32 (m : Int), .int .i64 z, .string t] 30)
  have k0 := H0.out.b0.cell
  go_enter Tryd.func11, Tryd.ntmps11
  go_wp2_with fail
  all_goals
    go_ret
    exact ⟨rfl, H0.out.below⟩

set_option maxRecDepth 100000 in
set_option maxHeartbeats 4000000 in
theorem rpr_more_d (k s n c b o p : Int) (i r d q : Bool) (m : Nat) (z : Int) (t : ByteArray) (w : World) (h1 : ¬ k < 1) (h2 : ¬ 13 < k) (h3 : k ≠ 1) (hg : Hel.none ⟨n, c, b, o, p, i, r, d, q, m⟩ = true) (hz : 0 ≤ z) (hy : z ≤ 31) (hk : blockK k = false) (hn : z ≠ 0) : Calls Tryd.prog 11 #[.agg #[.int .i64 k, .int .u64 s, .int .i64 n, .int .u64 c, .int .u64 b, .int .u64 o, .int .u64 p, .bool i, .bool r, .bool d, .bool q, .int .u32 (m : Int), .int .i64 z, .string t]] w fun e w' => e = .returned (.bool (false)) ∧ Below w.heap.size w w' := by
  have e1 : decide (k < 1) = false := decide_eq_false h1
  have e2 : decide (13 < k) = false := decide_eq_false h2
  have e3 : (k == 1) = false := beq_eq_false_iff_ne.2 h3
  have e4 : (k != 1) = true := bne_iff_ne.2 h3
  clear h1 h2 h3
  have f1 : decide (z < 0) = false := decide_eq_false (by omega)
  have f2 : decide (31 < z) = false := decide_eq_false (by omega)
  have hbl := fun w => rblock_any k w
  rw [hk] at hbl
  have z1 : (z != 0) = true := bne_iff_ne.2 hn
  have HB := Lib.hid hbl; clear hbl hk hn
  clear hz hy
  have H0 := Lib.hid ((Held.refl w).lay [.int .i64 k, .int .u64 s, .int .i64 n, .int .u64 c, .int .u64 b, .int .u64 o, .int .u64 p, .bool i, .bool r, .bool d, .bool q, .int .u32 (m : Int), .int .i64 z, .string t] 30)
  have k0 := H0.out.b0.cell
  go_enter Tryd.func11, Tryd.ntmps11
  go_wp2_with fail
  refine (HB.out _).mono ?_
  rintro e w7 ⟨rfl, rfl⟩
  go_wp2_with fail
  all_goals
    go_ret
    exact ⟨rfl, H0.out.below⟩

set_option maxRecDepth 100000 in
set_option maxHeartbeats 4000000 in
theorem rpr_more_e (k s n c b o p : Int) (i r d q : Bool) (m : Nat) (z : Int) (t : ByteArray) (w : World) (h1 : ¬ k < 1) (h2 : ¬ 13 < k) (h3 : k ≠ 1) (hg : Hel.none ⟨n, c, b, o, p, i, r, d, q, m⟩ = true) (hz : 0 ≤ z) (hy : z ≤ 31) (hk : blockK k = true ∨ z = 0) : Calls Tryd.prog 11 #[.agg #[.int .i64 k, .int .u64 s, .int .i64 n, .int .u64 c, .int .u64 b, .int .u64 o, .int .u64 p, .bool i, .bool r, .bool d, .bool q, .int .u32 (m : Int), .int .i64 z, .string t]] w fun e w' => e = .returned (.bool (if dataK k then decide (t.size = 8) else decide (t.size = 0))) ∧ Below w.heap.size w w' := by
  have e1 : decide (k < 1) = false := decide_eq_false h1
  have e2 : decide (13 < k) = false := decide_eq_false h2
  have e3 : (k == 1) = false := beq_eq_false_iff_ne.2 h3
  have e4 : (k != 1) = true := bne_iff_ne.2 h3
  clear h1 h2 h3
  have f1 : decide (z < 0) = false := decide_eq_false (by omega)
  have f2 : decide (31 < z) = false := decide_eq_false (by omega)
  have hbl := fun w => rblock_any k w
  have hda := fun w => rdata_any k w
  generalize blockK k = y at *
  generalize dataK k = x at *
  have HB := Lib.hid hbl; clear hbl
  have HD := Lib.hid hda; clear hda
  clear hz hy
  have H0 := Lib.hid ((Held.refl w).lay [.int .i64 k, .int .u64 s, .int .i64 n, .int .u64 c, .int .u64 b, .int .u64 o, .int .u64 p, .bool i, .bool r, .bool d, .bool q, .int .u32 (m : Int), .int .i64 z, .string t] 30)
  have k0 := H0.out.b0.cell
  go_enter Tryd.func11, Tryd.ntmps11
  go_wp2_with fail
  refine (HB.out _).mono ?_
  rintro e w7 ⟨rfl, rfl⟩
  cases y
  · have z0 : z = 0 := hk.resolve_left (by simp)
    subst z0
    clear hk
    go_wp2_with fail
    refine (HD.out _).mono ?_
    rintro e w8 ⟨rfl, rfl⟩
    cases x
    · go_wp2_with fail
      go_ret
      exact ⟨ret_bool (by have := nil_size t; simpa using this), H0.out.below⟩
    · go_wp2_with fail
      go_ret
      exact ⟨ret_bool (size_eight t), H0.out.below⟩
  · clear hk
    go_wp2_with fail
    refine (HD.out _).mono ?_
    rintro e w8 ⟨rfl, rfl⟩
    cases x
    · go_wp2_with fail
      go_ret
      exact ⟨ret_bool (by have := nil_size t; simpa using this), H0.out.below⟩
    · go_wp2_with fail
      go_ret
      exact ⟨ret_bool (size_eight t), H0.out.below⟩

theorem rpr_more (k s n c b o p : Int) (i r d q : Bool) (m : Nat) (z : Int) (t : ByteArray) (w : World) (h1 : ¬ k < 1) (h2 : ¬ 13 < k) (h3 : k ≠ 1) : Calls Tryd.prog 11 #[.agg #[.int .i64 k, .int .u64 s, .int .i64 n, .int .u64 c, .int .u64 b, .int .u64 o, .int .u64 p, .bool i, .bool r, .bool d, .bool q, .int .u32 (m : Int), .int .i64 z, .string t]] w fun e w' => e = .returned (.bool (Hel.none ⟨n, c, b, o, p, i, r, d, q, m⟩ && ((decide (0 ≤ z) && decide (z ≤ 31) && (blockK k || decide (z = 0))) && (if dataK k then decide (t.size = 8) else decide (t.size = 0))))) ∧ Below w.heap.size w w' := by
  cases hg : Hel.none ⟨n, c, b, o, p, i, r, d, q, m⟩
  · exact rpr_more_a k s n c b o p i r d q m z t w h1 h2 h3 hg
  · by_cases z1 : z < 0
    · rw [show decide (0 ≤ z) = false from decide_eq_false (by omega)]
      exact rpr_more_b k s n c b o p i r d q m z t w h1 h2 h3 hg z1
    · rw [show decide (0 ≤ z) = true from decide_eq_true (by omega)]
      by_cases z2 : 31 < z
      · rw [show decide (z ≤ 31) = false from decide_eq_false (by omega)]
        exact rpr_more_c k s n c b o p i r d q m z t w h1 h2 h3 hg z2
      · rw [show decide (z ≤ 31) = true from decide_eq_true (by omega)]
        by_cases z3 : blockK k = true ∨ z = 0
        · have e : (blockK k || decide (z = 0)) = true := by rw [Bool.or_eq_true, decide_eq_true_eq]; exact z3
          rw [e]
          exact rpr_more_e k s n c b o p i r d q m z t w h1 h2 h3 hg (by omega) (by omega) z3
        · have e1 : blockK k = false := by
            cases q : blockK k
            · rfl
            · exact absurd (Or.inl q) z3
          have e2 : z ≠ 0 := fun q => z3 (Or.inr q)
          have e : (blockK k || decide (z = 0)) = false := by rw [e1, decide_eq_false e2]; rfl
          rw [e]
          exact rpr_more_d k s n c b o p i r d q m z t w h1 h2 h3 hg (by omega) (by omega) e1 e2

theorem rpright_any (x : Pkt) (w : World) (hm : x.h.m < 4294967296) : Calls Tryd.prog 11 #[pktV x] w fun e w' => e = .returned (.bool x.right) ∧ Below w.heap.size w w' := by
  obtain ⟨k, s, ⟨n, c, b, o, p, i, r, d, q, m⟩, z, t⟩ := x
  unfold Pkt.right
  dsimp only at *
  by_cases h1 : k < 1
  · rw [show decide (1 ≤ k) = false from decide_eq_false (by omega)]
    simp only [Bool.false_and]
    exact rpr_low k s n c b o p i r d q m z t w h1
  · by_cases h2 : 13 < k
    · rw [show decide (k ≤ 13) = false from decide_eq_false (by omega)]
      simp only [Bool.and_false, Bool.false_and]
      exact rpr_high k s n c b o p i r d q m z t w h2
    · rw [show decide (1 ≤ k) = true from decide_eq_true (by omega), show decide (k ≤ 13) = true from decide_eq_true (by omega)]
      by_cases h3 : k = 1
      · subst h3
        rw [if_pos rfl]
        simp only [Bool.true_and]
        exact rpr_one s n c b o p i r d q m z t w hm
      · rw [if_neg h3]
        simp only [Bool.true_and]
        exact rpr_more k s n c b o p i r d q m z t w h1 h2 h3
end Go.Proofs.YtbbcncofdhhflaaDoor
