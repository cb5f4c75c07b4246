/- Packets: whether one may be, by the code; for every packet. No other condition but the width of the mask. -/
import Derived.Test.YtbbcncofdhhflaaDoorPK1
namespace Go.Proofs.YtbbcncofdhhflaaDoor
open Go.RowKit

/-- Has it no fields but the two? -/
def bareB (h : Hel) (z : Int) (t : ByteArray) : Bool := h.none && (decide (z = 0) && decide (t.size = 0))

theorem Held.set10b {W0 w : World} {L : List (Nat × List Value)} {M : List (Nat × Nat)} {b : Nat} (h : Held W0 L M w) (hb : ∃ n, (b, n) ∈ M) (v0 v1 v2 v3 v4 v5 v6 v7 v8 v9 : Value) : Held W0 L M ((((((((((w.setCell ⟨b, 2, none⟩ v0).setCell ⟨b, 3, none⟩ v1).setCell ⟨b, 4, none⟩ v2).setCell ⟨b, 5, none⟩ v3).setCell ⟨b, 6, none⟩ v4).setCell ⟨b, 7, none⟩ v5).setCell ⟨b, 8, none⟩ v6).setCell ⟨b, 9, none⟩ v7).setCell ⟨b, 10, none⟩ v8).setCell ⟨b, 11, none⟩ v9) := ((((((((((h.set hb 2 v0).set hb 3 v1).set hb 4 v2).set hb 5 v3).set hb 6 v4).set hb 7 v5).set hb 8 v6).set hb 9 v7).set hb 10 v8).set hb 11 v9)

theorem Box.ten2 {w : World} {b : Nat} {a0 a1 a12 a13 u0 u1 u2 u3 u4 u5 u6 u7 u8 u9 : Value} (h : Box w b [a0, a1, u0, u1, u2, u3, u4, u5, u6, u7, u8, u9, a12, a13]) (v0 v1 v2 v3 v4 v5 v6 v7 v8 v9 : Value) : Box ((((((((((w.setCell ⟨b, 2, none⟩ v0).setCell ⟨b, 3, none⟩ v1).setCell ⟨b, 4, none⟩ v2).setCell ⟨b, 5, none⟩ v3).setCell ⟨b, 6, none⟩ v4).setCell ⟨b, 7, none⟩ v5).setCell ⟨b, 8, none⟩ v6).setCell ⟨b, 9, none⟩ v7).setCell ⟨b, 10, none⟩ v8).setCell ⟨b, 11, none⟩ v9) b [a0, a1, v0, v1, v2, v3, v4, v5, v6, v7, v8, v9, a12, a13] := ((((((((((h.set 2 v0).set 3 v1).set 4 v2).set 5 v3).set 6 v4).set 7 v5).set 8 v6).set 9 v7).set 10 v8).set 11 v9)

theorem nil_size2 (t : ByteArray) : (t.toList == (⟨#[]⟩ : ByteArray).toList) = decide (t.size = 0) := by
  rw [ByteArray.toList_eq, ByteArray.toList_eq, Bool.beq_eq_decide_eq, decide_eq_decide]
  constructor
  · intro h
    have : t.data.toList.length = 0 := by rw [h]; rfl
    exact this
  · intro h
    exact List.eq_nil_of_length_eq_zero h

theorem eqP_bare (k s : Int) (h : Hel) (z : Int) (t : ByteArray) : eqP ⟨k, s, h, z, t⟩ ⟨k, s, Hel.zero, 0, ⟨#[]⟩⟩ = bareB h z t := by
  unfold eqP bareB
  rw [eqH_none, nil_size2]
  simp [Bool.beq_eq_decide_eq]

@[go_sem 6000] theorem eql_bare (x : Nat) (k s n c b o p : Int) (i r d q : Bool) (m : Nat) (z : Int) (t : ByteArray) (w : World) : (Op.equalIn (x + 5) 30 (.agg #[.int .i64 k, .int .u64 s, .int .i64 n, .int .u64 c, .int .u64 b, .int .u64 o, .int .u64 p, .bool i, .bool r, .bool d, .bool q, .int .u32 (m : Int), .int .i64 z, .string t]) (.agg #[.int .i64 k, .int .u64 s, .int .i64 0, .int .u64 0, .int .u64 0, .int .u64 0, .int .u64 0, .bool false, .bool false, .bool false, .bool false, .int .u32 0, .int .i64 0, .string ⟨#[]⟩])).run Tryd.prog w = .ok (bareB ⟨n, c, b, o, p, i, r, d, q, m⟩ z t) w := by
  have := eql_pkt x ⟨k, s, ⟨n, c, b, o, p, i, r, d, q, m⟩, z, t⟩ ⟨k, s, Hel.zero, 0, ⟨#[]⟩⟩ w
  rw [eqP_bare] at this
  exact this

set_option maxRecDepth 100000 in
set_option maxHeartbeats 4000000 in
theorem bare_any (k : Int) (s n c b o p : Int) (i r d q : Bool) (m : Nat) (z : Int) (t : ByteArray) (w : World)  : Calls Tryd.prog 22 #[.agg #[.int .i64 k, .int .u64 s, .int .i64 n, .int .u64 c, .int .u64 b, .int .u64 o, .int .u64 p, .bool i, .bool r, .bool d, .bool q, .int .u32 (m : Int), .int .i64 z, .string t]] w fun e w' => e = .returned (.bool (bareB ⟨n, c, b, o, p, i, r, d, q, m⟩ z t)) ∧ Below w.heap.size w w' := by
  have H0 := Lib.hid ((Held.refl w).lay [.int .i64 k, .int .u64 s, .int .i64 n, .int .u64 c, .int .u64 b, .int .u64 o, .int .u64 p, .bool i, .bool r, .bool d, .bool q, .int .u32 (m : Int), .int .i64 z, .string t] 30)
  have k0 := H0.out.b0.cell
  go_enter Tryd.func22, Tryd.ntmps22
  go_wp2_with fail
  go_ret
  exact ⟨rfl, H0.out.below⟩

set_option maxRecDepth 100000 in
set_option maxHeartbeats 4000000 in
theorem pr_other (k : Int) (s n c b o p : Int) (i r d q : Bool) (m : Nat) (z : Int) (t : ByteArray) (w : World) (h : k < 1 ∨ 13 < k) : Calls Tryd.prog 10 #[.agg #[.int .i64 k, .int .u64 s, .int .i64 n, .int .u64 c, .int .u64 b, .int .u64 o, .int .u64 p, .bool i, .bool r, .bool d, .bool q, .int .u32 (m : Int), .int .i64 z, .string t]] w fun e w' => e = .returned (.bool false) ∧ Below w.heap.size w w' := by
  have e1 : (k == 1) = false := beq_eq_false_iff_ne.2 (by omega)
  have e2 : (k == 2) = false := beq_eq_false_iff_ne.2 (by omega)
  have e3 : (k == 3) = false := beq_eq_false_iff_ne.2 (by omega)
  have e4 : (k == 4) = false := beq_eq_false_iff_ne.2 (by omega)
  have e5 : (k == 5) = false := beq_eq_false_iff_ne.2 (by omega)
  have e6 : (k == 6) = false := beq_eq_false_iff_ne.2 (by omega)
  have e7 : (k == 7) = false := beq_eq_false_iff_ne.2 (by omega)
  have e8 : (k == 8) = false := beq_eq_false_iff_ne.2 (by omega)
  have e9 : (k == 9) = false := beq_eq_false_iff_ne.2 (by omega)
  have e10 : (k == 10) = false := beq_eq_false_iff_ne.2 (by omega)
  have e11 : (k == 11) = false := beq_eq_false_iff_ne.2 (by omega)
  have e12 : (k == 12) = false := beq_eq_false_iff_ne.2 (by omega)
  have e13 : (k == 13) = false := beq_eq_false_iff_ne.2 (by omega)
  clear h
  have H0 := Lib.hid ((Held.refl w).lay [.int .i64 k, .int .u64 s, .int .i64 n, .int .u64 c, .int .u64 b, .int .u64 o, .int .u64 p, .bool i, .bool r, .bool d, .bool q, .int .u32 (m : Int), .int .i64 z, .string t] 30)
  have k0 := H0.out.b0.cell
  go_enter Tryd.func10, Tryd.ntmps10
  go_wp2_with fail
  go_ret
  exact ⟨rfl, H0.out.below⟩

set_option maxRecDepth 100000 in
set_option maxHeartbeats 4000000 in
theorem pr_8 (s n c b o p : Int) (i r d q : Bool) (m : Nat) (z : Int) (t : ByteArray) (w : World)  : Calls Tryd.prog 10 #[.agg #[.int .i64 8, .int .u64 s, .int .i64 n, .int .u64 c, .int .u64 b, .int .u64 o, .int .u64 p, .bool i, .bool r, .bool d, .bool q, .int .u32 (m : Int), .int .i64 z, .string t]] w fun e w' => e = .returned (.bool (bareB ⟨n, c, b, o, p, i, r, d, q, m⟩ z t)) ∧ Below w.heap.size w w' := by
  have H0 := Lib.hid ((Held.refl w).lay [.int .i64 8, .int .u64 s, .int .i64 n, .int .u64 c, .int .u64 b, .int .u64 o, .int .u64 p, .bool i, .bool r, .bool d, .bool q, .int .u32 (m : Int), .int .i64 z, .string t] 30)
  have k0 := H0.out.b0.cell
  go_enter Tryd.func10, Tryd.ntmps10
  go_wp2_with fail
  refine (bare_any _ _ _ _ _ _ _ _ _ _ _ _ _ _ _).mono ?_
  rintro e w9 ⟨rfl, hb⟩
  go_wp2_with fail
  go_ret
  exact ⟨rfl, ext (H0.out.below) hb⟩

set_option maxRecDepth 100000 in
set_option maxHeartbeats 4000000 in
theorem pr_9 (s n c b o p : Int) (i r d q : Bool) (m : Nat) (z : Int) (t : ByteArray) (w : World)  : Calls Tryd.prog 10 #[.agg #[.int .i64 9, .int .u64 s, .int .i64 n, .int .u64 c, .int .u64 b, .int .u64 o, .int .u64 p, .bool i, .bool r, .bool d, .bool q, .int .u32 (m : Int), .int .i64 z, .string t]] w fun e w' => e = .returned (.bool (bareB ⟨n, c, b, o, p, i, r, d, q, m⟩ z t)) ∧ Below w.heap.size w w' := by
  have H0 := Lib.hid ((Held.refl w).lay [.int .i64 9, .int .u64 s, .int .i64 n, .int .u64 c, .int .u64 b, .int .u64 o, .int .u64 p, .bool i, .bool r, .bool d, .bool q, .int .u32 (m : Int), .int .i64 z, .string t] 30)
  have k0 := H0.out.b0.cell
  go_enter Tryd.func10, Tryd.ntmps10
  go_wp2_with fail
  refine (bare_any _ _ _ _ _ _ _ _ _ _ _ _ _ _ _).mono ?_
  rintro e w9 ⟨rfl, hb⟩
  go_wp2_with fail
  go_ret
  exact ⟨rfl, ext (H0.out.below) hb⟩

set_option maxRecDepth 100000 in
set_option maxHeartbeats 4000000 in
theorem pr_10 (s n c b o p : Int) (i r d q : Bool) (m : Nat) (z : Int) (t : ByteArray) (w : World)  : Calls Tryd.prog 10 #[.agg #[.int .i64 10, .int .u64 s, .int .i64 n, .int .u64 c, .int .u64 b, .int .u64 o, .int .u64 p, .bool i, .bool r, .bool d, .bool q, .int .u32 (m : Int), .int .i64 z, .string t]] w fun e w' => e = .returned (.bool (bareB ⟨n, c, b, o, p, i, r, d, q, m⟩ z t)) ∧ Below w.heap.size w w' := by
  have H0 := Lib.hid ((Held.refl w).lay [.int .i64 10, .int .u64 s, .int .i64 n, .int .u64 c, .int .u64 b, .int .u64 o, .int .u64 p, .bool i, .bool r, .bool d, .bool q, .int .u32 (m : Int), .int .i64 z, .string t] 30)
  have k0 := H0.out.b0.cell
  go_enter Tryd.func10, Tryd.ntmps10
  go_wp2_with fail
  refine (bare_any _ _ _ _ _ _ _ _ _ _ _ _ _ _ _).mono ?_
  rintro e w9 ⟨rfl, hb⟩
  go_wp2_with fail
  go_ret
  exact ⟨rfl, ext (H0.out.below) hb⟩

set_option maxRecDepth 100000 in
set_option maxHeartbeats 4000000 in
theorem pr_11 (s n c b o p : Int) (i r d q : Bool) (m : Nat) (z : Int) (t : ByteArray) (w : World)  : Calls Tryd.prog 10 #[.agg #[.int .i64 11, .int .u64 s, .int .i64 n, .int .u64 c, .int .u64 b, .int .u64 o, .int .u64 p, .bool i, .bool r, .bool d, .bool q, .int .u32 (m : Int), .int .i64 z, .string t]] w fun e w' => e = .returned (.bool (bareB ⟨n, c, b, o, p, i, r, d, q, m⟩ z t)) ∧ Below w.heap.size w w' := by
  have H0 := Lib.hid ((Held.refl w).lay [.int .i64 11, .int .u64 s, .int .i64 n, .int .u64 c, .int .u64 b, .int .u64 o, .int .u64 p, .bool i, .bool r, .bool d, .bool q, .int .u32 (m : Int), .int .i64 z, .string t] 30)
  have k0 := H0.out.b0.cell
  go_enter Tryd.func10, Tryd.ntmps10
  go_wp2_with fail
  refine (bare_any _ _ _ _ _ _ _ _ _ _ _ _ _ _ _).mono ?_
  rintro e w9 ⟨rfl, hb⟩
  go_wp2_with fail
  go_ret
  exact ⟨rfl, ext (H0.out.below) hb⟩

set_option maxRecDepth 100000 in
set_option maxHeartbeats 4000000 in
theorem pr_12 (s n c b o p : Int) (i r d q : Bool) (m : Nat) (z : Int) (t : ByteArray) (w : World)  : Calls Tryd.prog 10 #[.agg #[.int .i64 12, .int .u64 s, .int .i64 n, .int .u64 c, .int .u64 b, .int .u64 o, .int .u64 p, .bool i, .bool r, .bool d, .bool q, .int .u32 (m : Int), .int .i64 z, .string t]] w fun e w' => e = .returned (.bool (bareB ⟨n, c, b, o, p, i, r, d, q, m⟩ z t)) ∧ Below w.heap.size w w' := by
  have H0 := Lib.hid ((Held.refl w).lay [.int .i64 12, .int .u64 s, .int .i64 n, .int .u64 c, .int .u64 b, .int .u64 o, .int .u64 p, .bool i, .bool r, .bool d, .bool q, .int .u32 (m : Int), .int .i64 z, .string t] 30)
  have k0 := H0.out.b0.cell
  go_enter Tryd.func10, Tryd.ntmps10
  go_wp2_with fail
  refine (bare_any _ _ _ _ _ _ _ _ _ _ _ _ _ _ _).mono ?_
  rintro e w9 ⟨rfl, hb⟩
  go_wp2_with fail
  go_ret
  exact ⟨rfl, ext (H0.out.below) hb⟩

set_option maxRecDepth 100000 in
set_option maxHeartbeats 4000000 in
theorem pr_13 (s n c b o p : Int) (i r d q : Bool) (m : Nat) (z : Int) (t : ByteArray) (w : World)  : Calls Tryd.prog 10 #[.agg #[.int .i64 13, .int .u64 s, .int .i64 n, .int .u64 c, .int .u64 b, .int .u64 o, .int .u64 p, .bool i, .bool r, .bool d, .bool q, .int .u32 (m : Int), .int .i64 z, .string t]] w fun e w' => e = .returned (.bool (bareB ⟨n, c, b, o, p, i, r, d, q, m⟩ z t)) ∧ Below w.heap.size w w' := by
  have H0 := Lib.hid ((Held.refl w).lay [.int .i64 13, .int .u64 s, .int .i64 n, .int .u64 c, .int .u64 b, .int .u64 o, .int .u64 p, .bool i, .bool r, .bool d, .bool q, .int .u32 (m : Int), .int .i64 z, .string t] 30)
  have k0 := H0.out.b0.cell
  go_enter Tryd.func10, Tryd.ntmps10
  go_wp2_with fail
  refine (bare_any _ _ _ _ _ _ _ _ _ _ _ _ _ _ _).mono ?_
  rintro e w9 ⟨rfl, hb⟩
  go_wp2_with fail
  go_ret
  exact ⟨rfl, ext (H0.out.below) hb⟩

set_option maxRecDepth 100000 in
set_option maxHeartbeats 4000000 in
theorem pr_3_lo (s n c b o p : Int) (i r d q : Bool) (m : Nat) (z : Int) (t : ByteArray) (w : World) (h : z < 0) : Calls Tryd.prog 10 #[.agg #[.int .i64 3, .int .u64 s, .int .i64 n, .int .u64 c, .int .u64 b, .int .u64 o, .int .u64 p, .bool i, .bool r, .bool d, .bool q, .int .u32 (m : Int), .int .i64 z, .string t]] w fun e w' => e = .returned (.bool false) ∧ Below w.heap.size w w' := by
  have f1 : decide (z < 0) = true := decide_eq_true h
  clear h
  have H0 := Lib.hid ((Held.refl w).lay [.int .i64 3, .int .u64 s, .int .i64 n, .int .u64 c, .int .u64 b, .int .u64 o, .int .u64 p, .bool i, .bool r, .bool d, .bool q, .int .u32 (m : Int), .int .i64 z, .string t] 30)
  have k0 := H0.out.b0.cell
  go_enter Tryd.func10, Tryd.ntmps10
  go_wp2_with fail
  go_ret
  exact ⟨rfl, H0.out.below⟩

set_option maxRecDepth 100000 in
set_option maxHeartbeats 4000000 in
theorem pr_3_hi (s n c b o p : Int) (i r d q : Bool) (m : Nat) (z : Int) (t : ByteArray) (w : World) (h : 32 ≤ z) : Calls Tryd.prog 10 #[.agg #[.int .i64 3, .int .u64 s, .int .i64 n, .int .u64 c, .int .u64 b, .int .u64 o, .int .u64 p, .bool i, .bool r, .bool d, .bool q, .int .u32 (m : Int), .int .i64 z, .string t]] w fun e w' => e = .returned (.bool false) ∧ Below w.heap.size w w' := by
  have f1 : decide (z < 0) = false := decide_eq_false (by omega)
  have f2 : decide (32 ≤ z) = true := decide_eq_true h
  clear h
  have H0 := Lib.hid ((Held.refl w).lay [.int .i64 3, .int .u64 s, .int .i64 n, .int .u64 c, .int .u64 b, .int .u64 o, .int .u64 p, .bool i, .bool r, .bool d, .bool q, .int .u32 (m : Int), .int .i64 z, .string t] 30)
  have k0 := H0.out.b0.cell
  go_enter Tryd.func10, Tryd.ntmps10
  go_wp2_with fail
  go_ret
  exact ⟨rfl, H0.out.below⟩

set_option maxRecDepth 100000 in
set_option maxHeartbeats 4000000 in
theorem pr_3_in (s n c b o p : Int) (i r d q : Bool) (m : Nat) (z : Int) (t : ByteArray) (w : World) (h : 0 ≤ z) (h2 : z ≤ 31) : Calls Tryd.prog 10 #[.agg #[.int .i64 3, .int .u64 s, .int .i64 n, .int .u64 c, .int .u64 b, .int .u64 o, .int .u64 p, .bool i, .bool r, .bool d, .bool q, .int .u32 (m : Int), .int .i64 z, .string t]] w fun e w' => e = .returned (.bool (bareB ⟨n, c, b, o, p, i, r, d, q, m⟩ 0 t)) ∧ Below w.heap.size w w' := by
  have f1 : decide (z < 0) = false := decide_eq_false (by omega)
  have f2 : decide (32 ≤ z) = false := decide_eq_false (by omega)
  clear h h2
  have H0 := Lib.hid ((Held.refl w).own [.int .i64 3, .int .u64 s, .int .i64 n, .int .u64 c, .int .u64 b, .int .u64 o, .int .u64 p, .bool i, .bool r, .bool d, .bool q, .int .u32 (m : Int), .int .i64 z, .string t] 30 (n := 14) rfl)
  have BR0 := Lib.hid (Box.new w [.int .i64 3, .int .u64 s, .int .i64 n, .int .u64 c, .int .u64 b, .int .u64 o, .int .u64 p, .bool i, .bool r, .bool d, .bool q, .int .u32 (m : Int), .int .i64 z, .string t] 30)
  have k0 := BR0.out.cell
  have f0 := BR0.out.frozen
  go_enter Tryd.func10, Tryd.ntmps10
  go_wp2_with fail
  refine (bare_any _ _ _ _ _ _ _ _ _ _ _ _ _ _ _).mono ?_
  rintro e w9 ⟨rfl, hb⟩
  go_wp2_with fail
  go_ret
  exact ⟨rfl, ext (below1) hb⟩

set_option maxRecDepth 100000 in
set_option maxHeartbeats 4000000 in
theorem pr_4_lo (s n c b o p : Int) (i r d q : Bool) (m : Nat) (z : Int) (t : ByteArray) (w : World) (h : z < 0) : Calls Tryd.prog 10 #[.agg #[.int .i64 4, .int .u64 s, .int .i64 n, .int .u64 c, .int .u64 b, .int .u64 o, .int .u64 p, .bool i, .bool r, .bool d, .bool q, .int .u32 (m : Int), .int .i64 z, .string t]] w fun e w' => e = .returned (.bool false) ∧ Below w.heap.size w w' := by
  have f1 : decide (z < 0) = true := decide_eq_true h
  clear h
  have H0 := Lib.hid ((Held.refl w).lay [.int .i64 4, .int .u64 s, .int .i64 n, .int .u64 c, .int .u64 b, .int .u64 o, .int .u64 p, .bool i, .bool r, .bool d, .bool q, .int .u32 (m : Int), .int .i64 z, .string t] 30)
  have k0 := H0.out.b0.cell
  go_enter Tryd.func10, Tryd.ntmps10
  go_wp2_with fail
  go_ret
  exact ⟨rfl, H0.out.below⟩

set_option maxRecDepth 100000 in
set_option maxHeartbeats 4000000 in
theorem pr_4_hi (s n c b o p : Int) (i r d q : Bool) (m : Nat) (z : Int) (t : ByteArray) (w : World) (h : 32 ≤ z) : Calls Tryd.prog 10 #[.agg #[.int .i64 4, .int .u64 s, .int .i64 n, .int .u64 c, .int .u64 b, .int .u64 o, .int .u64 p, .bool i, .bool r, .bool d, .bool q, .int .u32 (m : Int), .int .i64 z, .string t]] w fun e w' => e = .returned (.bool false) ∧ Below w.heap.size w w' := by
  have f1 : decide (z < 0) = false := decide_eq_false (by omega)
  have f2 : decide (32 ≤ z) = true := decide_eq_true h
  clear h
  have H0 := Lib.hid ((Held.refl w).lay [.int .i64 4, .int .u64 s, .int .i64 n, .int .u64 c, .int .u64 b, .int .u64 o, .int .u64 p, .bool i, .bool r, .bool d, .bool q, .int .u32 (m : Int), .int .i64 z, .string t] 30)
  have k0 := H0.out.b0.cell
  go_enter Tryd.func10, Tryd.ntmps10
  go_wp2_with fail
  go_ret
  exact ⟨rfl, H0.out.below⟩

set_option maxRecDepth 100000 in
set_option maxHeartbeats 4000000 in
theorem pr_4_in (s n c b o p : Int) (i r d q : Bool) (m : Nat) (z : Int) (t : ByteArray) (w : World) (h : 0 ≤ z) (h2 : z ≤ 31) : Calls Tryd.prog 10 #[.agg #[.int .i64 4, .int .u64 s, .int .i64 n, .int .u64 c, .int .u64 b, .int .u64 o, .int .u64 p, .bool i, .bool r, .bool d, .bool q, .int .u32 (m : Int), .int .i64 z, .string t]] w fun e w' => e = .returned (.bool (bareB ⟨n, c, b, o, p, i, r, d, q, m⟩ 0 t)) ∧ Below w.heap.size w w' := by
  have f1 : decide (z < 0) = false := decide_eq_false (by omega)
  have f2 : decide (32 ≤ z) = false := decide_eq_false (by omega)
  clear h h2
  have H0 := Lib.hid ((Held.refl w).own [.int .i64 4, .int .u64 s, .int .i64 n, .int .u64 c, .int .u64 b, .int .u64 o, .int .u64 p, .bool i, .bool r, .bool d, .bool q, .int .u32 (m : Int), .int .i64 z, .string t] 30 (n := 14) rfl)
  have BR0 := Lib.hid (Box.new w [.int .i64 4, .int .u64 s, .int .i64 n, .int .u64 c, .int .u64 b, .int .u64 o, .int .u64 p, .bool i, .bool r, .bool d, .bool q, .int .u32 (m : Int), .int .i64 z, .string t] 30)
  have k0 := BR0.out.cell
  have f0 := BR0.out.frozen
  go_enter Tryd.func10, Tryd.ntmps10
  go_wp2_with fail
  refine (bare_any _ _ _ _ _ _ _ _ _ _ _ _ _ _ _).mono ?_
  rintro e w9 ⟨rfl, hb⟩
  go_wp2_with fail
  go_ret
  exact ⟨rfl, ext (below1) hb⟩

set_option maxRecDepth 100000 in
set_option maxHeartbeats 4000000 in
theorem pr_5_lo (s n c b o p : Int) (i r d q : Bool) (m : Nat) (z : Int) (t : ByteArray) (w : World) (h : z < 0) : Calls Tryd.prog 10 #[.agg #[.int .i64 5, .int .u64 s, .int .i64 n, .int .u64 c, .int .u64 b, .int .u64 o, .int .u64 p, .bool i, .bool r, .bool d, .bool q, .int .u32 (m : Int), .int .i64 z, .string t]] w fun e w' => e = .returned (.bool false) ∧ Below w.heap.size w w' := by
  have f1 : decide (z < 0) = true := decide_eq_true h
  clear h
  have H0 := Lib.hid ((Held.refl w).lay [.int .i64 5, .int .u64 s, .int .i64 n, .int .u64 c, .int .u64 b, .int .u64 o, .int .u64 p, .bool i, .bool r, .bool d, .bool q, .int .u32 (m : Int), .int .i64 z, .string t] 30)
  have k0 := H0.out.b0.cell
  go_enter Tryd.func10, Tryd.ntmps10
  go_wp2_with fail
  go_ret
  exact ⟨rfl, H0.out.below⟩

set_option maxRecDepth 100000 in
set_option maxHeartbeats 4000000 in
theorem pr_5_hi (s n c b o p : Int) (i r d q : Bool) (m : Nat) (z : Int) (t : ByteArray) (w : World) (h : 32 ≤ z) : Calls Tryd.prog 10 #[.agg #[.int .i64 5, .int .u64 s, .int .i64 n, .int .u64 c, .int .u64 b, .int .u64 o, .int .u64 p, .bool i, .bool r, .bool d, .bool q, .int .u32 (m : Int), .int .i64 z, .string t]] w fun e w' => e = .returned (.bool false) ∧ Below w.heap.size w w' := by
  have f1 : decide (z < 0) = false := decide_eq_false (by omega)
  have f2 : decide (32 ≤ z) = true := decide_eq_true h
  clear h
  have H0 := Lib.hid ((Held.refl w).lay [.int .i64 5, .int .u64 s, .int .i64 n, .int .u64 c, .int .u64 b, .int .u64 o, .int .u64 p, .bool i, .bool r, .bool d, .bool q, .int .u32 (m : Int), .int .i64 z, .string t] 30)
  have k0 := H0.out.b0.cell
  go_enter Tryd.func10, Tryd.ntmps10
  go_wp2_with fail
  go_ret
  exact ⟨rfl, H0.out.below⟩

set_option maxRecDepth 100000 in
set_option maxHeartbeats 4000000 in
theorem pr_5_in (s n c b o p : Int) (i r d q : Bool) (m : Nat) (z : Int) (t : ByteArray) (w : World) (h : 0 ≤ z) (h2 : z ≤ 31) : Calls Tryd.prog 10 #[.agg #[.int .i64 5, .int .u64 s, .int .i64 n, .int .u64 c, .int .u64 b, .int .u64 o, .int .u64 p, .bool i, .bool r, .bool d, .bool q, .int .u32 (m : Int), .int .i64 z, .string t]] w fun e w' => e = .returned (.bool (bareB ⟨n, c, b, o, p, i, r, d, q, m⟩ 0 t)) ∧ Below w.heap.size w w' := by
  have f1 : decide (z < 0) = false := decide_eq_false (by omega)
  have f2 : decide (32 ≤ z) = false := decide_eq_false (by omega)
  clear h h2
  have H0 := Lib.hid ((Held.refl w).own [.int .i64 5, .int .u64 s, .int .i64 n, .int .u64 c, .int .u64 b, .int .u64 o, .int .u64 p, .bool i, .bool r, .bool d, .bool q, .int .u32 (m : Int), .int .i64 z, .string t] 30 (n := 14) rfl)
  have BR0 := Lib.hid (Box.new w [.int .i64 5, .int .u64 s, .int .i64 n, .int .u64 c, .int .u64 b, .int .u64 o, .int .u64 p, .bool i, .bool r, .bool d, .bool q, .int .u32 (m : Int), .int .i64 z, .string t] 30)
  have k0 := BR0.out.cell
  have f0 := BR0.out.frozen
  go_enter Tryd.func10, Tryd.ntmps10
  go_wp2_with fail
  refine (bare_any _ _ _ _ _ _ _ _ _ _ _ _ _ _ _).mono ?_
  rintro e w9 ⟨rfl, hb⟩
  go_wp2_with fail
  go_ret
  exact ⟨rfl, ext (below1) hb⟩

set_option maxRecDepth 100000 in
set_option maxHeartbeats 4000000 in
theorem pr_7_lo (s n c b o p : Int) (i r d q : Bool) (m : Nat) (z : Int) (t : ByteArray) (w : World) (h : z < 0) : Calls Tryd.prog 10 #[.agg #[.int .i64 7, .int .u64 s, .int .i64 n, .int .u64 c, .int .u64 b, .int .u64 o, .int .u64 p, .bool i, .bool r, .bool d, .bool q, .int .u32 (m : Int), .int .i64 z, .string t]] w fun e w' => e = .returned (.bool false) ∧ Below w.heap.size w w' := by
  have f1 : decide (z < 0) = true := decide_eq_true h
  clear h
  have H0 := Lib.hid ((Held.refl w).lay [.int .i64 7, .int .u64 s, .int .i64 n, .int .u64 c, .int .u64 b, .int .u64 o, .int .u64 p, .bool i, .bool r, .bool d, .bool q, .int .u32 (m : Int), .int .i64 z, .string t] 30)
  have k0 := H0.out.b0.cell
  go_enter Tryd.func10, Tryd.ntmps10
  go_wp2_with fail
  go_ret
  exact ⟨rfl, H0.out.below⟩

set_option maxRecDepth 100000 in
set_option maxHeartbeats 4000000 in
theorem pr_7_hi (s n c b o p : Int) (i r d q : Bool) (m : Nat) (z : Int) (t : ByteArray) (w : World) (h : 32 ≤ z) : Calls Tryd.prog 10 #[.agg #[.int .i64 7, .int .u64 s, .int .i64 n, .int .u64 c, .int .u64 b, .int .u64 o, .int .u64 p, .bool i, .bool r, .bool d, .bool q, .int .u32 (m : Int), .int .i64 z, .string t]] w fun e w' => e = .returned (.bool false) ∧ Below w.heap.size w w' := by
  have f1 : decide (z < 0) = false := decide_eq_false (by omega)
  have f2 : decide (32 ≤ z) = true := decide_eq_true h
  clear h
  have H0 := Lib.hid ((Held.refl w).lay [.int .i64 7, .int .u64 s, .int .i64 n, .int .u64 c, .int .u64 b, .int .u64 o, .int .u64 p, .bool i, .bool r, .bool d, .bool q, .int .u32 (m : Int), .int .i64 z, .string t] 30)
  have k0 := H0.out.b0.cell
  go_enter Tryd.func10, Tryd.ntmps10
  go_wp2_with fail
  go_ret
  exact ⟨rfl, H0.out.below⟩

set_option maxRecDepth 100000 in
set_option maxHeartbeats 4000000 in
theorem pr_7_in (s n c b o p : Int) (i r d q : Bool) (m : Nat) (z : Int) (t : ByteArray) (w : World) (h : 0 ≤ z) (h2 : z ≤ 31) : Calls Tryd.prog 10 #[.agg #[.int .i64 7, .int .u64 s, .int .i64 n, .int .u64 c, .int .u64 b, .int .u64 o, .int .u64 p, .bool i, .bool r, .bool d, .bool q, .int .u32 (m : Int), .int .i64 z, .string t]] w fun e w' => e = .returned (.bool (bareB ⟨n, c, b, o, p, i, r, d, q, m⟩ 0 t)) ∧ Below w.heap.size w w' := by
  have f1 : decide (z < 0) = false := decide_eq_false (by omega)
  have f2 : decide (32 ≤ z) = false := decide_eq_false (by omega)
  clear h h2
  have H0 := Lib.hid ((Held.refl w).own [.int .i64 7, .int .u64 s, .int .i64 n, .int .u64 c, .int .u64 b, .int .u64 o, .int .u64 p, .bool i, .bool r, .bool d, .bool q, .int .u32 (m : Int), .int .i64 z, .string t] 30 (n := 14) rfl)
  have BR0 := Lib.hid (Box.new w [.int .i64 7, .int .u64 s, .int .i64 n, .int .u64 c, .int .u64 b, .int .u64 o, .int .u64 p, .bool i, .bool r, .bool d, .bool q, .int .u32 (m : Int), .int .i64 z, .string t] 30)
  have k0 := BR0.out.cell
  have f0 := BR0.out.frozen
  go_enter Tryd.func10, Tryd.ntmps10
  go_wp2_with fail
  refine (bare_any _ _ _ _ _ _ _ _ _ _ _ _ _ _ _).mono ?_
  rintro e w9 ⟨rfl, hb⟩
  go_wp2_with fail
  go_ret
  exact ⟨rfl, ext (below1) hb⟩

set_option maxRecDepth 100000 in
set_option maxHeartbeats 4000000 in
theorem pr_2_len (s n c b o p : Int) (i r d q : Bool) (m : Nat) (z : Int) (t : ByteArray) (w : World) (h8 : t.size ≠ 8) : Calls Tryd.prog 10 #[.agg #[.int .i64 2, .int .u64 s, .int .i64 n, .int .u64 c, .int .u64 b, .int .u64 o, .int .u64 p, .bool i, .bool r, .bool d, .bool q, .int .u32 (m : Int), .int .i64 z, .string t]] w fun e w' => e = .returned (.bool false) ∧ Below w.heap.size w w' := by
  have f0 : ((t.size : Int) != 8) = true := bne_iff_ne.2 (by omega)
  clear h8
  have H0 := Lib.hid ((Held.refl w).lay [.int .i64 2, .int .u64 s, .int .i64 n, .int .u64 c, .int .u64 b, .int .u64 o, .int .u64 p, .bool i, .bool r, .bool d, .bool q, .int .u32 (m : Int), .int .i64 z, .string t] 30)
  have k0 := H0.out.b0.cell
  go_enter Tryd.func10, Tryd.ntmps10
  go_wp2_with fail
  go_ret
  exact ⟨rfl, H0.out.below⟩

set_option maxRecDepth 100000 in
set_option maxHeartbeats 4000000 in
theorem pr_2_lo (s n c b o p : Int) (i r d q : Bool) (m : Nat) (z : Int) (t : ByteArray) (w : World) (h8 : t.size = 8) (h : z < 0) : Calls Tryd.prog 10 #[.agg #[.int .i64 2, .int .u64 s, .int .i64 n, .int .u64 c, .int .u64 b, .int .u64 o, .int .u64 p, .bool i, .bool r, .bool d, .bool q, .int .u32 (m : Int), .int .i64 z, .string t]] w fun e w' => e = .returned (.bool false) ∧ Below w.heap.size w w' := by
  have f9 : ((t.size : Int) != 8) = false := bne_eq_false_iff_eq.2 (by omega)
  have f1 : decide (z < 0) = true := decide_eq_true h
  clear h h8
  have H0 := Lib.hid ((Held.refl w).own [.int .i64 2, .int .u64 s, .int .i64 n, .int .u64 c, .int .u64 b, .int .u64 o, .int .u64 p, .bool i, .bool r, .bool d, .bool q, .int .u32 (m : Int), .int .i64 z, .string t] 30 (n := 14) rfl)
  have BR0 := Lib.hid (Box.new w [.int .i64 2, .int .u64 s, .int .i64 n, .int .u64 c, .int .u64 b, .int .u64 o, .int .u64 p, .bool i, .bool r, .bool d, .bool q, .int .u32 (m : Int), .int .i64 z, .string t] 30)
  have k0 := BR0.out.cell
  have f0 := BR0.out.frozen
  go_enter Tryd.func10, Tryd.ntmps10
  go_wp2_with fail
  go_ret
  exact ⟨rfl, below1⟩

set_option maxRecDepth 100000 in
set_option maxHeartbeats 4000000 in
theorem pr_2_hi (s n c b o p : Int) (i r d q : Bool) (m : Nat) (z : Int) (t : ByteArray) (w : World) (h8 : t.size = 8) (h : 32 ≤ z) : Calls Tryd.prog 10 #[.agg #[.int .i64 2, .int .u64 s, .int .i64 n, .int .u64 c, .int .u64 b, .int .u64 o, .int .u64 p, .bool i, .bool r, .bool d, .bool q, .int .u32 (m : Int), .int .i64 z, .string t]] w fun e w' => e = .returned (.bool false) ∧ Below w.heap.size w w' := by
  have f9 : ((t.size : Int) != 8) = false := bne_eq_false_iff_eq.2 (by omega)
  have f1 : decide (z < 0) = false := decide_eq_false (by omega)
  have f2 : decide (32 ≤ z) = true := decide_eq_true h
  clear h h8
  have H0 := Lib.hid ((Held.refl w).own [.int .i64 2, .int .u64 s, .int .i64 n, .int .u64 c, .int .u64 b, .int .u64 o, .int .u64 p, .bool i, .bool r, .bool d, .bool q, .int .u32 (m : Int), .int .i64 z, .string t] 30 (n := 14) rfl)
  have BR0 := Lib.hid (Box.new w [.int .i64 2, .int .u64 s, .int .i64 n, .int .u64 c, .int .u64 b, .int .u64 o, .int .u64 p, .bool i, .bool r, .bool d, .bool q, .int .u32 (m : Int), .int .i64 z, .string t] 30)
  have k0 := BR0.out.cell
  have f0 := BR0.out.frozen
  go_enter Tryd.func10, Tryd.ntmps10
  go_wp2_with fail
  go_ret
  exact ⟨rfl, below1⟩

set_option maxRecDepth 100000 in
set_option maxHeartbeats 4000000 in
theorem pr_2_in (s n c b o p : Int) (i r d q : Bool) (m : Nat) (z : Int) (t : ByteArray) (w : World) (h8 : t.size = 8) (h : 0 ≤ z) (h2 : z ≤ 31) : Calls Tryd.prog 10 #[.agg #[.int .i64 2, .int .u64 s, .int .i64 n, .int .u64 c, .int .u64 b, .int .u64 o, .int .u64 p, .bool i, .bool r, .bool d, .bool q, .int .u32 (m : Int), .int .i64 z, .string t]] w fun e w' => e = .returned (.bool (bareB ⟨n, c, b, o, p, i, r, d, q, m⟩ 0 ⟨#[]⟩)) ∧ Below w.heap.size w w' := by
  have f9 : ((t.size : Int) != 8) = false := bne_eq_false_iff_eq.2 (by omega)
  have f1 : decide (z < 0) = false := decide_eq_false (by omega)
  have f2 : decide (32 ≤ z) = false := decide_eq_false (by omega)
  clear h h2 h8
  have H0 := Lib.hid ((Held.refl w).own [.int .i64 2, .int .u64 s, .int .i64 n, .int .u64 c, .int .u64 b, .int .u64 o, .int .u64 p, .bool i, .bool r, .bool d, .bool q, .int .u32 (m : Int), .int .i64 z, .string t] 30 (n := 14) rfl)
  have BR0 := Lib.hid (Box.new w [.int .i64 2, .int .u64 s, .int .i64 n, .int .u64 c, .int .u64 b, .int .u64 o, .int .u64 p, .bool i, .bool r, .bool d, .bool q, .int .u32 (m : Int), .int .i64 z, .string t] 30)
  have k0 := BR0.out.cell
  have f0 := BR0.out.frozen
  go_enter Tryd.func10, Tryd.ntmps10
  go_wp2_with fail
  refine (bare_any _ _ _ _ _ _ _ _ _ _ _ _ _ _ _).mono ?_
  rintro e w9 ⟨rfl, hb⟩
  go_wp2_with fail
  go_ret
  exact ⟨rfl, ext (below1) hb⟩

set_option maxRecDepth 100000 in
set_option maxHeartbeats 4000000 in
theorem pr_6_len (s n c b o p : Int) (i r d q : Bool) (m : Nat) (z : Int) (t : ByteArray) (w : World) (h8 : t.size ≠ 8) : Calls Tryd.prog 10 #[.agg #[.int .i64 6, .int .u64 s, .int .i64 n, .int .u64 c, .int .u64 b, .int .u64 o, .int .u64 p, .bool i, .bool r, .bool d, .bool q, .int .u32 (m : Int), .int .i64 z, .string t]] w fun e w' => e = .returned (.bool false) ∧ Below w.heap.size w w' := by
  have f0 : ((t.size : Int) != 8) = true := bne_iff_ne.2 (by omega)
  clear h8
  have H0 := Lib.hid ((Held.refl w).lay [.int .i64 6, .int .u64 s, .int .i64 n, .int .u64 c, .int .u64 b, .int .u64 o, .int .u64 p, .bool i, .bool r, .bool d, .bool q, .int .u32 (m : Int), .int .i64 z, .string t] 30)
  have k0 := H0.out.b0.cell
  go_enter Tryd.func10, Tryd.ntmps10
  go_wp2_with fail
  go_ret
  exact ⟨rfl, H0.out.below⟩

set_option maxRecDepth 100000 in
set_option maxHeartbeats 4000000 in
theorem pr_6_lo (s n c b o p : Int) (i r d q : Bool) (m : Nat) (z : Int) (t : ByteArray) (w : World) (h8 : t.size = 8) (h : z < 0) : Calls Tryd.prog 10 #[.agg #[.int .i64 6, .int .u64 s, .int .i64 n, .int .u64 c, .int .u64 b, .int .u64 o, .int .u64 p, .bool i, .bool r, .bool d, .bool q, .int .u32 (m : Int), .int .i64 z, .string t]] w fun e w' => e = .returned (.bool false) ∧ Below w.heap.size w w' := by
  have f9 : ((t.size : Int) != 8) = false := bne_eq_false_iff_eq.2 (by omega)
  have f1 : decide (z < 0) = true := decide_eq_true h
  clear h h8
  have H0 := Lib.hid ((Held.refl w).own [.int .i64 6, .int .u64 s, .int .i64 n, .int .u64 c, .int .u64 b, .int .u64 o, .int .u64 p, .bool i, .bool r, .bool d, .bool q, .int .u32 (m : Int), .int .i64 z, .string t] 30 (n := 14) rfl)
  have BR0 := Lib.hid (Box.new w [.int .i64 6, .int .u64 s, .int .i64 n, .int .u64 c, .int .u64 b, .int .u64 o, .int .u64 p, .bool i, .bool r, .bool d, .bool q, .int .u32 (m : Int), .int .i64 z, .string t] 30)
  have k0 := BR0.out.cell
  have f0 := BR0.out.frozen
  go_enter Tryd.func10, Tryd.ntmps10
  go_wp2_with fail
  go_ret
  exact ⟨rfl, below1⟩

set_option maxRecDepth 100000 in
set_option maxHeartbeats 4000000 in
theorem pr_6_hi (s n c b o p : Int) (i r d q : Bool) (m : Nat) (z : Int) (t : ByteArray) (w : World) (h8 : t.size = 8) (h : 32 ≤ z) : Calls Tryd.prog 10 #[.agg #[.int .i64 6, .int .u64 s, .int .i64 n, .int .u64 c, .int .u64 b, .int .u64 o, .int .u64 p, .bool i, .bool r, .bool d, .bool q, .int .u32 (m : Int), .int .i64 z, .string t]] w fun e w' => e = .returned (.bool false) ∧ Below w.heap.size w w' := by
  have f9 : ((t.size : Int) != 8) = false := bne_eq_false_iff_eq.2 (by omega)
  have f1 : decide (z < 0) = false := decide_eq_false (by omega)
  have f2 : decide (32 ≤ z) = true := decide_eq_true h
  clear h h8
  have H0 := Lib.hid ((Held.refl w).own [.int .i64 6, .int .u64 s, .int .i64 n, .int .u64 c, .int .u64 b, .int .u64 o, .int .u64 p, .bool i, .bool r, .bool d, .bool q, .int .u32 (m : Int), .int .i64 z, .string t] 30 (n := 14) rfl)
  have BR0 := Lib.hid (Box.new w [.int .i64 6, .int .u64 s, .int .i64 n, .int .u64 c, .int .u64 b, .int .u64 o, .int .u64 p, .bool i, .bool r, .bool d, .bool q, .int .u32 (m : Int), .int .i64 z, .string t] 30)
  have k0 := BR0.out.cell
  have f0 := BR0.out.frozen
  go_enter Tryd.func10, Tryd.ntmps10
  go_wp2_with fail
  go_ret
  exact ⟨rfl, below1⟩

set_option maxRecDepth 100000 in
set_option maxHeartbeats 4000000 in
theorem pr_6_in (s n c b o p : Int) (i r d q : Bool) (m : Nat) (z : Int) (t : ByteArray) (w : World) (h8 : t.size = 8) (h : 0 ≤ z) (h2 : z ≤ 31) : Calls Tryd.prog 10 #[.agg #[.int .i64 6, .int .u64 s, .int .i64 n, .int .u64 c, .int .u64 b, .int .u64 o, .int .u64 p, .bool i, .bool r, .bool d, .bool q, .int .u32 (m : Int), .int .i64 z, .string t]] w fun e w' => e = .returned (.bool (bareB ⟨n, c, b, o, p, i, r, d, q, m⟩ 0 ⟨#[]⟩)) ∧ Below w.heap.size w w' := by
  have f9 : ((t.size : Int) != 8) = false := bne_eq_false_iff_eq.2 (by omega)
  have f1 : decide (z < 0) = false := decide_eq_false (by omega)
  have f2 : decide (32 ≤ z) = false := decide_eq_false (by omega)
  clear h h2 h8
  have H0 := Lib.hid ((Held.refl w).own [.int .i64 6, .int .u64 s, .int .i64 n, .int .u64 c, .int .u64 b, .int .u64 o, .int .u64 p, .bool i, .bool r, .bool d, .bool q, .int .u32 (m : Int), .int .i64 z, .string t] 30 (n := 14) rfl)
  have BR0 := Lib.hid (Box.new w [.int .i64 6, .int .u64 s, .int .i64 n, .int .u64 c, .int .u64 b, .int .u64 o, .int .u64 p, .bool i, .bool r, .bool d, .bool q, .int .u32 (m : Int), .int .i64 z, .string t] 30)
  have k0 := BR0.out.cell
  have f0 := BR0.out.frozen
  go_enter Tryd.func10, Tryd.ntmps10
  go_wp2_with fail
  refine (bare_any _ _ _ _ _ _ _ _ _ _ _ _ _ _ _).mono ?_
  rintro e w9 ⟨rfl, hb⟩
  go_wp2_with fail
  go_ret
  exact ⟨rfl, ext (below1) hb⟩

set_option maxRecDepth 100000 in
set_option maxHeartbeats 4000000 in
theorem pr_1_no (s n c b o p : Int) (i r d q : Bool) (m : Nat) (z : Int) (t : ByteArray) (w : World) (hm : m < 4294967296) (hg : Hel.right ⟨n, c, b, o, p, i, r, d, q, m⟩ = false) : Calls Tryd.prog 10 #[.agg #[.int .i64 1, .int .u64 s, .int .i64 n, .int .u64 c, .int .u64 b, .int .u64 o, .int .u64 p, .bool i, .bool r, .bool d, .bool q, .int .u32 (m : Int), .int .i64 z, .string t]] w fun e w' => e = .returned (.bool false) ∧ Below w.heap.size w w' := by
  have hr := fun w => hright_any ⟨n, c, b, o, p, i, r, d, q, m⟩ w hm
  rw [hg] at hr
  have HR := Lib.hid hr; clear hr hg hm
  have H0 := Lib.hid ((Held.refl w).own [.int .i64 1, .int .u64 s, .int .i64 n, .int .u64 c, .int .u64 b, .int .u64 o, .int .u64 p, .bool i, .bool r, .bool d, .bool q, .int .u32 (m : Int), .int .i64 z, .string t] 30 (n := 14) rfl)
  have BR0 := Lib.hid (Box.new w [.int .i64 1, .int .u64 s, .int .i64 n, .int .u64 c, .int .u64 b, .int .u64 o, .int .u64 p, .bool i, .bool r, .bool d, .bool q, .int .u32 (m : Int), .int .i64 z, .string t] 30)
  have k0 := BR0.out.cell
  have f0 := BR0.out.frozen
  go_enter Tryd.func10, Tryd.ntmps10
  go_wp2_with fail
  refine (HR.out _).mono ?_
  rintro e w1 ⟨rfl, hb⟩
  have H1 := Lib.hid (H0.out.up hb)
  have BR1 := Lib.hid (BR0.out.below hb)
  clear hb k0 f0
  have k0 := BR1.out.cell
  have f0 := BR1.out.frozen
  go_wp2_with fail
  go_ret
  exact ⟨rfl, (H1.out.set10b (b := w.heap.size) ⟨14, by simp⟩ _ _ _ _ _ _ _ _ _ _).below⟩

set_option maxRecDepth 100000 in
set_option maxHeartbeats 4000000 in
theorem pr_1_yes (s n c b o p : Int) (i r d q : Bool) (m : Nat) (z : Int) (t : ByteArray) (w : World) (hm : m < 4294967296) (hg : Hel.right ⟨n, c, b, o, p, i, r, d, q, m⟩ = true) : Calls Tryd.prog 10 #[.agg #[.int .i64 1, .int .u64 s, .int .i64 n, .int .u64 c, .int .u64 b, .int .u64 o, .int .u64 p, .bool i, .bool r, .bool d, .bool q, .int .u32 (m : Int), .int .i64 z, .string t]] w fun e w' => e = .returned (.bool (bareB Hel.zero z t)) ∧ Below w.heap.size w w' := by
  have hr := fun w => hright_any ⟨n, c, b, o, p, i, r, d, q, m⟩ w hm
  rw [hg] at hr
  have HR := Lib.hid hr; clear hr hg hm
  have H0 := Lib.hid ((Held.refl w).own [.int .i64 1, .int .u64 s, .int .i64 n, .int .u64 c, .int .u64 b, .int .u64 o, .int .u64 p, .bool i, .bool r, .bool d, .bool q, .int .u32 (m : Int), .int .i64 z, .string t] 30 (n := 14) rfl)
  have BR0 := Lib.hid (Box.new w [.int .i64 1, .int .u64 s, .int .i64 n, .int .u64 c, .int .u64 b, .int .u64 o, .int .u64 p, .bool i, .bool r, .bool d, .bool q, .int .u32 (m : Int), .int .i64 z, .string t] 30)
  have k0 := BR0.out.cell
  have f0 := BR0.out.frozen
  go_enter Tryd.func10, Tryd.ntmps10
  go_wp2_with fail
  refine (HR.out _).mono ?_
  rintro e w1 ⟨rfl, hb⟩
  have H1 := Lib.hid (H0.out.up hb)
  have BR1 := Lib.hid (BR0.out.below hb)
  clear hb k0 f0
  have k0 := BR1.out.cell
  have f0 := BR1.out.frozen
  go_wp2_with fail
  refine (bare_any _ _ _ _ _ _ _ _ _ _ _ _ _ _ _).mono ?_
  rintro e w9 ⟨rfl, hb⟩
  go_wp2_with fail
  go_ret
  exact ⟨rfl, ext ((H1.out.set10b (b := w.heap.size) ⟨14, by simp⟩ _ _ _ _ _ _ _ _ _ _).below) hb⟩

theorem bareB_zero (z : Int) (t : ByteArray) : bareB Hel.zero z t = (decide (z = 0) && decide (t.size = 0)) := by
  unfold bareB
  rw [show Hel.zero.none = true from by decide]
  simp
theorem bareB_none (h : Hel) : bareB h 0 ⟨#[]⟩ = h.none := by
  unfold bareB
  rw [show (⟨#[]⟩ : ByteArray).size = 0 from rfl]
  simp

theorem pright_any (p : Pkt) (w : World) (hm : p.h.m < 4294967296) : Calls Tryd.prog 10 #[pktV p] w fun e w' => e = .returned (.bool p.right) ∧ Below w.heap.size w w' := by
  obtain ⟨k, s, ⟨n, c, b, o, p, i, r, d, q, m⟩, z, t⟩ := p
  dsimp only [pktV] at *
  have hlen0 : ∀ t : ByteArray, t.size ≠ 8 → decide (t.size = 8) = false := fun t h => decide_eq_false h
  by_cases hk : k < 1 ∨ 13 < k
  · have e : Pkt.right ⟨k, s, ⟨n, c, b, o, p, i, r, d, q, m⟩, z, t⟩ = false := by
      unfold Pkt.right
      rcases hk with h | h
      · simp [show ¬ (1 ≤ k) from by omega]
      · simp [show ¬ (k ≤ 13) from by omega]
    rw [e]
    exact pr_other k s n c b o p i r d q m z t w hk
  · have hk2 : k = 1 ∨ k = 2 ∨ k = 3 ∨ k = 4 ∨ k = 5 ∨ k = 6 ∨ k = 7 ∨ k = 8 ∨ k = 9 ∨ k = 10 ∨ k = 11 ∨ k = 12 ∨ k = 13 := by omega
    clear hk
    rcases hk2 with rfl | rfl | rfl | rfl | rfl | rfl | rfl | rfl | rfl | rfl | rfl | rfl | rfl
    · cases hg : Hel.right ⟨n, c, b, o, p, i, r, d, q, m⟩
      · have e : Pkt.right ⟨1, s, ⟨n, c, b, o, p, i, r, d, q, m⟩, z, t⟩ = false := by
          unfold Pkt.right
          rw [if_pos rfl, hg]
          simp
        rw [e]
        exact pr_1_no s n c b o p i r d q m z t w hm hg
      · have e : Pkt.right ⟨1, s, ⟨n, c, b, o, p, i, r, d, q, m⟩, z, t⟩ = bareB Hel.zero z t := by
          unfold Pkt.right blockK dataK
          rw [if_pos rfl, hg, bareB_zero]
          by_cases h0 : z = 0 <;> by_cases h8 : t.size = 0 <;> simp [h0, h8]
        rw [e]
        exact pr_1_yes s n c b o p i r d q m z t w hm hg
    · by_cases h8 : t.size = 8
      · by_cases h0 : z < 0
        · have e : Pkt.right ⟨2, s, ⟨n, c, b, o, p, i, r, d, q, m⟩, z, t⟩ = false := by
            unfold Pkt.right
            simp [show ¬ (0 ≤ z) from by omega]
          rw [e]
          exact pr_2_lo s n c b o p i r d q m z t w h8 h0
        · by_cases h1 : 32 ≤ z
          · have e : Pkt.right ⟨2, s, ⟨n, c, b, o, p, i, r, d, q, m⟩, z, t⟩ = false := by
              unfold Pkt.right
              simp [show ¬ (z ≤ 31) from by omega]
            rw [e]
            exact pr_2_hi s n c b o p i r d q m z t w h8 h1
          · have e : Pkt.right ⟨2, s, ⟨n, c, b, o, p, i, r, d, q, m⟩, z, t⟩ = bareB ⟨n, c, b, o, p, i, r, d, q, m⟩ 0 ⟨#[]⟩ := by
              unfold Pkt.right blockK dataK
              rw [bareB_none]
              simp [show 0 ≤ z from by omega, show z ≤ 31 from by omega, h8]
            rw [e]
            exact pr_2_in s n c b o p i r d q m z t w h8 (by omega) (by omega)
      · have e : Pkt.right ⟨2, s, ⟨n, c, b, o, p, i, r, d, q, m⟩, z, t⟩ = false := by
          unfold Pkt.right dataK
          simp [h8]
        rw [e]
        exact pr_2_len s n c b o p i r d q m z t w h8
    · by_cases h0 : z < 0
      · have e : Pkt.right ⟨3, s, ⟨n, c, b, o, p, i, r, d, q, m⟩, z, t⟩ = false := by
          unfold Pkt.right
          simp [show ¬ (0 ≤ z) from by omega]
        rw [e]
        exact pr_3_lo s n c b o p i r d q m z t w h0
      · by_cases h1 : 32 ≤ z
        · have e : Pkt.right ⟨3, s, ⟨n, c, b, o, p, i, r, d, q, m⟩, z, t⟩ = false := by
            unfold Pkt.right
            simp [show ¬ (z ≤ 31) from by omega]
          rw [e]
          exact pr_3_hi s n c b o p i r d q m z t w h1
        · have e : Pkt.right ⟨3, s, ⟨n, c, b, o, p, i, r, d, q, m⟩, z, t⟩ = bareB ⟨n, c, b, o, p, i, r, d, q, m⟩ 0 t := by
            unfold Pkt.right blockK dataK bareB
            skip
            simp [show 0 ≤ z from by omega, show z ≤ 31 from by omega]
          rw [e]
          exact pr_3_in s n c b o p i r d q m z t w (by omega) (by omega)
    · by_cases h0 : z < 0
      · have e : Pkt.right ⟨4, s, ⟨n, c, b, o, p, i, r, d, q, m⟩, z, t⟩ = false := by
          unfold Pkt.right
          simp [show ¬ (0 ≤ z) from by omega]
        rw [e]
        exact pr_4_lo s n c b o p i r d q m z t w h0
      · by_cases h1 : 32 ≤ z
        · have e : Pkt.right ⟨4, s, ⟨n, c, b, o, p, i, r, d, q, m⟩, z, t⟩ = false := by
            unfold Pkt.right
            simp [show ¬ (z ≤ 31) from by omega]
          rw [e]
          exact pr_4_hi s n c b o p i r d q m z t w h1
        · have e : Pkt.right ⟨4, s, ⟨n, c, b, o, p, i, r, d, q, m⟩, z, t⟩ = bareB ⟨n, c, b, o, p, i, r, d, q, m⟩ 0 t := by
            unfold Pkt.right blockK dataK bareB
            skip
            simp [show 0 ≤ z from by omega, show z ≤ 31 from by omega]
          rw [e]
          exact pr_4_in s n c b o p i r d q m z t w (by omega) (by omega)
    · by_cases h0 : z < 0
      · have e : Pkt.right ⟨5, s, ⟨n, c, b, o, p, i, r, d, q, m⟩, z, t⟩ = false := by
          unfold Pkt.right
          simp [show ¬ (0 ≤ z) from by omega]
        rw [e]
        exact pr_5_lo s n c b o p i r d q m z t w h0
      · by_cases h1 : 32 ≤ z
        · have e : Pkt.right ⟨5, s, ⟨n, c, b, o, p, i, r, d, q, m⟩, z, t⟩ = false := by
            unfold Pkt.right
            simp [show ¬ (z ≤ 31) from by omega]
          rw [e]
          exact pr_5_hi s n c b o p i r d q m z t w h1
        · have e : Pkt.right ⟨5, s, ⟨n, c, b, o, p, i, r, d, q, m⟩, z, t⟩ = bareB ⟨n, c, b, o, p, i, r, d, q, m⟩ 0 t := by
            unfold Pkt.right blockK dataK bareB
            skip
            simp [show 0 ≤ z from by omega, show z ≤ 31 from by omega]
          rw [e]
          exact pr_5_in s n c b o p i r d q m z t w (by omega) (by omega)
    · by_cases h8 : t.size = 8
      · by_cases h0 : z < 0
        · have e : Pkt.right ⟨6, s, ⟨n, c, b, o, p, i, r, d, q, m⟩, z, t⟩ = false := by
            unfold Pkt.right
            simp [show ¬ (0 ≤ z) from by omega]
          rw [e]
          exact pr_6_lo s n c b o p i r d q m z t w h8 h0
        · by_cases h1 : 32 ≤ z
          · have e : Pkt.right ⟨6, s, ⟨n, c, b, o, p, i, r, d, q, m⟩, z, t⟩ = false := by
              unfold Pkt.right
              simp [show ¬ (z ≤ 31) from by omega]
            rw [e]
            exact pr_6_hi s n c b o p i r d q m z t w h8 h1
          · have e : Pkt.right ⟨6, s, ⟨n, c, b, o, p, i, r, d, q, m⟩, z, t⟩ = bareB ⟨n, c, b, o, p, i, r, d, q, m⟩ 0 ⟨#[]⟩ := by
              unfold Pkt.right blockK dataK
              rw [bareB_none]
              simp [show 0 ≤ z from by omega, show z ≤ 31 from by omega, h8]
            rw [e]
            exact pr_6_in s n c b o p i r d q m z t w h8 (by omega) (by omega)
      · have e : Pkt.right ⟨6, s, ⟨n, c, b, o, p, i, r, d, q, m⟩, z, t⟩ = false := by
          unfold Pkt.right dataK
          simp [h8]
        rw [e]
        exact pr_6_len s n c b o p i r d q m z t w h8
    · by_cases h0 : z < 0
      · have e : Pkt.right ⟨7, s, ⟨n, c, b, o, p, i, r, d, q, m⟩, z, t⟩ = false := by
          unfold Pkt.right
          simp [show ¬ (0 ≤ z) from by omega]
        rw [e]
        exact pr_7_lo s n c b o p i r d q m z t w h0
      · by_cases h1 : 32 ≤ z
        · have e : Pkt.right ⟨7, s, ⟨n, c, b, o, p, i, r, d, q, m⟩, z, t⟩ = false := by
            unfold Pkt.right
            simp [show ¬ (z ≤ 31) from by omega]
          rw [e]
          exact pr_7_hi s n c b o p i r d q m z t w h1
        · have e : Pkt.right ⟨7, s, ⟨n, c, b, o, p, i, r, d, q, m⟩, z, t⟩ = bareB ⟨n, c, b, o, p, i, r, d, q, m⟩ 0 t := by
            unfold Pkt.right blockK dataK bareB
            skip
            simp [show 0 ≤ z from by omega, show z ≤ 31 from by omega]
          rw [e]
          exact pr_7_in s n c b o p i r d q m z t w (by omega) (by omega)
    · have e : Pkt.right ⟨8, s, ⟨n, c, b, o, p, i, r, d, q, m⟩, z, t⟩ = bareB ⟨n, c, b, o, p, i, r, d, q, m⟩ z t := by
        unfold Pkt.right blockK dataK bareB
        by_cases h0 : z = 0 <;> by_cases h8 : t.size = 0 <;> simp [h0, h8]
      rw [e]
      exact pr_8 s n c b o p i r d q m z t w
    · have e : Pkt.right ⟨9, s, ⟨n, c, b, o, p, i, r, d, q, m⟩, z, t⟩ = bareB ⟨n, c, b, o, p, i, r, d, q, m⟩ z t := by
        unfold Pkt.right blockK dataK bareB
        by_cases h0 : z = 0 <;> by_cases h8 : t.size = 0 <;> simp [h0, h8]
      rw [e]
      exact pr_9 s n c b o p i r d q m z t w
    · have e : Pkt.right ⟨10, s, ⟨n, c, b, o, p, i, r, d, q, m⟩, z, t⟩ = bareB ⟨n, c, b, o, p, i, r, d, q, m⟩ z t := by
        unfold Pkt.right blockK dataK bareB
        by_cases h0 : z = 0 <;> by_cases h8 : t.size = 0 <;> simp [h0, h8]
      rw [e]
      exact pr_10 s n c b o p i r d q m z t w
    · have e : Pkt.right ⟨11, s, ⟨n, c, b, o, p, i, r, d, q, m⟩, z, t⟩ = bareB ⟨n, c, b, o, p, i, r, d, q, m⟩ z t := by
        unfold Pkt.right blockK dataK bareB
        by_cases h0 : z = 0 <;> by_cases h8 : t.size = 0 <;> simp [h0, h8]
      rw [e]
      exact pr_11 s n c b o p i r d q m z t w
    · have e : Pkt.right ⟨12, s, ⟨n, c, b, o, p, i, r, d, q, m⟩, z, t⟩ = bareB ⟨n, c, b, o, p, i, r, d, q, m⟩ z t := by
        unfold Pkt.right blockK dataK bareB
        by_cases h0 : z = 0 <;> by_cases h8 : t.size = 0 <;> simp [h0, h8]
      rw [e]
      exact pr_12 s n c b o p i r d q m z t w
    · have e : Pkt.right ⟨13, s, ⟨n, c, b, o, p, i, r, d, q, m⟩, z, t⟩ = bareB ⟨n, c, b, o, p, i, r, d, q, m⟩ z t := by
        unfold Pkt.right blockK dataK bareB
        by_cases h0 : z = 0 <;> by_cases h8 : t.size = 0 <;> simp [h0, h8]
      rw [e]
      exact pr_13 s n c b o p i r d q m z t w
end Go.Proofs.YtbbcncofdhhflaaDoor
