/- Packets: two hellos and two packets compared; the document's block, data, and whether a packet may be. No condition but the width of the mask. -/
import Derived.Test.YtbbcncofdhhflaaDoorPK0
namespace Go.Proofs.YtbbcncofdhhflaaDoor
open Go.RowKit

theorem pk_u64 : Tryd.prog.cellsOf 22 = 1 := by kernel_rfl

@[go_sem] theorem eql_old2 (d : Nat) (o1 p1 o2 p2 : Int) (w : World) :
    (Op.equalIn (d + 2) 23 (.agg #[.int .u64 o1, .int .u64 p1]) (.agg #[.int .u64 o2, .int .u64 p2])).run Tryd.prog w = .ok (o1 == o2 && p1 == p2) w := by
  obtain ⟨i, hi⟩ := info_of_underlying Tryd.underlying22
  rw [show d + 2 = (d + 1) + 1 from rfl, run_equalIn_array w (d + 1) _ _ Tryd.underlying23 hi, pk_u64]
  cases h1 : (o1 == o2) <;> cases h2 : (p1 == p2) <;> simp [List.range, List.range.loop, Op.eqItems, go_sem, h1, h2]

theorem eql_vec4 (d : Nat) (c b o p c2 b2 o2 p2 : Int) (w : World) :
    (Op.equalIn (d + 3) 25 (.agg #[.int .u64 c, .int .u64 b, .int .u64 o, .int .u64 p]) (.agg #[.int .u64 c2, .int .u64 b2, .int .u64 o2, .int .u64 p2])).run Tryd.prog w = .ok (c == c2 && (b == b2 && (o == o2 && p == p2))) w := by
  rw [show d + 3 = (d + 2) + 1 from rfl, run_equalIn_struct w (d + 2) _ _ _ (by kernel_rfl) (by kernel_rfl)]
  cases h1 : (c == c2) <;> cases h2 : (b == b2) <;> cases h3 : (o == o2 && p == p2) <;> simp [go_sem, h1, h2, h3]

/-- Two hellos, compared. -/
def eqH (x y : Hel) : Bool := (x.n == y.n) && ((x.c == y.c && (x.b == y.b && (x.o == y.o && x.p == y.p))) && ((x.i == y.i) && ((x.r == y.r) && ((x.d == y.d) && ((x.q == y.q) && (((x.m : Int) == (y.m : Int))))))))

set_option maxHeartbeats 1000000 in
theorem eql_hel (d : Nat) (x y : Hel) (w : World) : (Op.equalIn (d + 4) 28 (helV x) (helV y)).run Tryd.prog w = .ok (eqH x y) w := by
  unfold eqH
  rw [show d + 4 = (d + 3) + 1 from rfl, run_equalIn_struct w (d + 3) _ _ _ (by kernel_rfl) (by kernel_rfl)]
  cases h0 : (x.n == y.n)
  · simp [go_sem, eql_vec4, h0]
  · cases h1 : (x.c == y.c && (x.b == y.b && (x.o == y.o && x.p == y.p)))
    · simp [go_sem, eql_vec4, h0, h1]
    · cases h2 : (x.i == y.i)
      · simp [go_sem, eql_vec4, h0, h1, h2]
      · cases h3 : (x.r == y.r)
        · simp [go_sem, eql_vec4, h0, h1, h2, h3]
        · cases h4 : (x.d == y.d)
          · simp [go_sem, eql_vec4, h0, h1, h2, h3, h4]
          · cases h5 : (x.q == y.q)
            · simp [go_sem, eql_vec4, h0, h1, h2, h3, h4, h5]
            · cases h6 : ((x.m : Int) == (y.m : Int))
              · simp [go_sem, eql_vec4, h0, h1, h2, h3, h4, h5, h6]
              · simp [go_sem, eql_vec4, h0, h1, h2, h3, h4, h5, h6]

/-- Two packets, compared. -/
def eqP (x y : Pkt) : Bool := (x.k == y.k) && ((x.s == y.s) && ((eqH x.h y.h) && ((x.b == y.b) && ((x.d.toList == y.d.toList)))))

set_option maxHeartbeats 1000000 in
theorem eql_pkt (d : Nat) (x y : Pkt) (w : World) : (Op.equalIn (d + 5) 30 (pktV x) (pktV y)).run Tryd.prog w = .ok (eqP x y) w := by
  unfold eqP
  rw [show d + 5 = (d + 4) + 1 from rfl, run_equalIn_struct w (d + 4) _ _ _ (by kernel_rfl) (by kernel_rfl)]
  cases h0 : (x.k == y.k)
  · simp [go_sem, eql_hel, h0]
  · cases h1 : (x.s == y.s)
    · simp [go_sem, eql_hel, h0, h1]
    · cases h2 : (eqH x.h y.h)
      · simp [go_sem, eql_hel, h0, h1, h2]
      · cases h3 : (x.b == y.b)
        · simp [go_sem, eql_hel, h0, h1, h2, h3]
        · cases h4 : (x.d.toList == y.d.toList)
          · simp [go_sem, eql_hel, h0, h1, h2, h3, h4]
          · simp [go_sem, eql_hel, h0, h1, h2, h3, h4]

theorem eqH_none (h : Hel) : eqH h Hel.zero = h.none := by
  obtain ⟨n, c, b, o, p, i, r, d, q, m⟩ := h
  unfold eqH Hel.none Hel.zero
  cases i <;> cases r <;> cases d <;> cases q <;> simp [Bool.beq_eq_decide_eq]
@[go_sem 5000] theorem eql_helz (x : Nat) (n c b o p : Int) (i r d q : Bool) (m : Nat) (w : World) : (Op.equalIn (x + 4) 28 (.agg #[.int .i64 n, .int .u64 c, .int .u64 b, .int .u64 o, .int .u64 p, .bool i, .bool r, .bool d, .bool q, .int .u32 (m : Int)]) (.agg #[.int .i64 0, .int .u64 0, .int .u64 0, .int .u64 0, .int .u64 0, .bool false, .bool false, .bool false, .bool false, .int .u32 0])).run Tryd.prog w = .ok (Hel.none ⟨n, c, b, o, p, i, r, d, q, m⟩) w := by
  have := eql_hel x ⟨n, c, b, o, p, i, r, d, q, m⟩ Hel.zero w
  rw [eqH_none] at this
  exact this

theorem eqH_self (h : Hel) : eqH h h = true := by unfold eqH; simp
theorem eqP_self (p : Pkt) : eqP p p = true := by unfold eqP; simp [eqH_self]
@[go_sem 5000] theorem eql_pkts (x : Nat) (k s n c b o p : Int) (i r d q : Bool) (m : Nat) (z : Int) (t : ByteArray) (w : World) : (Op.equalIn (x + 5) 30 (.agg #[.int .i64 k, .int .u64 s, .int .i64 n, .int .u64 c, .int .u64 b, .int .u64 o, .int .u64 p, .bool i, .bool r, .bool d, .bool q, .int .u32 (m : Int), .int .i64 z, .string t]) (.agg #[.int .i64 k, .int .u64 s, .int .i64 n, .int .u64 c, .int .u64 b, .int .u64 o, .int .u64 p, .bool i, .bool r, .bool d, .bool q, .int .u32 (m : Int), .int .i64 z, .string t])).run Tryd.prog w = .ok true w := by
  have := eql_pkt x ⟨k, s, ⟨n, c, b, o, p, i, r, d, q, m⟩, z, t⟩ ⟨k, s, ⟨n, c, b, o, p, i, r, d, q, m⟩, z, t⟩ w
  rw [eqP_self] at this
  exact this

theorem rblock_any (k : Int) (w : World) : Calls Tryd.prog 24 #[.int .i64 k] w fun e w' => e = .returned (.bool (blockK k)) ∧ w' = w := by
  unfold blockK
  by_cases h : 2 ≤ k
  · have e : decide (2 ≤ k) = true := decide_eq_true h
    go_enter Tryd.func24, Tryd.ntmps24
    go_wp2
    go_ret
    exact ⟨ret_bool (by simp [h]), rfl⟩
  · have e : decide (2 ≤ k) = false := decide_eq_false h
    go_enter Tryd.func24, Tryd.ntmps24
    go_wp2
    go_ret
    exact ⟨ret_bool (by simp), rfl⟩

theorem rdata_any (k : Int) (w : World) : Calls Tryd.prog 25 #[.int .i64 k] w fun e w' => e = .returned (.bool (dataK k)) ∧ w' = w := by
  unfold dataK
  by_cases h : k = 2
  · subst h
    go_enter Tryd.func25, Tryd.ntmps25
    go_wp2
    go_ret
    exact ⟨ret_bool (by simp), rfl⟩
  · have e : (k == 2) = false := beq_eq_false_iff_ne.2 h
    go_enter Tryd.func25, Tryd.ntmps25
    go_wp2
    go_ret
    exact ⟨ret_bool (by simp [h, Bool.beq_eq_decide_eq]), rfl⟩
end Go.Proofs.YtbbcncofdhhflaaDoor
