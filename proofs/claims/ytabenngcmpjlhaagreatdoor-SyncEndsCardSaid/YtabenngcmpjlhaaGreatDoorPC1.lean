/- Packets: whether one may be, by the code, carried out plainly; for every packet. No other condition but the width of the mask. -/
import Derived.Test.YtabenngcmpjlhaaGreatDoorQ3
import Derived.Test.YtabenngcmpjlhaaGreatDoorQX
import Derived.Test.YtabenngcmpjlhaaGreatDoorKB
import Derived.Test.YtabenngcmpjlhaaGreatDoorPM
namespace Go.Proofs.YtabenngcmpjlhaaGreatDoor
open Go.RowKit
theorem hfl_bits (x : Nat) (h : x < 16) : fl [decide (x % 2 = 1), decide (x / 2 % 2 = 1), decide (x / 2 / 2 % 2 = 1), decide (x / 2 / 2 / 2 % 2 = 1)] = x := by
  have : ∀ x : Fin 16, fl [decide (x.1 % 2 = 1), decide (x.1 / 2 % 2 = 1), decide (x.1 / 2 / 2 % 2 = 1), decide (x.1 / 2 / 2 / 2 % 2 = 1)] = x.1 := by decide
  exact this ⟨x, h⟩
theorem body_hel (l : List UInt8) (hl : l.length = 38) (h8 : (l.getD 1 0).toNat < 16) : (helOf l).body = l := by
  have b5 := be_drop l 2 (by omega)
  have b13 := be_drop l 10 (by omega)
  have b21 := be_drop l 18 (by omega)
  have b29 := be_drop l 26 (by omega)
  have b37 : be 4 (val (l.drop 34)) = l.drop 34 := by
    have h := be_val (l.drop 34)
    rw [List.length_drop, hl] at h
    exact h
  unfold Hel.body helOf
  dsimp only
  rw [b5, b13, b21, b29, b37, Int.toNat_natCast, hfl_bits _ h8, UInt8.ofNat_toNat, UInt8.ofNat_toNat]
  have s29 : (l.drop 26).take 8 ++ l.drop 34 = l.drop 26 := by have := List.take_append_drop 8 (l.drop 26); rw [List.drop_drop] at this; exact this
  have s21 : (l.drop 18).take 8 ++ l.drop 26 = l.drop 18 := by have := List.take_append_drop 8 (l.drop 18); rw [List.drop_drop] at this; exact this
  have s13 : (l.drop 10).take 8 ++ l.drop 18 = l.drop 10 := by have := List.take_append_drop 8 (l.drop 10); rw [List.drop_drop] at this; exact this
  have s5 : (l.drop 2).take 8 ++ l.drop 10 = l.drop 2 := by have := List.take_append_drop 8 (l.drop 2); rw [List.drop_drop] at this; exact this
  simp only [List.append_assoc]
  rw [s29, s21, s13, s5]
  match l, hl with
  | x0 :: x1 :: r, _ => rfl
theorem helOf_wide (l : List UInt8) (hl : l.length = 38) : (helOf l).wide := by
  refine ⟨num8_range _ _, num8_range _ _, num8_range _ _, num8_range _ _, ?_⟩
  show val (l.drop 34) < 4294967296
  have h := val_lt (l.drop 34)
  rw [List.length_drop, hl] at h
  exact h
theorem bytes_hdec (x : ByteArray) (h : (hdec x).2 = 0) : (hdec x).1.right = true ∧ (hdec x).1.wide ∧ (hdec x).1.bytes = x := by
  unfold hdec at *
  by_cases hf : hformed x.data.toList = true
  · rw [if_pos hf] at *
    unfold hformed at hf
    simp only [Bool.and_eq_true, decide_eq_true_eq] at hf
    refine ⟨hf.2, helOf_wide _ hf.1.1, ?_⟩
    unfold Hel.bytes
    rw [body_hel _ hf.1.1 hf.1.2, txt_of]
  · rw [if_neg hf] at h
    cases h
theorem hdec_zero (x : ByteArray) (h : (hdec x).2 ≠ 0) : (hdec x).1 = Hel.zero := by
  unfold hdec at *
  by_cases hf : hformed x.data.toList = true
  · rw [if_pos hf] at h
    exact absurd rfl h
  · rw [if_neg hf]
def Hel.encT (s : Hel) : ByteArray := if s.right = true then s.bytes else ⟨#[]⟩
def Hel.encE (s : Hel) : Int := if s.right = true then 0 else 1
end Go.Proofs.YtabenngcmpjlhaaGreatDoor
namespace Go.Proofs.YtabenngcmpjlhaaGreatDoor
open Go.RowKit
structure Pkt where
  k : Int
  s : Int
  h : Hel
  b : Int
  d : ByteArray
@[reducible] def pktV (p : Pkt) : Value := .agg #[.int .i64 p.k, .int .u64 p.s, .int .i64 p.h.n, .int .u64 p.h.c, .int .u64 p.h.b, .int .u64 p.h.o, .int .u64 p.h.p, .bool p.h.i, .bool p.h.r, .bool p.h.d, .bool p.h.q, .int .u32 (p.h.m : Int), .int .i64 p.b, .string p.d]
def Pkt.zero : Pkt := ⟨0, 0, Hel.zero, 0, ⟨#[]⟩⟩
def Pkt.wide (p : Pkt) : Prop := (0 ≤ p.s ∧ p.s < 18446744073709551616) ∧ p.h.wide
def blockK (k : Int) : Bool := decide (2 ≤ k) && decide (k ≤ 7)
def dataK (k : Int) : Bool := decide (k = 2) || decide (k = 6)
def Hel.none (h : Hel) : Bool := decide (h.n = 0) && (decide (h.c = 0) && (decide (h.b = 0) && (decide (h.o = 0) && decide (h.p = 0))) && (!h.i && (!h.r && (!h.d && (!h.q && decide ((h.m : Int) = 0))))))
theorem Hel.none_iff {h : Hel} : h.none = true ↔ h = Hel.zero := by
  obtain ⟨n, c, b, o, p, i, r, d, q, m⟩ := h
  unfold Hel.none Hel.zero
  simp
  intro _
  constructor
  · rintro ⟨⟨h2, h3, h4, h5⟩, h6, h7, h8, h9, h10⟩
    exact ⟨h2, h3, h4, h5, h6, h7, h8, h9, h10⟩
  · rintro ⟨h2, h3, h4, h5, h6, h7, h8, h9, h10⟩
    exact ⟨⟨h2, h3, h4, h5⟩, h6, h7, h8, h9, h10⟩
def Pkt.right (p : Pkt) : Bool :=
  (decide (1 ≤ p.k) && decide (p.k ≤ 13)) && ((if p.k = 1 then p.h.right else p.h.none) && ((decide (0 ≤ p.b) && decide (p.b ≤ 31) && (blockK p.k || decide (p.b = 0))) && (if dataK p.k then decide (p.d.size = 8) else decide (p.d.size = 0))))
def Pkt.body (p : Pkt) : List UInt8 :=
  [UInt8.ofNat p.k.toNat] ++ be 8 p.s.toNat ++ (if p.k = 1 then p.h.body else []) ++ (if blockK p.k then [UInt8.ofNat p.b.toNat] else []) ++ p.d.data.toList
def pktOf (l : List UInt8) : Pkt :=
  let k : Int := ((l.getD 0 0).toNat : Int)
  if k = 1 then ⟨k, num8 l 1, (hdec (txt (l.drop 9))).1, 0, ⟨#[]⟩⟩
  else if blockK k && decide (9 < l.length) then ⟨k, num8 l 1, Hel.zero, ((l.getD 9 0).toNat : Int), txt (l.drop 10)⟩
  else ⟨k, num8 l 1, Hel.zero, 0, txt (l.drop 9)⟩
def pformed (l : List UInt8) : Bool := decide (9 ≤ l.length) && ((pktOf l).right && decide ((pktOf l).body = l))
def pdec (l : List UInt8) : Pkt × Int := if pformed l then (pktOf l, 0) else (Pkt.zero, 2)
theorem Hel.zero_wide : Hel.zero.wide := by unfold Hel.wide Hel.zero; decide
theorem hdec_wide2 (x : ByteArray) : (hdec x).1.wide := by
  by_cases h : (hdec x).2 = 0
  · exact (bytes_hdec x h).2.1
  · rw [hdec_zero x h]; exact Hel.zero_wide
theorem pktOf_wide (l : List UInt8) : (pktOf l).wide := by
  unfold pktOf
  dsimp only
  by_cases h1 : ((l.getD 0 0).toNat : Int) = 1
  · rw [if_pos h1]; exact ⟨num8_range _ _, hdec_wide2 _⟩
  · rw [if_neg h1]
    by_cases h2 : (blockK ((l.getD 0 0).toNat : Int) && decide (9 < l.length)) = true
    · rw [if_pos h2]; exact ⟨num8_range _ _, Hel.zero_wide⟩
    · rw [if_neg h2]; exact ⟨num8_range _ _, Hel.zero_wide⟩
theorem Pkt.right_parts {p : Pkt} (h : p.right = true) : (1 ≤ p.k ∧ p.k ≤ 13) ∧ (p.k = 1 → p.h.right = true) ∧ (p.k ≠ 1 → p.h = Hel.zero) ∧ (0 ≤ p.b ∧ p.b ≤ 31) ∧ (blockK p.k = false → p.b = 0) ∧ (dataK p.k = true → p.d.size = 8) ∧ (dataK p.k = false → p.d.size = 0) := by
  unfold Pkt.right at h
  simp only [Bool.and_eq_true, Bool.or_eq_true, decide_eq_true_eq] at h
  obtain ⟨⟨h1, h2⟩, h3, ⟨⟨h4, h5⟩, h6⟩, h7⟩ := h
  refine ⟨⟨h1, h2⟩, fun e => by rw [if_pos e] at h3; exact h3, fun e => by rw [if_neg e] at h3; exact Hel.none_iff.1 h3, ⟨h4, h5⟩, fun e => h6.resolve_left (by rw [e]; simp), fun e => ?_, fun e => ?_⟩
  · rw [e] at h7; simpa using h7
  · rw [e] at h7; simpa using h7
theorem size_zero {d : ByteArray} (h : d.size = 0) : d = ⟨#[]⟩ := by
  obtain ⟨a⟩ := d
  have : a.size = 0 := h
  rw [Array.eq_empty_of_size_eq_zero this]
theorem block_of_one : blockK 1 = false := by decide
theorem body_front (p : Pkt) : p.body = UInt8.ofNat p.k.toNat :: (be 8 p.s.toNat ++ ((if p.k = 1 then p.h.body else []) ++ ((if blockK p.k then [UInt8.ofNat p.b.toNat] else []) ++ p.d.data.toList))) := by
  unfold Pkt.body
  simp only [List.append_assoc, List.cons_append, List.nil_append]
theorem pbody_length (p : Pkt) : p.body.length = 9 + (if p.k = 1 then 38 else 0) + (if blockK p.k then 1 else 0) + p.d.size := by
  rw [body_front]
  by_cases h1 : p.k = 1
  · rw [if_pos h1, if_pos h1, h1, block_of_one]
    simp [be_length, hbody_length]
    omega
  · rw [if_neg h1, if_neg h1]
    cases h2 : blockK p.k <;> simp [be_length] <;> omega
theorem body_pdec {l : List UInt8} (h : (pdec l).2 = 0) : (pdec l).1.right = true ∧ (pdec l).1.wide ∧ (pdec l).1.body = l := by
  unfold pdec at *
  by_cases hf : pformed l = true
  · rw [if_pos hf] at *
    unfold pformed at hf
    simp only [Bool.and_eq_true, decide_eq_true_eq] at hf
    exact ⟨hf.2.1, pktOf_wide _, hf.2.2⟩
  · rw [if_neg hf] at h
    cases h
def Pkt.encT (p : Pkt) : ByteArray := if p.right = true then txt (sealed p.body) else ⟨#[]⟩
def Pkt.encE (p : Pkt) : Int := if p.right = true then 0 else 1
def decP (s : ByteArray) : Pkt × Int := if openE s = 0 then pdec (openT s).data.toList else (Pkt.zero, openE s)
def readP (s : ByteArray) (n : Int) : Pkt × Int := if (decP s).2 = 0 then (if (decP s).1.s = n then decP s else (Pkt.zero, 16)) else (Pkt.zero, (decP s).2)
theorem encT_decP {s : ByteArray} (h : (decP s).2 = 0) : (decP s).1.right = true ∧ (decP s).1.wide ∧ (decP s).1.encT = s := by
  unfold decP at *
  by_cases h0 : openE s = 0
  · rw [if_pos h0] at *
    obtain ⟨h1, h2, h3⟩ := body_pdec h
    refine ⟨h1, h2, ?_⟩
    unfold Pkt.encT
    rw [if_pos h1, h3]
    exact sealed_open s h0
  · rw [if_neg h0] at h
    exact absurd h h0
end Go.Proofs.YtabenngcmpjlhaaGreatDoor
namespace Go.Proofs.YtabenngcmpjlhaaGreatDoor
open Go.RowKit
theorem pk_u64 : Tryz.prog.cellsOf 31 = 1 := by kernel_rfl
@[go_sem] theorem eql_old2 (d : Nat) (o1 p1 o2 p2 : Int) (w : World) :
    (Op.equalIn (d + 2) 32 (.agg #[.int .u64 o1, .int .u64 p1]) (.agg #[.int .u64 o2, .int .u64 p2])).run Tryz.prog w = .ok (o1 == o2 && p1 == p2) w := by
  obtain ⟨i, hi⟩ := info_of_underlying Tryz.underlying31
  rw [show d + 2 = (d + 1) + 1 from rfl, run_equalIn_array w (d + 1) _ _ Tryz.underlying32 hi, pk_u64]
  cases h1 : (o1 == o2) <;> cases h2 : (p1 == p2) <;> simp [List.range, List.range.loop, Op.eqItems, go_sem, h1, h2]
theorem eql_vec4 (d : Nat) (c b o p c2 b2 o2 p2 : Int) (w : World) :
    (Op.equalIn (d + 3) 34 (.agg #[.int .u64 c, .int .u64 b, .int .u64 o, .int .u64 p]) (.agg #[.int .u64 c2, .int .u64 b2, .int .u64 o2, .int .u64 p2])).run Tryz.prog w = .ok (c == c2 && (b == b2 && (o == o2 && p == p2))) w := by
  rw [show d + 3 = (d + 2) + 1 from rfl, run_equalIn_struct w (d + 2) _ _ _ (by kernel_rfl) (by kernel_rfl)]
  cases h1 : (c == c2) <;> cases h2 : (b == b2) <;> cases h3 : (o == o2 && p == p2) <;> simp [go_sem, h1, h2, h3]
def eqH (x y : Hel) : Bool := (x.n == y.n) && ((x.c == y.c && (x.b == y.b && (x.o == y.o && x.p == y.p))) && ((x.i == y.i) && ((x.r == y.r) && ((x.d == y.d) && ((x.q == y.q) && (((x.m : Int) == (y.m : Int))))))))
set_option maxHeartbeats 1000000 in
theorem eql_hel (d : Nat) (x y : Hel) (w : World) : (Op.equalIn (d + 4) 41 (helV x) (helV y)).run Tryz.prog w = .ok (eqH x y) w := by
  unfold eqH
  rw [show d + 4 = (d + 3) + 1 from rfl, run_equalIn_struct w (d + 3) _ _ _ (by kernel_rfl) (by kernel_rfl)]
  cases h0 : (x.n == y.n)
  · simp [go_sem, eql_vec4, h0]
  · cases h1 : (x.c == y.c && (x.b == y.b && (x.o == y.o && x.p == y.p)))
    · simp [go_sem, eql_vec4, h0, h1]
    · cases h2 : (x.i == y.i)
      · simp [go_sem, eql_vec4, h0, h1, h2]
      · cases h3 : (x.r == y.r)
        · simp [go_sem, eql_vec4, h0, h1, h2, h3]
        · cases h4 : (x.d == y.d)
          · simp [go_sem, eql_vec4, h0, h1, h2, h3, h4]
          · cases h5 : (x.q == y.q)
            · simp [go_sem, eql_vec4, h0, h1, h2, h3, h4, h5]
            · cases h6 : ((x.m : Int) == (y.m : Int))
              · simp [go_sem, eql_vec4, h0, h1, h2, h3, h4, h5, h6]
              · simp [go_sem, eql_vec4, h0, h1, h2, h3, h4, h5, h6]
def eqP (x y : Pkt) : Bool := (x.k == y.k) && ((x.s == y.s) && ((eqH x.h y.h) && ((x.b == y.b) && ((x.d.toList == y.d.toList)))))
set_option maxHeartbeats 1000000 in
theorem eql_pkt (d : Nat) (x y : Pkt) (w : World) : (Op.equalIn (d + 5) 93 (pktV x) (pktV y)).run Tryz.prog w = .ok (eqP x y) w := by
  unfold eqP
  rw [show d + 5 = (d + 4) + 1 from rfl, run_equalIn_struct w (d + 4) _ _ _ (by kernel_rfl) (by kernel_rfl)]
  cases h0 : (x.k == y.k)
  · simp [go_sem, eql_hel, h0]
  · cases h1 : (x.s == y.s)
    · simp [go_sem, eql_hel, h0, h1]
    · cases h2 : (eqH x.h y.h)
      · simp [go_sem, eql_hel, h0, h1, h2]
      · cases h3 : (x.b == y.b)
        · simp [go_sem, eql_hel, h0, h1, h2, h3]
        · cases h4 : (x.d.toList == y.d.toList)
          · simp [go_sem, eql_hel, h0, h1, h2, h3, h4]
          · simp [go_sem, eql_hel, h0, h1, h2, h3, h4]
theorem eqH_none (h : Hel) : eqH h Hel.zero = h.none := by
  obtain ⟨n, c, b, o, p, i, r, d, q, m⟩ := h
  unfold eqH Hel.none Hel.zero
  cases i <;> cases r <;> cases d <;> cases q <;> simp [Bool.beq_eq_decide_eq]
@[go_sem 5000] theorem eql_helz (x : Nat) (n c b o p : Int) (i r d q : Bool) (m : Nat) (w : World) : (Op.equalIn (x + 4) 41 (.agg #[.int .i64 n, .int .u64 c, .int .u64 b, .int .u64 o, .int .u64 p, .bool i, .bool r, .bool d, .bool q, .int .u32 (m : Int)]) (.agg #[.int .i64 0, .int .u64 0, .int .u64 0, .int .u64 0, .int .u64 0, .bool false, .bool false, .bool false, .bool false, .int .u32 0])).run Tryz.prog w = .ok (Hel.none ⟨n, c, b, o, p, i, r, d, q, m⟩) w := by
  have := eql_hel x ⟨n, c, b, o, p, i, r, d, q, m⟩ Hel.zero w
  rw [eqH_none] at this
  exact this
theorem eqH_self (h : Hel) : eqH h h = true := by unfold eqH; simp
theorem eqP_self (p : Pkt) : eqP p p = true := by unfold eqP; simp [eqH_self]
@[go_sem 5000] theorem eql_pkts (x : Nat) (k s n c b o p : Int) (i r d q : Bool) (m : Nat) (z : Int) (t : ByteArray) (w : World) : (Op.equalIn (x + 5) 93 (.agg #[.int .i64 k, .int .u64 s, .int .i64 n, .int .u64 c, .int .u64 b, .int .u64 o, .int .u64 p, .bool i, .bool r, .bool d, .bool q, .int .u32 (m : Int), .int .i64 z, .string t]) (.agg #[.int .i64 k, .int .u64 s, .int .i64 n, .int .u64 c, .int .u64 b, .int .u64 o, .int .u64 p, .bool i, .bool r, .bool d, .bool q, .int .u32 (m : Int), .int .i64 z, .string t])).run Tryz.prog w = .ok true w := by
  have := eql_pkt x ⟨k, s, ⟨n, c, b, o, p, i, r, d, q, m⟩, z, t⟩ ⟨k, s, ⟨n, c, b, o, p, i, r, d, q, m⟩, z, t⟩ w
  rw [eqP_self] at this
  exact this
theorem rblock_any (k : Int) (w : World) : Calls Tryz.prog 92 #[.int .i64 k] w fun e w' => e = .returned (.bool (blockK k)) ∧ w' = w := by
  unfold blockK
  by_cases h : 2 ≤ k
  · have e : decide (2 ≤ k) = true := decide_eq_true h
    go_enter Tryz.func92, Tryz.ntmps92
    go_wp2
    go_ret
    exact ⟨ret_bool (by simp [h]), rfl⟩
  · have e : decide (2 ≤ k) = false := decide_eq_false h
    go_enter Tryz.func92, Tryz.ntmps92
    go_wp2
    go_ret
    exact ⟨ret_bool (by simp), rfl⟩
theorem rdata_any (k : Int) (w : World) : Calls Tryz.prog 135 #[.int .i64 k] w fun e w' => e = .returned (.bool (dataK k)) ∧ w' = w := by
  unfold dataK
  by_cases h : k = 2
  · subst h
    go_enter Tryz.func135, Tryz.ntmps135
    go_wp2
    go_ret
    exact ⟨ret_bool (by simp), rfl⟩
  · have e : (k == 2) = false := beq_eq_false_iff_ne.2 h
    go_enter Tryz.func135, Tryz.ntmps135
    go_wp2
    go_ret
    exact ⟨ret_bool (by simp [h, Bool.beq_eq_decide_eq]), rfl⟩
end Go.Proofs.YtabenngcmpjlhaaGreatDoor
namespace Go.Proofs.YtabenngcmpjlhaaGreatDoor
open Go.RowKit PX
set_option maxRecDepth 100000
theorem nil_size (t : ByteArray) : (t.toList == ([] : List UInt8)) = decide (t.size = 0) := by
  rw [ByteArray.toList_eq, Bool.beq_eq_decide_eq, decide_eq_decide]
  constructor
  · intro h
    have : t.data.toList.length = 0 := by rw [h]; rfl
    exact this
  · intro h
    exact List.eq_nil_of_length_eq_zero h
theorem size_eight (t : ByteArray) : ((t.size : Int) == 8) = decide (t.size = 8) := by
  rw [Bool.beq_eq_decide_eq, decide_eq_decide]
  omega
theorem neq_hel (a b : Operand) (x : Hel) (w : World) : (do Go.eqGuard .neq 41 a b (helV x) (helV Hel.zero); Go.binOp .neq 41 (helV x) (helV Hel.zero) : Sem Value).run Tryz.prog w = .ok (.bool (!x.none)) w := by
  simp [go_sem, eql_hel, eqH_none]
theorem rpright_any (x : Pkt) (w : World) (hm : x.h.m < 4294967296) : Calls Tryz.prog 93 #[pktV x] w fun e w' => e = .returned (.bool x.right) ∧ Below w.heap.size w w' := by
  refine run_v ?_
  have hb := fun (k : Int) (u : World) => (rblock_any k u).mono fun e v' h => (⟨h.1, h.2 ▸ Below.refl _ _⟩ : e = _ ∧ Below u.heap.size u v')
  have hd := fun (k : Int) (u : World) => (rdata_any k u).mono fun e v' h => (⟨h.1, h.2 ▸ Below.refl _ _⟩ : e = _ ∧ Below u.heap.size u v')
  obtain ⟨k, s, h, b, d⟩ := x
  unfold Pkt.right
  dsimp only at hm ⊢
  by_cases h0 : k < 1
  · exact t_N (b := !(decide (k < 1))) 9 (by simp [h0]) (e_r2 (.bool false) (by simp; omega))
  refine t_Y (b := !(decide (k < 1))) 2 (by simp [h0]) ?_
  by_cases h13 : 13 < k
  · exact t_Y (b := decide (13 < k)) 9 (by simp [h13]) (e_r2 (.bool false) (by simp; omega))
  refine t_N (b := decide (13 < k)) 0 (by simp [h13]) ?_
  rw [decide_eq_true (show 1 ≤ k by omega), decide_eq_true (show k ≤ 13 by omega)]
  by_cases h1 : k = 1
  · subst h1
    refine t_Y (b := decide ((1 : Int) = 1)) 2 (by decide) (t_v (fun u _ => rhright_any h u hm) ?_)
    rw [if_pos rfl]
    cases hr : h.right with
    | false => exact t_lit 99 (e_r2 (.bool false) (by simp))
    | true =>
      refine t_lit 11 ?_
      by_cases b0 : b < 0
      · exact t_N (b := !(decide (b < 0))) 99 (by simp [b0]) (e_r2 (.bool false) (by simp; omega))
      refine t_Y (b := !(decide (b < 0))) 2 (by simp [b0]) ?_
      by_cases b31 : 31 < b
      · exact t_N (b := !(decide (b > 31))) 99 (by simp [b31]) (e_r2 (.bool false) (by simp; omega))
      refine t_Y (b := !(decide (b > 31))) 2 (by simp [b31]) (t_v (fun u _ => hb 1 u) ?_)
      rw [decide_eq_true (show 0 ≤ b by omega), decide_eq_true (show b ≤ 31 by omega)]
      cases hk : blockK 1 with
      | true =>
        refine t_lit 7 (t_v (fun u _ => hd 1 u) ?_)
        cases hdk : dataK 1 with
        | true => exact t_lit 1 (e_r2 (.bool ((d.size : Int) == 8)) (by simp [size_eight]))
        | false => exact t_lit 1 (e_r2 (.bool (d.toList == (⟨#[]⟩ : ByteArray).toList)) (by rw [show (⟨#[]⟩ : ByteArray).toList = [] from by rw [ByteArray.toList_eq], nil_size]; simp))
      | false =>
        by_cases bz : b = 0
        · refine t_lit 6 (t_N (b := !(b == 0)) 0 (by simp [bz]) ?_)
          refine t_lit 0 (t_v (fun u _ => hd 1 u) ?_)
          cases hdk : dataK 1 with
          | true => exact t_lit 1 (e_r2 (.bool ((d.size : Int) == 8)) (by simp [size_eight, bz]))
          | false => exact t_lit 1 (e_r2 (.bool (d.toList == (⟨#[]⟩ : ByteArray).toList)) (by rw [show (⟨#[]⟩ : ByteArray).toList = [] from by rw [ByteArray.toList_eq], nil_size]; simp [bz]))
        · exact t_lit 6 (t_Y (b := !(b == 0)) 9 (by simp [bz]) (e_r2 (.bool false) (by simp [bz])))
  · rw [if_neg h1]
    refine t_N (b := decide (k = 1)) 7 (by simp [h1]) (t_Y (b := !(k == 1)) 3 (by simp [h1]) ?_)
    refine t_sem (do Go.eqGuard .neq 41 (.tmp 1) (.tmp 1) (helV h) (helV Hel.zero); Go.binOp .neq 41 (helV h) (helV Hel.zero)) (v := .bool (!h.none)) (fun u _ _ => neq_hel _ _ h u) ?_
    cases hr : h.none with
    | false => exact t_lit 99 (e_r2 (.bool false) (by simp))
    | true =>
      refine t_lit 2 ?_
      by_cases b0 : b < 0
      · exact t_N (b := !(decide (b < 0))) 99 (by simp [b0]) (e_r2 (.bool false) (by simp; omega))
      refine t_Y (b := !(decide (b < 0))) 2 (by simp [b0]) ?_
      by_cases b31 : 31 < b
      · exact t_N (b := !(decide (b > 31))) 99 (by simp [b31]) (e_r2 (.bool false) (by simp; omega))
      refine t_Y (b := !(decide (b > 31))) 2 (by simp [b31]) (t_v (fun u _ => hb k u) ?_)
      rw [decide_eq_true (show 0 ≤ b by omega), decide_eq_true (show b ≤ 31 by omega)]
      cases hk : blockK k with
      | true =>
        refine t_lit 7 (t_v (fun u _ => hd k u) ?_)
        cases hdk : dataK k with
        | true => exact t_lit 1 (e_r2 (.bool ((d.size : Int) == 8)) (by simp [size_eight]))
        | false => exact t_lit 1 (e_r2 (.bool (d.toList == (⟨#[]⟩ : ByteArray).toList)) (by rw [show (⟨#[]⟩ : ByteArray).toList = [] from by rw [ByteArray.toList_eq], nil_size]; simp))
      | false =>
        by_cases bz : b = 0
        · refine t_lit 6 (t_N (b := !(b == 0)) 0 (by simp [bz]) ?_)
          refine t_lit 0 (t_v (fun u _ => hd k u) ?_)
          cases hdk : dataK k with
          | true => exact t_lit 1 (e_r2 (.bool ((d.size : Int) == 8)) (by simp [size_eight, bz]))
          | false => exact t_lit 1 (e_r2 (.bool (d.toList == (⟨#[]⟩ : ByteArray).toList)) (by rw [show (⟨#[]⟩ : ByteArray).toList = [] from by rw [ByteArray.toList_eq], nil_size]; simp [bz]))
        · exact t_lit 6 (t_Y (b := !(b == 0)) 9 (by simp [bz]) (e_r2 (.bool false) (by simp [bz])))
end Go.Proofs.YtabenngcmpjlhaaGreatDoor
namespace Go.Proofs.YtabenngcmpjlhaaGreatDoor
open Go.RowKit PX
set_option maxRecDepth 100000
def bareB (h : Hel) (z : Int) (t : ByteArray) : Bool := h.none && (decide (z = 0) && decide (t.size = 0))
theorem eqP_bare (k s : Int) (h : Hel) (z : Int) (t : ByteArray) : eqP ⟨k, s, h, z, t⟩ ⟨k, s, Hel.zero, 0, ⟨#[]⟩⟩ = bareB h z t := by
  unfold eqP bareB
  rw [eqH_none, show (⟨#[]⟩ : ByteArray).toList = [] from by rw [ByteArray.toList_eq], nil_size]
  simp [Bool.beq_eq_decide_eq]
theorem eql_pktS (a b : Operand) (x y : Pkt) (w : World) : (do Go.eqGuard .eql 93 a b (pktV x) (pktV y); Go.binOp .eql 93 (pktV x) (pktV y) : Sem Value).run Tryz.prog w = .ok (.bool (eqP x y)) w := by
  simp [go_sem, eql_pkt]
theorem bare_any (x : Pkt) (w : World) : Calls Tryz.prog 198 #[pktV x] w fun e w' => e = .returned (.bool (bareB x.h x.b x.d)) ∧ Below w.heap.size w w' := by
  refine run_v ?_
  refine t_sem (do Go.eqGuard .eql 93 (.tmp 1) (.tmp 1) (pktV x) (pktV ⟨x.k, x.s, Hel.zero, 0, ⟨#[]⟩⟩); Go.binOp .eql 93 (pktV x) (pktV ⟨x.k, x.s, Hel.zero, 0, ⟨#[]⟩⟩)) (v := .bool (eqP x ⟨x.k, x.s, Hel.zero, 0, ⟨#[]⟩⟩)) (fun u _ _ => eql_pktS _ _ x _ u) ?_
  exact e_r2 (.bool (eqP x ⟨x.k, x.s, Hel.zero, 0, ⟨#[]⟩⟩)) (by rw [eqP_bare])
theorem bareB_zero (z : Int) (t : ByteArray) : bareB Hel.zero z t = (decide (z = 0) && decide (t.size = 0)) := by
  unfold bareB
  rw [show Hel.zero.none = true from by decide]
  simp
theorem bareB_none (h : Hel) : bareB h 0 ⟨#[]⟩ = h.none := by
  unfold bareB
  rw [show (⟨#[]⟩ : ByteArray).size = 0 from rfl]
  simp
theorem pr_data {k s z : Int} {h : Hel} {t : ByteArray} (hk : k = 2 ∨ k = 6) : Pkt.right ⟨k, s, h, z, t⟩ = (h.none && ((decide (0 ≤ z) && decide (z ≤ 31)) && decide (t.size = 8))) := by
  rcases hk with rfl | rfl <;> simp [Pkt.right, blockK, dataK]
theorem pr_block {k s z : Int} {h : Hel} {t : ByteArray} (hk : k = 3 ∨ k = 4 ∨ k = 5 ∨ k = 7) : Pkt.right ⟨k, s, h, z, t⟩ = (h.none && ((decide (0 ≤ z) && decide (z ≤ 31)) && decide (t.size = 0))) := by
  rcases hk with rfl | rfl | rfl | rfl <;> simp [Pkt.right, blockK, dataK]
theorem pr_bare {k s z : Int} {h : Hel} {t : ByteArray} (h8 : 8 ≤ k) (h13 : k ≤ 13) : Pkt.right ⟨k, s, h, z, t⟩ = bareB h z t := by
  have : k = 8 ∨ k = 9 ∨ k = 10 ∨ k = 11 ∨ k = 12 ∨ k = 13 := by omega
  rcases this with rfl | rfl | rfl | rfl | rfl | rfl <;> (by_cases h0 : z = 0 <;> by_cases h8 : t.size = 0 <;> simp [Pkt.right, blockK, dataK, bareB, h0, h8])
theorem pr_hello {s z : Int} {h : Hel} {t : ByteArray} : Pkt.right ⟨1, s, h, z, t⟩ = (h.right && bareB Hel.zero z t) := by
  rw [bareB_zero]
  by_cases h0 : z = 0 <;> by_cases h8 : t.size = 0 <;> simp [Pkt.right, blockK, dataK, h0, h8]
theorem pr_none {k s z : Int} {h : Hel} {t : ByteArray} (hk : k < 1 ∨ 13 < k) : Pkt.right ⟨k, s, h, z, t⟩ = false := by
  unfold Pkt.right
  rcases hk with h | h
  · simp [show ¬ (1 ≤ k) from by omega]
  · simp [show ¬ (k ≤ 13) from by omega]
theorem pright_any (p : Pkt) (w : World) (hm : p.h.m < 4294967296) : Calls Tryz.prog 149 #[pktV p] w fun e w' => e = .returned (.bool p.right) ∧ Below w.heap.size w w' := by
  obtain ⟨k, s, h, z, t⟩ := p
  refine run_v ?_
  by_cases k1 : k = 1
  · subst k1
    rw [pr_hello]
    refine t_Y (b := decide ((1 : Int) = 1)) 0 (by decide) (t_v (args := #[helV h]) (fun u _ => hright_any h u hm) ?_)
    cases hr : h.right with
    | false => exact t_lit 9 (e_r2 (.bool false) (by simp))
    | true => exact t_lit 9 (t_v (args := #[pktV ⟨1, s, Hel.zero, z, t⟩]) (fun u _ => bare_any ⟨1, s, Hel.zero, z, t⟩ u) (t_lit 9 (e_r2 (.bool (bareB Hel.zero z t)) (by simp))))
  refine t_N (b := decide (k = 1)) 0 (by simpa using k1) ?_
  by_cases k2 : k = 2
  · rw [pr_data (by omega)]
    refine t_Y (b := decide (k = 2)) 1 (by simpa using k2) ?_
    by_cases h8 : t.size = 8
    rotate_left
    · exact t_Y (b := !((t.size : Int) == 8)) 9 (by simp; omega) (e_r2 (.bool false) (by simp [h8]))
    refine t_N (b := !((t.size : Int) == 8)) 0 (by simp; omega) ?_
    by_cases b0 : z < 0
    · exact t_N (b := !(decide (z < 0))) 9 (by simp [b0]) (e_r2 (.bool false) (by simp [show ¬ 0 ≤ z by omega]))
    refine t_Y (b := !(decide (z < 0))) 2 (by simp [b0]) ?_
    by_cases b32 : 32 ≤ z
    · exact t_Y (b := decide (32 ≤ z)) 9 (by simp [b32]) (e_r2 (.bool false) (by simp [show ¬ z ≤ 31 by omega]))
    exact t_N (b := decide (32 ≤ z)) 0 (by simp [b32]) (t_v (args := #[pktV ⟨k, s, h, 0, ⟨#[]⟩⟩]) (fun u _ => bare_any ⟨k, s, h, 0, ⟨#[]⟩⟩ u) (e_r2 (.bool (bareB h 0 ⟨#[]⟩)) (by rw [bareB_none]; simp [h8, show 0 ≤ z by omega, show z ≤ 31 by omega])))
  refine t_N (b := decide (k = 2)) 0 (by simpa using k2) ?_
  by_cases k6 : k = 6
  · rw [pr_data (by omega)]
    refine t_Y (b := decide (k = 6)) 0 (by simpa using k6) ?_
    by_cases h8 : t.size = 8
    rotate_left
    · exact t_Y (b := !((t.size : Int) == 8)) 9 (by simp; omega) (e_r2 (.bool false) (by simp [h8]))
    refine t_N (b := !((t.size : Int) == 8)) 0 (by simp; omega) ?_
    by_cases b0 : z < 0
    · exact t_N (b := !(decide (z < 0))) 9 (by simp [b0]) (e_r2 (.bool false) (by simp [show ¬ 0 ≤ z by omega]))
    refine t_Y (b := !(decide (z < 0))) 2 (by simp [b0]) ?_
    by_cases b32 : 32 ≤ z
    · exact t_Y (b := decide (32 ≤ z)) 9 (by simp [b32]) (e_r2 (.bool false) (by simp [show ¬ z ≤ 31 by omega]))
    exact t_N (b := decide (32 ≤ z)) 0 (by simp [b32]) (t_v (args := #[pktV ⟨k, s, h, 0, ⟨#[]⟩⟩]) (fun u _ => bare_any ⟨k, s, h, 0, ⟨#[]⟩⟩ u) (e_r2 (.bool (bareB h 0 ⟨#[]⟩)) (by rw [bareB_none]; simp [h8, show 0 ≤ z by omega, show z ≤ 31 by omega])))
  refine t_N (b := decide (k = 6)) 0 (by simpa using k6) ?_
  by_cases k3 : k = 3
  · rw [pr_block (by omega)]
    refine t_Y (b := decide (k = 3)) 1 (by simpa using k3) ?_
    by_cases b0 : z < 0
    · exact t_N (b := !(decide (z < 0))) 9 (by simp [b0]) (e_r2 (.bool false) (by simp [show ¬ 0 ≤ z by omega]))
    refine t_Y (b := !(decide (z < 0))) 2 (by simp [b0]) ?_
    by_cases b32 : 32 ≤ z
    · exact t_Y (b := decide (32 ≤ z)) 9 (by simp [b32]) (e_r2 (.bool false) (by simp [show ¬ z ≤ 31 by omega]))
    exact t_N (b := decide (32 ≤ z)) 0 (by simp [b32]) (t_v (args := #[pktV ⟨k, s, h, 0, t⟩]) (fun u _ => bare_any ⟨k, s, h, 0, t⟩ u) (e_r2 (.bool (bareB h 0 t)) (by unfold bareB; simp [show 0 ≤ z by omega, show z ≤ 31 by omega])))
  refine t_N (b := decide (k = 3)) 0 (by simpa using k3) ?_
  by_cases k4 : k = 4
  · rw [pr_block (by omega)]
    refine t_Y (b := decide (k = 4)) 1 (by simpa using k4) ?_
    by_cases b0 : z < 0
    · exact t_N (b := !(decide (z < 0))) 9 (by simp [b0]) (e_r2 (.bool false) (by simp [show ¬ 0 ≤ z by omega]))
    refine t_Y (b := !(decide (z < 0))) 2 (by simp [b0]) ?_
    by_cases b32 : 32 ≤ z
    · exact t_Y (b := decide (32 ≤ z)) 9 (by simp [b32]) (e_r2 (.bool false) (by simp [show ¬ z ≤ 31 by omega]))
    exact t_N (b := decide (32 ≤ z)) 0 (by simp [b32]) (t_v (args := #[pktV ⟨k, s, h, 0, t⟩]) (fun u _ => bare_any ⟨k, s, h, 0, t⟩ u) (e_r2 (.bool (bareB h 0 t)) (by unfold bareB; simp [show 0 ≤ z by omega, show z ≤ 31 by omega])))
  refine t_N (b := decide (k = 4)) 0 (by simpa using k4) ?_
  by_cases k5 : k = 5
  · rw [pr_block (by omega)]
    refine t_Y (b := decide (k = 5)) 1 (by simpa using k5) ?_
    by_cases b0 : z < 0
    · exact t_N (b := !(decide (z < 0))) 9 (by simp [b0]) (e_r2 (.bool false) (by simp [show ¬ 0 ≤ z by omega]))
    refine t_Y (b := !(decide (z < 0))) 2 (by simp [b0]) ?_
    by_cases b32 : 32 ≤ z
    · exact t_Y (b := decide (32 ≤ z)) 9 (by simp [b32]) (e_r2 (.bool false) (by simp [show ¬ z ≤ 31 by omega]))
    exact t_N (b := decide (32 ≤ z)) 0 (by simp [b32]) (t_v (args := #[pktV ⟨k, s, h, 0, t⟩]) (fun u _ => bare_any ⟨k, s, h, 0, t⟩ u) (e_r2 (.bool (bareB h 0 t)) (by unfold bareB; simp [show 0 ≤ z by omega, show z ≤ 31 by omega])))
  refine t_N (b := decide (k = 5)) 0 (by simpa using k5) ?_
  by_cases k7 : k = 7
  · rw [pr_block (by omega)]
    refine t_Y (b := decide (k = 7)) 0 (by simpa using k7) ?_
    by_cases b0 : z < 0
    · exact t_N (b := !(decide (z < 0))) 9 (by simp [b0]) (e_r2 (.bool false) (by simp [show ¬ 0 ≤ z by omega]))
    refine t_Y (b := !(decide (z < 0))) 2 (by simp [b0]) ?_
    by_cases b32 : 32 ≤ z
    · exact t_Y (b := decide (32 ≤ z)) 9 (by simp [b32]) (e_r2 (.bool false) (by simp [show ¬ z ≤ 31 by omega]))
    exact t_N (b := decide (32 ≤ z)) 0 (by simp [b32]) (t_v (args := #[pktV ⟨k, s, h, 0, t⟩]) (fun u _ => bare_any ⟨k, s, h, 0, t⟩ u) (e_r2 (.bool (bareB h 0 t)) (by unfold bareB; simp [show 0 ≤ z by omega, show z ≤ 31 by omega])))
  refine t_N (b := decide (k = 7)) 0 (by simpa using k7) ?_
  by_cases k8 : k = 8
  · exact t_Y (b := decide (k = 8)) 9 (by simpa using k8) (t_v (args := #[pktV ⟨k, s, h, z, t⟩]) (fun u _ => bare_any ⟨k, s, h, z, t⟩ u) (e_r2 (.bool (bareB h z t)) (by rw [pr_bare (by omega) (by omega)])))
  refine t_N (b := decide (k = 8)) 0 (by simpa using k8) ?_
  by_cases k9 : k = 9
  · exact t_Y (b := decide (k = 9)) 9 (by simpa using k9) (t_v (args := #[pktV ⟨k, s, h, z, t⟩]) (fun u _ => bare_any ⟨k, s, h, z, t⟩ u) (e_r2 (.bool (bareB h z t)) (by rw [pr_bare (by omega) (by omega)])))
  refine t_N (b := decide (k = 9)) 0 (by simpa using k9) ?_
  by_cases k10 : k = 10
  · exact t_Y (b := decide (k = 10)) 9 (by simpa using k10) (t_v (args := #[pktV ⟨k, s, h, z, t⟩]) (fun u _ => bare_any ⟨k, s, h, z, t⟩ u) (e_r2 (.bool (bareB h z t)) (by rw [pr_bare (by omega) (by omega)])))
  refine t_N (b := decide (k = 10)) 0 (by simpa using k10) ?_
  by_cases k11 : k = 11
  · exact t_Y (b := decide (k = 11)) 9 (by simpa using k11) (t_v (args := #[pktV ⟨k, s, h, z, t⟩]) (fun u _ => bare_any ⟨k, s, h, z, t⟩ u) (e_r2 (.bool (bareB h z t)) (by rw [pr_bare (by omega) (by omega)])))
  refine t_N (b := decide (k = 11)) 0 (by simpa using k11) ?_
  by_cases k12 : k = 12
  · exact t_Y (b := decide (k = 12)) 9 (by simpa using k12) (t_v (args := #[pktV ⟨k, s, h, z, t⟩]) (fun u _ => bare_any ⟨k, s, h, z, t⟩ u) (e_r2 (.bool (bareB h z t)) (by rw [pr_bare (by omega) (by omega)])))
  refine t_N (b := decide (k = 12)) 0 (by simpa using k12) ?_
  by_cases k13 : k = 13
  · exact t_Y (b := decide (k = 13)) 9 (by simpa using k13) (t_v (args := #[pktV ⟨k, s, h, z, t⟩]) (fun u _ => bare_any ⟨k, s, h, z, t⟩ u) (e_r2 (.bool (bareB h z t)) (by rw [pr_bare (by omega) (by omega)])))
  exact t_N (b := decide (k = 13)) 9 (by simpa using k13) (e_r2 (.bool false) (by rw [pr_none (by omega)]))
end Go.Proofs.YtabenngcmpjlhaaGreatDoor
