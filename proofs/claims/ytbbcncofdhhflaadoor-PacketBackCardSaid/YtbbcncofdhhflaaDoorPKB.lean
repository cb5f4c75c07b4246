/- Packets: the walk of PacketBack. Under: the widths, and the type of errors as it is laid. -/
import Derived.Test.YtbbcncofdhhflaaDoorPKE
namespace Go.Proofs.YtbbcncofdhhflaaDoor
open Go.RowKit

theorem eqP_true {x y : Pkt} (h : eqP x y = true) : x = y := by
  obtain ⟨k, s, ⟨n, c, b, o, p, i, r, d, q, m⟩, z, t⟩ := x
  obtain ⟨k2, s2, ⟨n2, c2, b2, o2, p2, i2, r2, d2, q2, m2⟩, z2, t2⟩ := y
  unfold eqP eqH at h
  simp only [Bool.and_eq_true, beq_iff_eq] at h
  obtain ⟨h1, h2, ⟨h3, ⟨h4, h5, h6, h7⟩, h8, h9, h10, h11, h12⟩, h13, h14⟩ := h
  have e : t = t2 := by rw [← txt_of t, ← txt_of t2, ← ByteArray.toList_eq, ← ByteArray.toList_eq, h14]
  have em : m = m2 := by exact_mod_cast h12
  subst h1; subst h2; subst h3; subst h4; subst h5; subst h6; subst h7; subst h8; subst h9; subst h10; subst h11; subst em; subst h13; subst e
  rfl

theorem xor_other (s : Int) (h0 : 0 ≤ s) (h1 : s < 18446744073709551616) : (bits .xor .u64 s 1 == s) = false := by
  obtain ⟨n, rfl⟩ := Int.eq_ofNat_of_zero_le h0
  rw [show (1 : Int) = ((1 : Nat) : Int) from rfl, u64_xor_nat _ _ (by omega) (by omega), beq_eq_false_iff_ne]
  intro h
  have h2 : n ^^^ 1 = n := by exact_mod_cast h
  have h3 : n ^^^ (n ^^^ 1) = n ^^^ n := by rw [h2]
  rw [← Nat.xor_assoc, Nat.xor_self, Nat.zero_xor] at h3
  omega

set_option maxRecDepth 100000 in
set_option maxHeartbeats 16000000 in
theorem pback_ro (k s n c b o p : Int) (i r d q : Bool) (m : Nat) (z : Int) (t : ByteArray) (k2 s2 n2 c2 b2 o2 p2 : Int) (i2 r2 d2 q2 : Bool) (m2 : Nat) (z2 : Int) (t2 : ByteArray) (u s0 : ByteArray) (w : World) (he : Etyp w) (hl : ¬ 500 < (s0.size : Int)) (ht : ¬ 200 < (t.size : Int)) (h1 : ∀ w, Calls Tryd.prog 8 #[.agg #[.int .i64 k, .int .u64 s, .int .i64 n, .int .u64 c, .int .u64 b, .int .u64 o, .int .u64 p, .bool i, .bool r, .bool d, .bool q, .int .u32 (m : Int), .int .i64 z, .string t]] w fun e w' => e = .returned (.tuple #[.string u, .int .i64 0]) ∧ Below w.heap.size w w') (h2 : ∀ w, Etyp w → Calls Tryd.prog 15 #[.string u, .int .u64 s] w fun e w' => e = .returned (.tuple #[.agg #[.int .i64 k, .int .u64 s, .int .i64 n, .int .u64 c, .int .u64 b, .int .u64 o, .int .u64 p, .bool i, .bool r, .bool d, .bool q, .int .u32 (m : Int), .int .i64 z, .string t], .int .i64 0]) ∧ Below w.heap.size w w') (h3 : ∀ w, Etyp w → Calls Tryd.prog 15 #[.string u, .int .u64 (bits .xor .u64 s 1)] w fun e w' => e = .returned (.tuple #[.agg #[.int .i64 0, .int .u64 0, .int .i64 0, .int .u64 0, .int .u64 0, .int .u64 0, .int .u64 0, .bool false, .bool false, .bool false, .bool false, .int .u32 0, .int .i64 0, .string ⟨#[]⟩], .int .i64 16]) ∧ Below w.heap.size w w') (hd : ∀ w, Etyp w → Calls Tryd.prog 13 #[.string s0] w fun e w' => e = .returned (.tuple #[.agg #[.int .i64 k2, .int .u64 s2, .int .i64 n2, .int .u64 c2, .int .u64 b2, .int .u64 o2, .int .u64 p2, .bool i2, .bool r2, .bool d2, .bool q2, .int .u32 (m2 : Int), .int .i64 z2, .string t2], .int .i64 0]) ∧ Below w.heap.size w w') (h5 : ∀ w, Calls Tryd.prog 8 #[.agg #[.int .i64 k2, .int .u64 s2, .int .i64 n2, .int .u64 c2, .int .u64 b2, .int .u64 o2, .int .u64 p2, .bool i2, .bool r2, .bool d2, .bool q2, .int .u32 (m2 : Int), .int .i64 z2, .string t2]] w fun e w' => e = .returned (.tuple #[.string s0, .int .i64 0]) ∧ Below w.heap.size w w') : Calls Tryd.prog 5 #[.agg #[.int .i64 k, .int .u64 s, .int .i64 n, .int .u64 c, .int .u64 b, .int .u64 o, .int .u64 p, .bool i, .bool r, .bool d, .bool q, .int .u32 (m : Int), .int .i64 z, .string t], .string s0] w (Yes w) := by
  have HT := Lib.hid he; clear he
  have K1 := Lib.hid h1; clear h1
  have K2 := Lib.hid h2; clear h2
  have K3 := Lib.hid h3; clear h3
  have D1 := Lib.hid hd; clear hd
  have K5 := Lib.hid h5; clear h5
  have e0 : (s0.toList == s0.toList) = true := beq_self_eq_true _
  have H0 := Lib.hid ((Held.refl w).lay [.int .i64 k, .int .u64 s, .int .i64 n, .int .u64 c, .int .u64 b, .int .u64 o, .int .u64 p, .bool i, .bool r, .bool d, .bool q, .int .u32 (m : Int), .int .i64 z, .string t] 30)
  have k00 := H0.out.b0.cell
  go_enter Tryd.func5, Tryd.ntmps5
  go_wp2_with fail
  refine (palive_any _ (HT.out.up H0.out.below)).mono ?_
  rintro e w1 ⟨rfl, hb⟩
  have H1 := Lib.hid (H0.out.up hb)
  clear hb k00
  have k00 := H1.out.b0.cell
  go_wp2_with fail
  refine (K1.out _).mono ?_
  rintro e w2 ⟨rfl, hb⟩
  have H2 := Lib.hid (H1.out.up hb)
  clear hb k00
  have k00 := H2.out.b0.cell
  go_wp2_with fail
  refine (K2.out _ (HT.out.up H2.out.below)).mono ?_
  rintro e w3 ⟨rfl, hb⟩
  have H3 := Lib.hid ((H2.out.up hb).lay [.int .i64 k, .int .u64 s, .int .i64 n, .int .u64 c, .int .u64 b, .int .u64 o, .int .u64 p, .bool i, .bool r, .bool d, .bool q, .int .u32 (m : Int), .int .i64 z, .string t] 30)
  clear hb k00
  have k00 := H3.out.b0.cell
  have k01 := H3.out.b1.cell
  go_wp2_with fail
  refine (K3.out _ (HT.out.up H3.out.below)).mono ?_
  rintro e w4 ⟨rfl, hb⟩
  have H4 := Lib.hid ((H3.out.up hb).lay [.int .i64 0, .int .u64 0, .int .i64 0, .int .u64 0, .int .u64 0, .int .u64 0, .int .u64 0, .bool false, .bool false, .bool false, .bool false, .int .u32 0, .int .i64 0, .string ⟨#[]⟩] 30)
  clear hb k00 k01
  have k00 := H4.out.b0.cell
  have k01 := H4.out.b1.cell
  have k02 := H4.out.b2.cell
  go_wp2_with fail
  refine (D1.out _ (HT.out.up H4.out.below)).mono ?_
  rintro e w5 ⟨rfl, hb⟩
  have H5 := Lib.hid ((H4.out.up hb).lay [.int .i64 k2, .int .u64 s2, .int .i64 n2, .int .u64 c2, .int .u64 b2, .int .u64 o2, .int .u64 p2, .bool i2, .bool r2, .bool d2, .bool q2, .int .u32 (m2 : Int), .int .i64 z2, .string t2] 30)
  clear hb k00 k01 k02
  have k00 := H5.out.b0.cell
  have k01 := H5.out.b1.cell
  have k02 := H5.out.b2.cell
  have k03 := H5.out.b3.cell
  go_wp2_with fail
  refine (K5.out _).mono ?_
  rintro e w6 ⟨rfl, hb⟩
  have H6 := Lib.hid (H5.out.up hb)
  clear hb k00 k01 k02 k03
  have k00 := H6.out.b0.cell
  have k01 := H6.out.b1.cell
  have k02 := H6.out.b2.cell
  have k03 := H6.out.b3.cell
  go_wp2_with fail
  go_ret
  exact ⟨rfl, H6.out.below⟩

set_option maxRecDepth 100000 in
set_option maxHeartbeats 16000000 in
theorem pback_re (k s n c b o p : Int) (i r d q : Bool) (m : Nat) (z : Int) (t : ByteArray) (f : Int) (u s0 : ByteArray) (w : World) (he : Etyp w) (hl : ¬ 500 < (s0.size : Int)) (ht : ¬ 200 < (t.size : Int)) (h1 : ∀ w, Calls Tryd.prog 8 #[.agg #[.int .i64 k, .int .u64 s, .int .i64 n, .int .u64 c, .int .u64 b, .int .u64 o, .int .u64 p, .bool i, .bool r, .bool d, .bool q, .int .u32 (m : Int), .int .i64 z, .string t]] w fun e w' => e = .returned (.tuple #[.string u, .int .i64 0]) ∧ Below w.heap.size w w') (h2 : ∀ w, Etyp w → Calls Tryd.prog 15 #[.string u, .int .u64 s] w fun e w' => e = .returned (.tuple #[.agg #[.int .i64 k, .int .u64 s, .int .i64 n, .int .u64 c, .int .u64 b, .int .u64 o, .int .u64 p, .bool i, .bool r, .bool d, .bool q, .int .u32 (m : Int), .int .i64 z, .string t], .int .i64 0]) ∧ Below w.heap.size w w') (h3 : ∀ w, Etyp w → Calls Tryd.prog 15 #[.string u, .int .u64 (bits .xor .u64 s 1)] w fun e w' => e = .returned (.tuple #[.agg #[.int .i64 0, .int .u64 0, .int .i64 0, .int .u64 0, .int .u64 0, .int .u64 0, .int .u64 0, .bool false, .bool false, .bool false, .bool false, .int .u32 0, .int .i64 0, .string ⟨#[]⟩], .int .i64 16]) ∧ Below w.heap.size w w') (hd : ∀ w, Etyp w → Calls Tryd.prog 13 #[.string s0] w fun e w' => e = .returned (.tuple #[.agg #[.int .i64 0, .int .u64 0, .int .i64 0, .int .u64 0, .int .u64 0, .int .u64 0, .int .u64 0, .bool false, .bool false, .bool false, .bool false, .int .u32 0, .int .i64 0, .string ⟨#[]⟩], .int .i64 f]) ∧ Below w.heap.size w w') (hf : (f != 0) = true) : Calls Tryd.prog 5 #[.agg #[.int .i64 k, .int .u64 s, .int .i64 n, .int .u64 c, .int .u64 b, .int .u64 o, .int .u64 p, .bool i, .bool r, .bool d, .bool q, .int .u32 (m : Int), .int .i64 z, .string t], .string s0] w (Yes w) := by
  have HT := Lib.hid he; clear he
  have K1 := Lib.hid h1; clear h1
  have K2 := Lib.hid h2; clear h2
  have K3 := Lib.hid h3; clear h3
  have D1 := Lib.hid hd; clear hd
  have H0 := Lib.hid ((Held.refl w).lay [.int .i64 k, .int .u64 s, .int .i64 n, .int .u64 c, .int .u64 b, .int .u64 o, .int .u64 p, .bool i, .bool r, .bool d, .bool q, .int .u32 (m : Int), .int .i64 z, .string t] 30)
  have k00 := H0.out.b0.cell
  go_enter Tryd.func5, Tryd.ntmps5
  go_wp2_with fail
  refine (palive_any _ (HT.out.up H0.out.below)).mono ?_
  rintro e w1 ⟨rfl, hb⟩
  have H1 := Lib.hid (H0.out.up hb)
  clear hb k00
  have k00 := H1.out.b0.cell
  go_wp2_with fail
  refine (K1.out _).mono ?_
  rintro e w2 ⟨rfl, hb⟩
  have H2 := Lib.hid (H1.out.up hb)
  clear hb k00
  have k00 := H2.out.b0.cell
  go_wp2_with fail
  refine (K2.out _ (HT.out.up H2.out.below)).mono ?_
  rintro e w3 ⟨rfl, hb⟩
  have H3 := Lib.hid ((H2.out.up hb).lay [.int .i64 k, .int .u64 s, .int .i64 n, .int .u64 c, .int .u64 b, .int .u64 o, .int .u64 p, .bool i, .bool r, .bool d, .bool q, .int .u32 (m : Int), .int .i64 z, .string t] 30)
  clear hb k00
  have k00 := H3.out.b0.cell
  have k01 := H3.out.b1.cell
  go_wp2_with fail
  refine (K3.out _ (HT.out.up H3.out.below)).mono ?_
  rintro e w4 ⟨rfl, hb⟩
  have H4 := Lib.hid ((H3.out.up hb).lay [.int .i64 0, .int .u64 0, .int .i64 0, .int .u64 0, .int .u64 0, .int .u64 0, .int .u64 0, .bool false, .bool false, .bool false, .bool false, .int .u32 0, .int .i64 0, .string ⟨#[]⟩] 30)
  clear hb k00 k01
  have k00 := H4.out.b0.cell
  have k01 := H4.out.b1.cell
  have k02 := H4.out.b2.cell
  go_wp2_with fail
  refine (D1.out _ (HT.out.up H4.out.below)).mono ?_
  rintro e w5 ⟨rfl, hb⟩
  have H5 := Lib.hid ((H4.out.up hb).lay [.int .i64 0, .int .u64 0, .int .i64 0, .int .u64 0, .int .u64 0, .int .u64 0, .int .u64 0, .bool false, .bool false, .bool false, .bool false, .int .u32 0, .int .i64 0, .string ⟨#[]⟩] 30)
  clear hb k00 k01 k02
  have k00 := H5.out.b0.cell
  have k01 := H5.out.b1.cell
  have k02 := H5.out.b2.cell
  have k03 := H5.out.b3.cell
  go_wp2_with fail
  go_ret
  exact ⟨rfl, H5.out.below⟩

set_option maxRecDepth 100000 in
set_option maxHeartbeats 16000000 in
theorem pback_wo (k s n c b o p : Int) (i r d q : Bool) (m : Nat) (z : Int) (t : ByteArray) (k2 s2 n2 c2 b2 o2 p2 : Int) (i2 r2 d2 q2 : Bool) (m2 : Nat) (z2 : Int) (t2 : ByteArray) (u s0 : ByteArray) (w : World) (he : Etyp w) (hl : ¬ 500 < (s0.size : Int)) (ht : ¬ 200 < (t.size : Int)) (h1 : ∀ w, Calls Tryd.prog 8 #[.agg #[.int .i64 k, .int .u64 s, .int .i64 n, .int .u64 c, .int .u64 b, .int .u64 o, .int .u64 p, .bool i, .bool r, .bool d, .bool q, .int .u32 (m : Int), .int .i64 z, .string t]] w fun e w' => e = .returned (.tuple #[.string u, .int .i64 1]) ∧ Below w.heap.size w w') (hd : ∀ w, Etyp w → Calls Tryd.prog 13 #[.string s0] w fun e w' => e = .returned (.tuple #[.agg #[.int .i64 k2, .int .u64 s2, .int .i64 n2, .int .u64 c2, .int .u64 b2, .int .u64 o2, .int .u64 p2, .bool i2, .bool r2, .bool d2, .bool q2, .int .u32 (m2 : Int), .int .i64 z2, .string t2], .int .i64 0]) ∧ Below w.heap.size w w') (h5 : ∀ w, Calls Tryd.prog 8 #[.agg #[.int .i64 k2, .int .u64 s2, .int .i64 n2, .int .u64 c2, .int .u64 b2, .int .u64 o2, .int .u64 p2, .bool i2, .bool r2, .bool d2, .bool q2, .int .u32 (m2 : Int), .int .i64 z2, .string t2]] w fun e w' => e = .returned (.tuple #[.string s0, .int .i64 0]) ∧ Below w.heap.size w w') : Calls Tryd.prog 5 #[.agg #[.int .i64 k, .int .u64 s, .int .i64 n, .int .u64 c, .int .u64 b, .int .u64 o, .int .u64 p, .bool i, .bool r, .bool d, .bool q, .int .u32 (m : Int), .int .i64 z, .string t], .string s0] w (Yes w) := by
  have HT := Lib.hid he; clear he
  have K1 := Lib.hid h1; clear h1
  have D1 := Lib.hid hd; clear hd
  have K5 := Lib.hid h5; clear h5
  have e0 : (s0.toList == s0.toList) = true := beq_self_eq_true _
  have H0 := Lib.hid ((Held.refl w).lay [.int .i64 k, .int .u64 s, .int .i64 n, .int .u64 c, .int .u64 b, .int .u64 o, .int .u64 p, .bool i, .bool r, .bool d, .bool q, .int .u32 (m : Int), .int .i64 z, .string t] 30)
  have k00 := H0.out.b0.cell
  go_enter Tryd.func5, Tryd.ntmps5
  go_wp2_with fail
  refine (palive_any _ (HT.out.up H0.out.below)).mono ?_
  rintro e w1 ⟨rfl, hb⟩
  have H1 := Lib.hid (H0.out.up hb)
  clear hb k00
  have k00 := H1.out.b0.cell
  go_wp2_with fail
  refine (K1.out _).mono ?_
  rintro e w2 ⟨rfl, hb⟩
  have H2 := Lib.hid (H1.out.up hb)
  clear hb k00
  have k00 := H2.out.b0.cell
  go_wp2_with fail
  refine (D1.out _ (HT.out.up H2.out.below)).mono ?_
  rintro e w3 ⟨rfl, hb⟩
  have H3 := Lib.hid ((H2.out.up hb).lay [.int .i64 k2, .int .u64 s2, .int .i64 n2, .int .u64 c2, .int .u64 b2, .int .u64 o2, .int .u64 p2, .bool i2, .bool r2, .bool d2, .bool q2, .int .u32 (m2 : Int), .int .i64 z2, .string t2] 30)
  clear hb k00
  have k00 := H3.out.b0.cell
  have k01 := H3.out.b1.cell
  go_wp2_with fail
  refine (K5.out _).mono ?_
  rintro e w4 ⟨rfl, hb⟩
  have H4 := Lib.hid (H3.out.up hb)
  clear hb k00 k01
  have k00 := H4.out.b0.cell
  have k01 := H4.out.b1.cell
  go_wp2_with fail
  go_ret
  exact ⟨rfl, H4.out.below⟩

set_option maxRecDepth 100000 in
set_option maxHeartbeats 16000000 in
theorem pback_we (k s n c b o p : Int) (i r d q : Bool) (m : Nat) (z : Int) (t : ByteArray) (f : Int) (u s0 : ByteArray) (w : World) (he : Etyp w) (hl : ¬ 500 < (s0.size : Int)) (ht : ¬ 200 < (t.size : Int)) (h1 : ∀ w, Calls Tryd.prog 8 #[.agg #[.int .i64 k, .int .u64 s, .int .i64 n, .int .u64 c, .int .u64 b, .int .u64 o, .int .u64 p, .bool i, .bool r, .bool d, .bool q, .int .u32 (m : Int), .int .i64 z, .string t]] w fun e w' => e = .returned (.tuple #[.string u, .int .i64 1]) ∧ Below w.heap.size w w') (hd : ∀ w, Etyp w → Calls Tryd.prog 13 #[.string s0] w fun e w' => e = .returned (.tuple #[.agg #[.int .i64 0, .int .u64 0, .int .i64 0, .int .u64 0, .int .u64 0, .int .u64 0, .int .u64 0, .bool false, .bool false, .bool false, .bool false, .int .u32 0, .int .i64 0, .string ⟨#[]⟩], .int .i64 f]) ∧ Below w.heap.size w w') (hf : (f != 0) = true) : Calls Tryd.prog 5 #[.agg #[.int .i64 k, .int .u64 s, .int .i64 n, .int .u64 c, .int .u64 b, .int .u64 o, .int .u64 p, .bool i, .bool r, .bool d, .bool q, .int .u32 (m : Int), .int .i64 z, .string t], .string s0] w (Yes w) := by
  have HT := Lib.hid he; clear he
  have K1 := Lib.hid h1; clear h1
  have D1 := Lib.hid hd; clear hd
  have H0 := Lib.hid ((Held.refl w).lay [.int .i64 k, .int .u64 s, .int .i64 n, .int .u64 c, .int .u64 b, .int .u64 o, .int .u64 p, .bool i, .bool r, .bool d, .bool q, .int .u32 (m : Int), .int .i64 z, .string t] 30)
  have k00 := H0.out.b0.cell
  go_enter Tryd.func5, Tryd.ntmps5
  go_wp2_with fail
  refine (palive_any _ (HT.out.up H0.out.below)).mono ?_
  rintro e w1 ⟨rfl, hb⟩
  have H1 := Lib.hid (H0.out.up hb)
  clear hb k00
  have k00 := H1.out.b0.cell
  go_wp2_with fail
  refine (K1.out _).mono ?_
  rintro e w2 ⟨rfl, hb⟩
  have H2 := Lib.hid (H1.out.up hb)
  clear hb k00
  have k00 := H2.out.b0.cell
  go_wp2_with fail
  refine (D1.out _ (HT.out.up H2.out.below)).mono ?_
  rintro e w3 ⟨rfl, hb⟩
  have H3 := Lib.hid ((H2.out.up hb).lay [.int .i64 0, .int .u64 0, .int .i64 0, .int .u64 0, .int .u64 0, .int .u64 0, .int .u64 0, .bool false, .bool false, .bool false, .bool false, .int .u32 0, .int .i64 0, .string ⟨#[]⟩] 30)
  clear hb k00
  have k00 := H3.out.b0.cell
  have k01 := H3.out.b1.cell
  go_wp2_with fail
  go_ret
  exact ⟨rfl, H3.out.below⟩

set_option maxRecDepth 100000 in
set_option maxHeartbeats 16000000 in
theorem pback_long (k s n c b o p : Int) (i r d q : Bool) (m : Nat) (z : Int) (t s0 : ByteArray) (w : World) (he : Etyp w) (hl : 500 < (s0.size : Int) ∨ 200 < (t.size : Int)) : Calls Tryd.prog 5 #[.agg #[.int .i64 k, .int .u64 s, .int .i64 n, .int .u64 c, .int .u64 b, .int .u64 o, .int .u64 p, .bool i, .bool r, .bool d, .bool q, .int .u32 (m : Int), .int .i64 z, .string t], .string s0] w (Yes w) := by
  have HT := Lib.hid he; clear he
  have H0 := Lib.hid ((Held.refl w).lay [.int .i64 k, .int .u64 s, .int .i64 n, .int .u64 c, .int .u64 b, .int .u64 o, .int .u64 p, .bool i, .bool r, .bool d, .bool q, .int .u32 (m : Int), .int .i64 z, .string t] 30)
  have k00 := H0.out.b0.cell
  by_cases h : 500 < (s0.size : Int)
  · clear hl
    go_enter Tryd.func5, Tryd.ntmps5
    go_wp2_with fail
    refine (palive_any _ (HT.out.up H0.out.below)).mono ?_
    rintro e w1 ⟨rfl, hb⟩
    have H1 := Lib.hid (H0.out.up hb)
    clear hb k00
    have k00 := H1.out.b0.cell
    go_wp2_with fail
    go_ret
    exact ⟨rfl, H1.out.below⟩
  · have ht := hl.resolve_left h
    clear hl
    go_enter Tryd.func5, Tryd.ntmps5
    go_wp2_with fail
    refine (palive_any _ (HT.out.up H0.out.below)).mono ?_
    rintro e w1 ⟨rfl, hb⟩
    have H1 := Lib.hid (H0.out.up hb)
    clear hb k00
    have k00 := H1.out.b0.cell
    go_wp2_with fail
    go_ret
    exact ⟨rfl, H1.out.below⟩

theorem pback_law (x : Pkt) (s0 : ByteArray) (w : World) (hw : x.wide) (he : Etyp w) : Calls Tryd.prog 5 #[pktV x, .string s0] w (Yes w) := by
  by_cases hl : 500 < (s0.size : Int) ∨ 200 < (x.d.size : Int)
  · obtain ⟨k, s, ⟨n, c, b, o, p, i, r, d, q, m⟩, z, t⟩ := x
    exact pback_long k s n c b o p i r d q m z t s0 w he hl
  · have hs : (s0.size : Int) ≤ 3000 := by omega
    have h1 := fun w => pencode_any x w hw
    have hd := fun w he => pdecode_any s0 w hs he
    cases hr : x.right
    · rw [show x.encE = 1 from by unfold Pkt.encE; rw [hr]; rfl] at h1
      by_cases h0 : (decP s0).2 = 0
      · obtain ⟨y1, y2, y3⟩ := encT_decP h0
        have h5 := fun w => pencode_any (decP s0).1 w y2
        rw [y3, show (decP s0).1.encE = 0 from by unfold Pkt.encE; rw [if_pos y1]] at h5
        rw [h0] at hd
        generalize (decP s0).1 = y at *
        obtain ⟨k2, s2, ⟨n2, c2, b2, o2, p2, i2, r2, d2, q2, m2⟩, z2, t2⟩ := y
        obtain ⟨k, s, ⟨n, c, b, o, p, i, r, d, q, m⟩, z, t⟩ := x
        exact pback_wo _ _ _ _ _ _ _ _ _ _ _ _ _ _ _ _ _ _ _ _ _ _ _ _ _ _ _ _ _ _ w he (fun q => hl (Or.inl q)) (fun q => hl (Or.inr q)) h1 hd h5
      · rw [decP_zero h0] at hd
        obtain ⟨k, s, ⟨n, c, b, o, p, i, r, d, q, m⟩, z, t⟩ := x
        exact pback_we _ _ _ _ _ _ _ _ _ _ _ _ _ _ _ _ _ w he (fun q => hl (Or.inl q)) (fun q => hl (Or.inr q)) h1 hd (bne_iff_ne.2 h0)
    · rw [show x.encE = 0 from by unfold Pkt.encE; rw [if_pos hr]] at h1
      have hz : (x.encT.size : Int) ≤ 3000 := by rw [encT_size hr]; have := body_few x hr; omega
      have h2 := fun w he => pread_any x.encT x.s w hz he
      have h3 := fun w he => pread_any x.encT (bits .xor .u64 x.s 1) w hz he
      rw [show readP x.encT x.s = (x, 0) from by unfold readP; rw [decP_encT hw hr]; simp] at h2
      have hx : ¬ x.s = bits .xor .u64 x.s 1 := fun q => by have := xor_other x.s hw.1.1 hw.1.2; rw [← q] at this; simp at this
      rw [show readP x.encT (bits .xor .u64 x.s 1) = (Pkt.zero, 16) from by unfold readP; rw [decP_encT hw hr]; simp [hx]] at h3
      by_cases h0 : (decP s0).2 = 0
      · obtain ⟨y1, y2, y3⟩ := encT_decP h0
        have h5 := fun w => pencode_any (decP s0).1 w y2
        rw [y3, show (decP s0).1.encE = 0 from by unfold Pkt.encE; rw [if_pos y1]] at h5
        rw [h0] at hd
        generalize (decP s0).1 = y at *
        obtain ⟨k2, s2, ⟨n2, c2, b2, o2, p2, i2, r2, d2, q2, m2⟩, z2, t2⟩ := y
        obtain ⟨k, s, ⟨n, c, b, o, p, i, r, d, q, m⟩, z, t⟩ := x
        exact pback_ro _ _ _ _ _ _ _ _ _ _ _ _ _ _ _ _ _ _ _ _ _ _ _ _ _ _ _ _ _ _ w he (fun q => hl (Or.inl q)) (fun q => hl (Or.inr q)) h1 h2 h3 hd h5
      · rw [decP_zero h0] at hd
        obtain ⟨k, s, ⟨n, c, b, o, p, i, r, d, q, m⟩, z, t⟩ := x
        exact pback_re _ _ _ _ _ _ _ _ _ _ _ _ _ _ _ _ _ w he (fun q => hl (Or.inl q)) (fun q => hl (Or.inr q)) h1 h2 h3 hd (bne_iff_ne.2 h0)

end Go.Proofs.YtbbcncofdhhflaaDoor
