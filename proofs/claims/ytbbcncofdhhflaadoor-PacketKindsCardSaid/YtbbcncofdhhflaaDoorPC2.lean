/- Packets: the bytes of the fields, by the code; for every packet. No other condition but the widths. -/
import Derived.Test.YtbbcncofdhhflaaDoorPC1
import Derived.Test.YtbbcncofdhhflaaDoorPK3
namespace Go.Proofs.YtbbcncofdhhflaaDoor
open Go.RowKit

/-- The bytes of the fields of a packet. -/
def Pkt.fieldsL (p : Pkt) : List UInt8 := (if p.k = 1 then p.h.body else []) ++ ((if blockK p.k then [UInt8.ofNat p.b.toNat] else []) ++ p.d.data.toList)
theorem Pkt.body_fields (p : Pkt) : p.body = UInt8.ofNat p.k.toNat :: (be 8 p.s.toNat ++ p.fieldsL) := by
  rw [body_front]
  rfl

set_option maxRecDepth 100000 in
set_option maxHeartbeats 8000000 in
theorem pf_hello (s n c b o p : Int) (i r d q : Bool) (m : Nat) (z : Int) (t : ByteArray) (w : World) (hw : Hel.wide ⟨n, c, b, o, p, i, r, d, q, m⟩) (hr : Hel.right ⟨n, c, b, o, p, i, r, d, q, m⟩ = true) : Calls Tryd.prog 19 #[.agg #[.int .i64 1, .int .u64 s, .int .i64 n, .int .u64 c, .int .u64 b, .int .u64 o, .int .u64 p, .bool i, .bool r, .bool d, .bool q, .int .u32 (m : Int), .int .i64 z, .string t]] w fun e w' => e = .returned (.string (Hel.bytes ⟨n, c, b, o, p, i, r, d, q, m⟩)) ∧ Below w.heap.size w w' := by
  have he := fun w => hencode_yes ⟨n, c, b, o, p, i, r, d, q, m⟩ w hw hr
  have HE := Lib.hid he; clear he hw hr
  have H0 := Lib.hid ((Held.refl w).lay [.int .i64 1, .int .u64 s, .int .i64 n, .int .u64 c, .int .u64 b, .int .u64 o, .int .u64 p, .bool i, .bool r, .bool d, .bool q, .int .u32 (m : Int), .int .i64 z, .string t] 30)
  have k0 := H0.out.b0.cell
  go_enter Tryd.func19, Tryd.ntmps19
  go_wp2_with fail
  refine (HE.out _).mono ?_
  rintro e w1 ⟨rfl, hb⟩
  have H1 := Lib.hid (H0.out.up hb)
  clear hb k0
  go_wp2_with fail
  go_ret
  exact ⟨rfl, H1.out.below⟩

set_option maxRecDepth 100000 in
set_option maxHeartbeats 8000000 in
theorem pf_2 (s n c b o p : Int) (i r d q : Bool) (m : Nat) (z : Int) (t : ByteArray) (w : World) (v x : ByteArray) (hv : strOfNums [z % 256] = v) (zv : v.size = 1) (zt : t.size ≤ 8) (hx : v ++ t = x) : Calls Tryd.prog 19 #[.agg #[.int .i64 2, .int .u64 s, .int .i64 n, .int .u64 c, .int .u64 b, .int .u64 o, .int .u64 p, .bool i, .bool r, .bool d, .bool q, .int .u32 (m : Int), .int .i64 z, .string t]] w fun e w' => e = .returned (.string x) ∧ Below w.heap.size w w' := by
  have c2 := conv1 (Box.new2 w (.cells #[.int .i64 2, .int .u64 s, .int .i64 n, .int .u64 c, .int .u64 b, .int .u64 o, .int .u64 p, .bool i, .bool r, .bool d, .bool q, .int .u32 (m : Int), .int .i64 z, .string t] 30) [.int .u8 (z % 256)] 5) hv
  clear hv
  have H0 := Lib.hid ((Held.refl w).lay [.int .i64 2, .int .u64 s, .int .i64 n, .int .u64 c, .int .u64 b, .int .u64 o, .int .u64 p, .bool i, .bool r, .bool d, .bool q, .int .u32 (m : Int), .int .i64 z, .string t] 30)
  have k0 := H0.out.b0.cell
  have k1 := (H0.out.alloc (.cells #[.int .u8 (z % 256)] 5)).b0.cell
  go_enter Tryd.func19, Tryd.ntmps19
  go_wp2_with fail
  go_ret
  exact ⟨rfl, (H0.out.alloc (.cells #[.int .u8 (z % 256)] 5)).below⟩

set_option maxRecDepth 100000 in
set_option maxHeartbeats 8000000 in
theorem pf_3 (s n c b o p : Int) (i r d q : Bool) (m : Nat) (z : Int) (t : ByteArray) (w : World) (v x : ByteArray) (hv : strOfNums [z % 256] = v) (zv : v.size = 1) (zt : t.size ≤ 8) (hx : v ++ t = x) : Calls Tryd.prog 19 #[.agg #[.int .i64 3, .int .u64 s, .int .i64 n, .int .u64 c, .int .u64 b, .int .u64 o, .int .u64 p, .bool i, .bool r, .bool d, .bool q, .int .u32 (m : Int), .int .i64 z, .string t]] w fun e w' => e = .returned (.string x) ∧ Below w.heap.size w w' := by
  have c2 := conv1 (Box.new2 w (.cells #[.int .i64 3, .int .u64 s, .int .i64 n, .int .u64 c, .int .u64 b, .int .u64 o, .int .u64 p, .bool i, .bool r, .bool d, .bool q, .int .u32 (m : Int), .int .i64 z, .string t] 30) [.int .u8 (z % 256)] 5) hv
  clear hv
  have H0 := Lib.hid ((Held.refl w).lay [.int .i64 3, .int .u64 s, .int .i64 n, .int .u64 c, .int .u64 b, .int .u64 o, .int .u64 p, .bool i, .bool r, .bool d, .bool q, .int .u32 (m : Int), .int .i64 z, .string t] 30)
  have k0 := H0.out.b0.cell
  have k1 := (H0.out.alloc (.cells #[.int .u8 (z % 256)] 5)).b0.cell
  go_enter Tryd.func19, Tryd.ntmps19
  go_wp2_with fail
  go_ret
  exact ⟨rfl, (H0.out.alloc (.cells #[.int .u8 (z % 256)] 5)).below⟩

set_option maxRecDepth 100000 in
set_option maxHeartbeats 8000000 in
theorem pf_4 (s n c b o p : Int) (i r d q : Bool) (m : Nat) (z : Int) (t : ByteArray) (w : World) (v x : ByteArray) (hv : strOfNums [z % 256] = v) (zv : v.size = 1) (zt : t.size ≤ 8) (hx : v ++ t = x) : Calls Tryd.prog 19 #[.agg #[.int .i64 4, .int .u64 s, .int .i64 n, .int .u64 c, .int .u64 b, .int .u64 o, .int .u64 p, .bool i, .bool r, .bool d, .bool q, .int .u32 (m : Int), .int .i64 z, .string t]] w fun e w' => e = .returned (.string x) ∧ Below w.heap.size w w' := by
  have c2 := conv1 (Box.new2 w (.cells #[.int .i64 4, .int .u64 s, .int .i64 n, .int .u64 c, .int .u64 b, .int .u64 o, .int .u64 p, .bool i, .bool r, .bool d, .bool q, .int .u32 (m : Int), .int .i64 z, .string t] 30) [.int .u8 (z % 256)] 5) hv
  clear hv
  have H0 := Lib.hid ((Held.refl w).lay [.int .i64 4, .int .u64 s, .int .i64 n, .int .u64 c, .int .u64 b, .int .u64 o, .int .u64 p, .bool i, .bool r, .bool d, .bool q, .int .u32 (m : Int), .int .i64 z, .string t] 30)
  have k0 := H0.out.b0.cell
  have k1 := (H0.out.alloc (.cells #[.int .u8 (z % 256)] 5)).b0.cell
  go_enter Tryd.func19, Tryd.ntmps19
  go_wp2_with fail
  go_ret
  exact ⟨rfl, (H0.out.alloc (.cells #[.int .u8 (z % 256)] 5)).below⟩

set_option maxRecDepth 100000 in
set_option maxHeartbeats 8000000 in
theorem pf_5 (s n c b o p : Int) (i r d q : Bool) (m : Nat) (z : Int) (t : ByteArray) (w : World) (v x : ByteArray) (hv : strOfNums [z % 256] = v) (zv : v.size = 1) (zt : t.size ≤ 8) (hx : v ++ t = x) : Calls Tryd.prog 19 #[.agg #[.int .i64 5, .int .u64 s, .int .i64 n, .int .u64 c, .int .u64 b, .int .u64 o, .int .u64 p, .bool i, .bool r, .bool d, .bool q, .int .u32 (m : Int), .int .i64 z, .string t]] w fun e w' => e = .returned (.string x) ∧ Below w.heap.size w w' := by
  have c2 := conv1 (Box.new2 w (.cells #[.int .i64 5, .int .u64 s, .int .i64 n, .int .u64 c, .int .u64 b, .int .u64 o, .int .u64 p, .bool i, .bool r, .bool d, .bool q, .int .u32 (m : Int), .int .i64 z, .string t] 30) [.int .u8 (z % 256)] 5) hv
  clear hv
  have H0 := Lib.hid ((Held.refl w).lay [.int .i64 5, .int .u64 s, .int .i64 n, .int .u64 c, .int .u64 b, .int .u64 o, .int .u64 p, .bool i, .bool r, .bool d, .bool q, .int .u32 (m : Int), .int .i64 z, .string t] 30)
  have k0 := H0.out.b0.cell
  have k1 := (H0.out.alloc (.cells #[.int .u8 (z % 256)] 5)).b0.cell
  go_enter Tryd.func19, Tryd.ntmps19
  go_wp2_with fail
  go_ret
  exact ⟨rfl, (H0.out.alloc (.cells #[.int .u8 (z % 256)] 5)).below⟩

set_option maxRecDepth 100000 in
set_option maxHeartbeats 8000000 in
theorem pf_6 (s n c b o p : Int) (i r d q : Bool) (m : Nat) (z : Int) (t : ByteArray) (w : World) (v x : ByteArray) (hv : strOfNums [z % 256] = v) (zv : v.size = 1) (zt : t.size ≤ 8) (hx : v ++ t = x) : Calls Tryd.prog 19 #[.agg #[.int .i64 6, .int .u64 s, .int .i64 n, .int .u64 c, .int .u64 b, .int .u64 o, .int .u64 p, .bool i, .bool r, .bool d, .bool q, .int .u32 (m : Int), .int .i64 z, .string t]] w fun e w' => e = .returned (.string x) ∧ Below w.heap.size w w' := by
  have c2 := conv1 (Box.new2 w (.cells #[.int .i64 6, .int .u64 s, .int .i64 n, .int .u64 c, .int .u64 b, .int .u64 o, .int .u64 p, .bool i, .bool r, .bool d, .bool q, .int .u32 (m : Int), .int .i64 z, .string t] 30) [.int .u8 (z % 256)] 5) hv
  clear hv
  have H0 := Lib.hid ((Held.refl w).lay [.int .i64 6, .int .u64 s, .int .i64 n, .int .u64 c, .int .u64 b, .int .u64 o, .int .u64 p, .bool i, .bool r, .bool d, .bool q, .int .u32 (m : Int), .int .i64 z, .string t] 30)
  have k0 := H0.out.b0.cell
  have k1 := (H0.out.alloc (.cells #[.int .u8 (z % 256)] 5)).b0.cell
  go_enter Tryd.func19, Tryd.ntmps19
  go_wp2_with fail
  go_ret
  exact ⟨rfl, (H0.out.alloc (.cells #[.int .u8 (z % 256)] 5)).below⟩

set_option maxRecDepth 100000 in
set_option maxHeartbeats 8000000 in
theorem pf_7 (s n c b o p : Int) (i r d q : Bool) (m : Nat) (z : Int) (t : ByteArray) (w : World) (v x : ByteArray) (hv : strOfNums [z % 256] = v) (zv : v.size = 1) (zt : t.size ≤ 8) (hx : v ++ t = x) : Calls Tryd.prog 19 #[.agg #[.int .i64 7, .int .u64 s, .int .i64 n, .int .u64 c, .int .u64 b, .int .u64 o, .int .u64 p, .bool i, .bool r, .bool d, .bool q, .int .u32 (m : Int), .int .i64 z, .string t]] w fun e w' => e = .returned (.string x) ∧ Below w.heap.size w w' := by
  have c2 := conv1 (Box.new2 w (.cells #[.int .i64 7, .int .u64 s, .int .i64 n, .int .u64 c, .int .u64 b, .int .u64 o, .int .u64 p, .bool i, .bool r, .bool d, .bool q, .int .u32 (m : Int), .int .i64 z, .string t] 30) [.int .u8 (z % 256)] 5) hv
  clear hv
  have H0 := Lib.hid ((Held.refl w).lay [.int .i64 7, .int .u64 s, .int .i64 n, .int .u64 c, .int .u64 b, .int .u64 o, .int .u64 p, .bool i, .bool r, .bool d, .bool q, .int .u32 (m : Int), .int .i64 z, .string t] 30)
  have k0 := H0.out.b0.cell
  have k1 := (H0.out.alloc (.cells #[.int .u8 (z % 256)] 5)).b0.cell
  go_enter Tryd.func19, Tryd.ntmps19
  go_wp2_with fail
  go_ret
  exact ⟨rfl, (H0.out.alloc (.cells #[.int .u8 (z % 256)] 5)).below⟩

set_option maxRecDepth 100000 in
set_option maxHeartbeats 8000000 in
theorem pf_8 (s n c b o p : Int) (i r d q : Bool) (m : Nat) (z : Int) (t : ByteArray) (w : World) : Calls Tryd.prog 19 #[.agg #[.int .i64 8, .int .u64 s, .int .i64 n, .int .u64 c, .int .u64 b, .int .u64 o, .int .u64 p, .bool i, .bool r, .bool d, .bool q, .int .u32 (m : Int), .int .i64 z, .string t]] w fun e w' => e = .returned (.string ⟨#[]⟩) ∧ Below w.heap.size w w' := by
  have H0 := Lib.hid ((Held.refl w).lay [.int .i64 8, .int .u64 s, .int .i64 n, .int .u64 c, .int .u64 b, .int .u64 o, .int .u64 p, .bool i, .bool r, .bool d, .bool q, .int .u32 (m : Int), .int .i64 z, .string t] 30)
  have k0 := H0.out.b0.cell
  go_enter Tryd.func19, Tryd.ntmps19
  go_wp2_with fail
  go_ret
  exact ⟨rfl, H0.out.below⟩

set_option maxRecDepth 100000 in
set_option maxHeartbeats 8000000 in
theorem pf_9 (s n c b o p : Int) (i r d q : Bool) (m : Nat) (z : Int) (t : ByteArray) (w : World) : Calls Tryd.prog 19 #[.agg #[.int .i64 9, .int .u64 s, .int .i64 n, .int .u64 c, .int .u64 b, .int .u64 o, .int .u64 p, .bool i, .bool r, .bool d, .bool q, .int .u32 (m : Int), .int .i64 z, .string t]] w fun e w' => e = .returned (.string ⟨#[]⟩) ∧ Below w.heap.size w w' := by
  have H0 := Lib.hid ((Held.refl w).lay [.int .i64 9, .int .u64 s, .int .i64 n, .int .u64 c, .int .u64 b, .int .u64 o, .int .u64 p, .bool i, .bool r, .bool d, .bool q, .int .u32 (m : Int), .int .i64 z, .string t] 30)
  have k0 := H0.out.b0.cell
  go_enter Tryd.func19, Tryd.ntmps19
  go_wp2_with fail
  go_ret
  exact ⟨rfl, H0.out.below⟩

set_option maxRecDepth 100000 in
set_option maxHeartbeats 8000000 in
theorem pf_10 (s n c b o p : Int) (i r d q : Bool) (m : Nat) (z : Int) (t : ByteArray) (w : World) : Calls Tryd.prog 19 #[.agg #[.int .i64 10, .int .u64 s, .int .i64 n, .int .u64 c, .int .u64 b, .int .u64 o, .int .u64 p, .bool i, .bool r, .bool d, .bool q, .int .u32 (m : Int), .int .i64 z, .string t]] w fun e w' => e = .returned (.string ⟨#[]⟩) ∧ Below w.heap.size w w' := by
  have H0 := Lib.hid ((Held.refl w).lay [.int .i64 10, .int .u64 s, .int .i64 n, .int .u64 c, .int .u64 b, .int .u64 o, .int .u64 p, .bool i, .bool r, .bool d, .bool q, .int .u32 (m : Int), .int .i64 z, .string t] 30)
  have k0 := H0.out.b0.cell
  go_enter Tryd.func19, Tryd.ntmps19
  go_wp2_with fail
  go_ret
  exact ⟨rfl, H0.out.below⟩

set_option maxRecDepth 100000 in
set_option maxHeartbeats 8000000 in
theorem pf_11 (s n c b o p : Int) (i r d q : Bool) (m : Nat) (z : Int) (t : ByteArray) (w : World) : Calls Tryd.prog 19 #[.agg #[.int .i64 11, .int .u64 s, .int .i64 n, .int .u64 c, .int .u64 b, .int .u64 o, .int .u64 p, .bool i, .bool r, .bool d, .bool q, .int .u32 (m : Int), .int .i64 z, .string t]] w fun e w' => e = .returned (.string ⟨#[]⟩) ∧ Below w.heap.size w w' := by
  have H0 := Lib.hid ((Held.refl w).lay [.int .i64 11, .int .u64 s, .int .i64 n, .int .u64 c, .int .u64 b, .int .u64 o, .int .u64 p, .bool i, .bool r, .bool d, .bool q, .int .u32 (m : Int), .int .i64 z, .string t] 30)
  have k0 := H0.out.b0.cell
  go_enter Tryd.func19, Tryd.ntmps19
  go_wp2_with fail
  go_ret
  exact ⟨rfl, H0.out.below⟩

set_option maxRecDepth 100000 in
set_option maxHeartbeats 8000000 in
theorem pf_12 (s n c b o p : Int) (i r d q : Bool) (m : Nat) (z : Int) (t : ByteArray) (w : World) : Calls Tryd.prog 19 #[.agg #[.int .i64 12, .int .u64 s, .int .i64 n, .int .u64 c, .int .u64 b, .int .u64 o, .int .u64 p, .bool i, .bool r, .bool d, .bool q, .int .u32 (m : Int), .int .i64 z, .string t]] w fun e w' => e = .returned (.string ⟨#[]⟩) ∧ Below w.heap.size w w' := by
  have H0 := Lib.hid ((Held.refl w).lay [.int .i64 12, .int .u64 s, .int .i64 n, .int .u64 c, .int .u64 b, .int .u64 o, .int .u64 p, .bool i, .bool r, .bool d, .bool q, .int .u32 (m : Int), .int .i64 z, .string t] 30)
  have k0 := H0.out.b0.cell
  go_enter Tryd.func19, Tryd.ntmps19
  go_wp2_with fail
  go_ret
  exact ⟨rfl, H0.out.below⟩

set_option maxRecDepth 100000 in
set_option maxHeartbeats 8000000 in
theorem pf_13 (s n c b o p : Int) (i r d q : Bool) (m : Nat) (z : Int) (t : ByteArray) (w : World) : Calls Tryd.prog 19 #[.agg #[.int .i64 13, .int .u64 s, .int .i64 n, .int .u64 c, .int .u64 b, .int .u64 o, .int .u64 p, .bool i, .bool r, .bool d, .bool q, .int .u32 (m : Int), .int .i64 z, .string t]] w fun e w' => e = .returned (.string ⟨#[]⟩) ∧ Below w.heap.size w w' := by
  have H0 := Lib.hid ((Held.refl w).lay [.int .i64 13, .int .u64 s, .int .i64 n, .int .u64 c, .int .u64 b, .int .u64 o, .int .u64 p, .bool i, .bool r, .bool d, .bool q, .int .u32 (m : Int), .int .i64 z, .string t] 30)
  have k0 := H0.out.b0.cell
  go_enter Tryd.func19, Tryd.ntmps19
  go_wp2_with fail
  go_ret
  exact ⟨rfl, H0.out.below⟩

theorem pfields_any (x : Pkt) (w : World) (hw : x.wide) (hr : x.right = true) : Calls Tryd.prog 19 #[pktV x] w fun e w' => e = .returned (.string (txt x.fieldsL)) ∧ Below w.heap.size w w' := by
  obtain ⟨⟨k0, k1⟩, r1, r2, ⟨b0, b1⟩, r3, r4, r5⟩ := Pkt.right_parts hr
  obtain ⟨k, s, ⟨n, c, b, o, p, i, r, d, q, m⟩, z, t⟩ := x
  dsimp only [pktV] at *
  have zt : t.size ≤ 8 := by
    cases e : dataK k
    · have := r5 e; omega
    · have := r4 e; omega
  have hz : strOfNums [z % 256] = txt [UInt8.ofNat z.toNat] := by
    have := head1 z (by omega) (by omega)
    rw [IntWalk.u8_in z (by omega)] at this
    rw [Int.emod_eq_of_lt (by omega) (by omega)]
    exact this
  clear hr
  have hk2 : k = 1 ∨ k = 2 ∨ k = 3 ∨ k = 4 ∨ k = 5 ∨ k = 6 ∨ k = 7 ∨ k = 8 ∨ k = 9 ∨ k = 10 ∨ k = 11 ∨ k = 12 ∨ k = 13 := by omega
  clear k0 k1 r2 b0 b1 r3 r4
  rcases hk2 with rfl | rfl | rfl | rfl | rfl | rfl | rfl | rfl | rfl | rfl | rfl | rfl | rfl
  · have e : Pkt.fieldsL ⟨1, s, ⟨n, c, b, o, p, i, r, d, q, m⟩, z, t⟩ = Hel.body ⟨n, c, b, o, p, i, r, d, q, m⟩ := by
      unfold Pkt.fieldsL
      rw [if_pos rfl, block_of_one, size_zero (r5 (by decide))]
      simp
    rw [e]
    exact pf_hello s n c b o p i r d q m z t w hw.2 (r1 rfl)
  · have e : txt [UInt8.ofNat z.toNat] ++ t = txt (Pkt.fieldsL ⟨2, s, ⟨n, c, b, o, p, i, r, d, q, m⟩, z, t⟩) := by
      unfold Pkt.fieldsL blockK
      rw [txt_end]
      simp
    exact pf_2 s n c b o p i r d q m z t w _ _ hz (one_size _) zt e
  · have e : txt [UInt8.ofNat z.toNat] ++ t = txt (Pkt.fieldsL ⟨3, s, ⟨n, c, b, o, p, i, r, d, q, m⟩, z, t⟩) := by
      unfold Pkt.fieldsL blockK
      rw [txt_end]
      simp
    exact pf_3 s n c b o p i r d q m z t w _ _ hz (one_size _) zt e
  · have e : txt [UInt8.ofNat z.toNat] ++ t = txt (Pkt.fieldsL ⟨4, s, ⟨n, c, b, o, p, i, r, d, q, m⟩, z, t⟩) := by
      unfold Pkt.fieldsL blockK
      rw [txt_end]
      simp
    exact pf_4 s n c b o p i r d q m z t w _ _ hz (one_size _) zt e
  · have e : txt [UInt8.ofNat z.toNat] ++ t = txt (Pkt.fieldsL ⟨5, s, ⟨n, c, b, o, p, i, r, d, q, m⟩, z, t⟩) := by
      unfold Pkt.fieldsL blockK
      rw [txt_end]
      simp
    exact pf_5 s n c b o p i r d q m z t w _ _ hz (one_size _) zt e
  · have e : txt [UInt8.ofNat z.toNat] ++ t = txt (Pkt.fieldsL ⟨6, s, ⟨n, c, b, o, p, i, r, d, q, m⟩, z, t⟩) := by
      unfold Pkt.fieldsL blockK
      rw [txt_end]
      simp
    exact pf_6 s n c b o p i r d q m z t w _ _ hz (one_size _) zt e
  · have e : txt [UInt8.ofNat z.toNat] ++ t = txt (Pkt.fieldsL ⟨7, s, ⟨n, c, b, o, p, i, r, d, q, m⟩, z, t⟩) := by
      unfold Pkt.fieldsL blockK
      rw [txt_end]
      simp
    exact pf_7 s n c b o p i r d q m z t w _ _ hz (one_size _) zt e
  · have e : Pkt.fieldsL ⟨8, s, ⟨n, c, b, o, p, i, r, d, q, m⟩, z, t⟩ = [] := by
      unfold Pkt.fieldsL
      rw [size_zero (r5 (by decide))]
      simp [blockK]
    rw [e]
    exact pf_8 s n c b o p i r d q m z t w
  · have e : Pkt.fieldsL ⟨9, s, ⟨n, c, b, o, p, i, r, d, q, m⟩, z, t⟩ = [] := by
      unfold Pkt.fieldsL
      rw [size_zero (r5 (by decide))]
      simp [blockK]
    rw [e]
    exact pf_9 s n c b o p i r d q m z t w
  · have e : Pkt.fieldsL ⟨10, s, ⟨n, c, b, o, p, i, r, d, q, m⟩, z, t⟩ = [] := by
      unfold Pkt.fieldsL
      rw [size_zero (r5 (by decide))]
      simp [blockK]
    rw [e]
    exact pf_10 s n c b o p i r d q m z t w
  · have e : Pkt.fieldsL ⟨11, s, ⟨n, c, b, o, p, i, r, d, q, m⟩, z, t⟩ = [] := by
      unfold Pkt.fieldsL
      rw [size_zero (r5 (by decide))]
      simp [blockK]
    rw [e]
    exact pf_11 s n c b o p i r d q m z t w
  · have e : Pkt.fieldsL ⟨12, s, ⟨n, c, b, o, p, i, r, d, q, m⟩, z, t⟩ = [] := by
      unfold Pkt.fieldsL
      rw [size_zero (r5 (by decide))]
      simp [blockK]
    rw [e]
    exact pf_12 s n c b o p i r d q m z t w
  · have e : Pkt.fieldsL ⟨13, s, ⟨n, c, b, o, p, i, r, d, q, m⟩, z, t⟩ = [] := by
      unfold Pkt.fieldsL
      rw [size_zero (r5 (by decide))]
      simp [blockK]
    rw [e]
    exact pf_13 s n c b o p i r d q m z t w

end Go.Proofs.YtbbcncofdhhflaaDoor
