/- Packets: the walk of PacketKinds. Under: the widths, and the type of errors as it is laid. -/
import Derived.Test.YtbbcncofdhhflaaDoorPKE
namespace Go.Proofs.YtbbcncofdhhflaaDoor
open Go.RowKit

set_option maxRecDepth 100000 in
set_option maxHeartbeats 16000000 in
theorem pkk_one (s n c b o p : Int) (i r d q : Bool) (m : Nat) (z : Int) (t : ByteArray) (u : ByteArray) (w : World) (he : Etyp w) (hsz : u.size = 51) (hu0 : ((u[0]'(by omega)).toNat : Int) = 1) (h1 : ∀ w, Calls Tryd.prog 11 #[.agg #[.int .i64 1, .int .u64 s, .int .i64 n, .int .u64 c, .int .u64 b, .int .u64 o, .int .u64 p, .bool i, .bool r, .bool d, .bool q, .int .u32 (m : Int), .int .i64 z, .string t]] w fun e w' => e = .returned (.bool true) ∧ Below w.heap.size w w') (h2 : ∀ w, Calls Tryd.prog 8 #[.agg #[.int .i64 1, .int .u64 s, .int .i64 n, .int .u64 c, .int .u64 b, .int .u64 o, .int .u64 p, .bool i, .bool r, .bool d, .bool q, .int .u32 (m : Int), .int .i64 z, .string t]] w fun e w' => e = .returned (.tuple #[.string u, .int .i64 0]) ∧ Below w.heap.size w w') :
    Calls Tryd.prog 6 #[.agg #[.int .i64 1, .int .u64 s, .int .i64 n, .int .u64 c, .int .u64 b, .int .u64 o, .int .u64 p, .bool i, .bool r, .bool d, .bool q, .int .u32 (m : Int), .int .i64 z, .string t]] w (Yes w) := by
  have hwk : IntKind.i64.wrap 1 = 1 := IntWalk.i64_in 1 (by omega)
  have HT := Lib.hid he; clear he
  have K1 := Lib.hid h1; clear h1
  have K2 := Lib.hid h2; clear h2
  have H0 := Lib.hid ((Held.refl w).lay [.int .i64 1, .int .u64 s, .int .i64 n, .int .u64 c, .int .u64 b, .int .u64 o, .int .u64 p, .bool i, .bool r, .bool d, .bool q, .int .u32 (m : Int), .int .i64 z, .string t] 30)
  have k00 := H0.out.b0.cell
  go_enter Tryd.func6, Tryd.ntmps6
  go_wp2_with fail
  refine (palive_any _ (HT.out.up H0.out.below)).mono ?_
  rintro e w1 ⟨rfl, hb⟩
  have H1 := Lib.hid (H0.out.up hb)
  clear hb k00
  have k00 := H1.out.b0.cell
  go_wp2_with fail
  refine (K1.out _).mono ?_
  rintro e w2 ⟨rfl, hb⟩
  have H2 := Lib.hid (H1.out.up hb)
  clear hb k00
  have k00 := H2.out.b0.cell
  go_wp2_with fail
  refine (K2.out _).mono ?_
  rintro e w3 ⟨rfl, hb⟩
  have H3 := Lib.hid (H2.out.up hb)
  clear hb k00
  have k00 := H3.out.b0.cell
  go_wp2_with fail
  go_quiet (fail)
  go_wp2_with fail
  go_ret
  exact ⟨rfl, below_drewN H3.out.below _⟩

set_option maxRecDepth 100000 in
set_option maxHeartbeats 16000000 in
theorem pkk_two (s n c b o p : Int) (i r d q : Bool) (m : Nat) (z : Int) (t : ByteArray) (u : ByteArray) (w : World) (he : Etyp w) (hsz : u.size = 22) (hu0 : ((u[0]'(by omega)).toNat : Int) = 2) (h1 : ∀ w, Calls Tryd.prog 11 #[.agg #[.int .i64 2, .int .u64 s, .int .i64 n, .int .u64 c, .int .u64 b, .int .u64 o, .int .u64 p, .bool i, .bool r, .bool d, .bool q, .int .u32 (m : Int), .int .i64 z, .string t]] w fun e w' => e = .returned (.bool true) ∧ Below w.heap.size w w') (h2 : ∀ w, Calls Tryd.prog 8 #[.agg #[.int .i64 2, .int .u64 s, .int .i64 n, .int .u64 c, .int .u64 b, .int .u64 o, .int .u64 p, .bool i, .bool r, .bool d, .bool q, .int .u32 (m : Int), .int .i64 z, .string t]] w fun e w' => e = .returned (.tuple #[.string u, .int .i64 0]) ∧ Below w.heap.size w w') :
    Calls Tryd.prog 6 #[.agg #[.int .i64 2, .int .u64 s, .int .i64 n, .int .u64 c, .int .u64 b, .int .u64 o, .int .u64 p, .bool i, .bool r, .bool d, .bool q, .int .u32 (m : Int), .int .i64 z, .string t]] w (Yes w) := by
  have hwk : IntKind.i64.wrap 2 = 2 := IntWalk.i64_in 2 (by omega)
  have HT := Lib.hid he; clear he
  have K1 := Lib.hid h1; clear h1
  have K2 := Lib.hid h2; clear h2
  have H0 := Lib.hid ((Held.refl w).lay [.int .i64 2, .int .u64 s, .int .i64 n, .int .u64 c, .int .u64 b, .int .u64 o, .int .u64 p, .bool i, .bool r, .bool d, .bool q, .int .u32 (m : Int), .int .i64 z, .string t] 30)
  have k00 := H0.out.b0.cell
  go_enter Tryd.func6, Tryd.ntmps6
  go_wp2_with fail
  refine (palive_any _ (HT.out.up H0.out.below)).mono ?_
  rintro e w1 ⟨rfl, hb⟩
  have H1 := Lib.hid (H0.out.up hb)
  clear hb k00
  have k00 := H1.out.b0.cell
  go_wp2_with fail
  refine (K1.out _).mono ?_
  rintro e w2 ⟨rfl, hb⟩
  have H2 := Lib.hid (H1.out.up hb)
  clear hb k00
  have k00 := H2.out.b0.cell
  go_wp2_with fail
  refine (K2.out _).mono ?_
  rintro e w3 ⟨rfl, hb⟩
  have H3 := Lib.hid (H2.out.up hb)
  clear hb k00
  have k00 := H3.out.b0.cell
  go_wp2_with fail
  go_quiet (fail)
  go_wp2_with fail
  go_ret
  exact ⟨rfl, below_drewN H3.out.below _⟩

set_option maxRecDepth 100000 in
set_option maxHeartbeats 16000000 in
theorem pkk_six (s n c b o p : Int) (i r d q : Bool) (m : Nat) (z : Int) (t : ByteArray) (u : ByteArray) (w : World) (he : Etyp w) (hsz : u.size = 22) (hu0 : ((u[0]'(by omega)).toNat : Int) = 6) (h1 : ∀ w, Calls Tryd.prog 11 #[.agg #[.int .i64 6, .int .u64 s, .int .i64 n, .int .u64 c, .int .u64 b, .int .u64 o, .int .u64 p, .bool i, .bool r, .bool d, .bool q, .int .u32 (m : Int), .int .i64 z, .string t]] w fun e w' => e = .returned (.bool true) ∧ Below w.heap.size w w') (h2 : ∀ w, Calls Tryd.prog 8 #[.agg #[.int .i64 6, .int .u64 s, .int .i64 n, .int .u64 c, .int .u64 b, .int .u64 o, .int .u64 p, .bool i, .bool r, .bool d, .bool q, .int .u32 (m : Int), .int .i64 z, .string t]] w fun e w' => e = .returned (.tuple #[.string u, .int .i64 0]) ∧ Below w.heap.size w w') :
    Calls Tryd.prog 6 #[.agg #[.int .i64 6, .int .u64 s, .int .i64 n, .int .u64 c, .int .u64 b, .int .u64 o, .int .u64 p, .bool i, .bool r, .bool d, .bool q, .int .u32 (m : Int), .int .i64 z, .string t]] w (Yes w) := by
  have hwk : IntKind.i64.wrap 6 = 6 := IntWalk.i64_in 6 (by omega)
  have HT := Lib.hid he; clear he
  have K1 := Lib.hid h1; clear h1
  have K2 := Lib.hid h2; clear h2
  have H0 := Lib.hid ((Held.refl w).lay [.int .i64 6, .int .u64 s, .int .i64 n, .int .u64 c, .int .u64 b, .int .u64 o, .int .u64 p, .bool i, .bool r, .bool d, .bool q, .int .u32 (m : Int), .int .i64 z, .string t] 30)
  have k00 := H0.out.b0.cell
  go_enter Tryd.func6, Tryd.ntmps6
  go_wp2_with fail
  refine (palive_any _ (HT.out.up H0.out.below)).mono ?_
  rintro e w1 ⟨rfl, hb⟩
  have H1 := Lib.hid (H0.out.up hb)
  clear hb k00
  have k00 := H1.out.b0.cell
  go_wp2_with fail
  refine (K1.out _).mono ?_
  rintro e w2 ⟨rfl, hb⟩
  have H2 := Lib.hid (H1.out.up hb)
  clear hb k00
  have k00 := H2.out.b0.cell
  go_wp2_with fail
  refine (K2.out _).mono ?_
  rintro e w3 ⟨rfl, hb⟩
  have H3 := Lib.hid (H2.out.up hb)
  clear hb k00
  have k00 := H3.out.b0.cell
  go_wp2_with fail
  go_quiet (fail)
  go_wp2_with fail
  go_ret
  exact ⟨rfl, below_drewN H3.out.below _⟩

set_option maxRecDepth 100000 in
set_option maxHeartbeats 16000000 in
theorem pkk_three (s n c b o p : Int) (i r d q : Bool) (m : Nat) (z : Int) (t : ByteArray) (u : ByteArray) (w : World) (he : Etyp w) (hsz : u.size = 14) (hu0 : ((u[0]'(by omega)).toNat : Int) = 3) (h1 : ∀ w, Calls Tryd.prog 11 #[.agg #[.int .i64 3, .int .u64 s, .int .i64 n, .int .u64 c, .int .u64 b, .int .u64 o, .int .u64 p, .bool i, .bool r, .bool d, .bool q, .int .u32 (m : Int), .int .i64 z, .string t]] w fun e w' => e = .returned (.bool true) ∧ Below w.heap.size w w') (h2 : ∀ w, Calls Tryd.prog 8 #[.agg #[.int .i64 3, .int .u64 s, .int .i64 n, .int .u64 c, .int .u64 b, .int .u64 o, .int .u64 p, .bool i, .bool r, .bool d, .bool q, .int .u32 (m : Int), .int .i64 z, .string t]] w fun e w' => e = .returned (.tuple #[.string u, .int .i64 0]) ∧ Below w.heap.size w w') :
    Calls Tryd.prog 6 #[.agg #[.int .i64 3, .int .u64 s, .int .i64 n, .int .u64 c, .int .u64 b, .int .u64 o, .int .u64 p, .bool i, .bool r, .bool d, .bool q, .int .u32 (m : Int), .int .i64 z, .string t]] w (Yes w) := by
  have hwk : IntKind.i64.wrap 3 = 3 := IntWalk.i64_in 3 (by omega)
  have HT := Lib.hid he; clear he
  have K1 := Lib.hid h1; clear h1
  have K2 := Lib.hid h2; clear h2
  have H0 := Lib.hid ((Held.refl w).lay [.int .i64 3, .int .u64 s, .int .i64 n, .int .u64 c, .int .u64 b, .int .u64 o, .int .u64 p, .bool i, .bool r, .bool d, .bool q, .int .u32 (m : Int), .int .i64 z, .string t] 30)
  have k00 := H0.out.b0.cell
  go_enter Tryd.func6, Tryd.ntmps6
  go_wp2_with fail
  refine (palive_any _ (HT.out.up H0.out.below)).mono ?_
  rintro e w1 ⟨rfl, hb⟩
  have H1 := Lib.hid (H0.out.up hb)
  clear hb k00
  have k00 := H1.out.b0.cell
  go_wp2_with fail
  refine (K1.out _).mono ?_
  rintro e w2 ⟨rfl, hb⟩
  have H2 := Lib.hid (H1.out.up hb)
  clear hb k00
  have k00 := H2.out.b0.cell
  go_wp2_with fail
  refine (K2.out _).mono ?_
  rintro e w3 ⟨rfl, hb⟩
  have H3 := Lib.hid (H2.out.up hb)
  clear hb k00
  have k00 := H3.out.b0.cell
  go_wp2_with fail
  go_quiet (fail)
  go_wp2_with fail
  go_ret
  exact ⟨rfl, below_drewN H3.out.below _⟩

set_option maxRecDepth 100000 in
set_option maxHeartbeats 16000000 in
theorem pkk_four (s n c b o p : Int) (i r d q : Bool) (m : Nat) (z : Int) (t : ByteArray) (u : ByteArray) (w : World) (he : Etyp w) (hsz : u.size = 14) (hu0 : ((u[0]'(by omega)).toNat : Int) = 4) (h1 : ∀ w, Calls Tryd.prog 11 #[.agg #[.int .i64 4, .int .u64 s, .int .i64 n, .int .u64 c, .int .u64 b, .int .u64 o, .int .u64 p, .bool i, .bool r, .bool d, .bool q, .int .u32 (m : Int), .int .i64 z, .string t]] w fun e w' => e = .returned (.bool true) ∧ Below w.heap.size w w') (h2 : ∀ w, Calls Tryd.prog 8 #[.agg #[.int .i64 4, .int .u64 s, .int .i64 n, .int .u64 c, .int .u64 b, .int .u64 o, .int .u64 p, .bool i, .bool r, .bool d, .bool q, .int .u32 (m : Int), .int .i64 z, .string t]] w fun e w' => e = .returned (.tuple #[.string u, .int .i64 0]) ∧ Below w.heap.size w w') :
    Calls Tryd.prog 6 #[.agg #[.int .i64 4, .int .u64 s, .int .i64 n, .int .u64 c, .int .u64 b, .int .u64 o, .int .u64 p, .bool i, .bool r, .bool d, .bool q, .int .u32 (m : Int), .int .i64 z, .string t]] w (Yes w) := by
  have hwk : IntKind.i64.wrap 4 = 4 := IntWalk.i64_in 4 (by omega)
  have HT := Lib.hid he; clear he
  have K1 := Lib.hid h1; clear h1
  have K2 := Lib.hid h2; clear h2
  have H0 := Lib.hid ((Held.refl w).lay [.int .i64 4, .int .u64 s, .int .i64 n, .int .u64 c, .int .u64 b, .int .u64 o, .int .u64 p, .bool i, .bool r, .bool d, .bool q, .int .u32 (m : Int), .int .i64 z, .string t] 30)
  have k00 := H0.out.b0.cell
  go_enter Tryd.func6, Tryd.ntmps6
  go_wp2_with fail
  refine (palive_any _ (HT.out.up H0.out.below)).mono ?_
  rintro e w1 ⟨rfl, hb⟩
  have H1 := Lib.hid (H0.out.up hb)
  clear hb k00
  have k00 := H1.out.b0.cell
  go_wp2_with fail
  refine (K1.out _).mono ?_
  rintro e w2 ⟨rfl, hb⟩
  have H2 := Lib.hid (H1.out.up hb)
  clear hb k00
  have k00 := H2.out.b0.cell
  go_wp2_with fail
  refine (K2.out _).mono ?_
  rintro e w3 ⟨rfl, hb⟩
  have H3 := Lib.hid (H2.out.up hb)
  clear hb k00
  have k00 := H3.out.b0.cell
  go_wp2_with fail
  go_quiet (fail)
  go_wp2_with fail
  go_ret
  exact ⟨rfl, below_drewN H3.out.below _⟩

set_option maxRecDepth 100000 in
set_option maxHeartbeats 16000000 in
theorem pkk_five (s n c b o p : Int) (i r d q : Bool) (m : Nat) (z : Int) (t : ByteArray) (u : ByteArray) (w : World) (he : Etyp w) (hsz : u.size = 14) (hu0 : ((u[0]'(by omega)).toNat : Int) = 5) (h1 : ∀ w, Calls Tryd.prog 11 #[.agg #[.int .i64 5, .int .u64 s, .int .i64 n, .int .u64 c, .int .u64 b, .int .u64 o, .int .u64 p, .bool i, .bool r, .bool d, .bool q, .int .u32 (m : Int), .int .i64 z, .string t]] w fun e w' => e = .returned (.bool true) ∧ Below w.heap.size w w') (h2 : ∀ w, Calls Tryd.prog 8 #[.agg #[.int .i64 5, .int .u64 s, .int .i64 n, .int .u64 c, .int .u64 b, .int .u64 o, .int .u64 p, .bool i, .bool r, .bool d, .bool q, .int .u32 (m : Int), .int .i64 z, .string t]] w fun e w' => e = .returned (.tuple #[.string u, .int .i64 0]) ∧ Below w.heap.size w w') :
    Calls Tryd.prog 6 #[.agg #[.int .i64 5, .int .u64 s, .int .i64 n, .int .u64 c, .int .u64 b, .int .u64 o, .int .u64 p, .bool i, .bool r, .bool d, .bool q, .int .u32 (m : Int), .int .i64 z, .string t]] w (Yes w) := by
  have hwk : IntKind.i64.wrap 5 = 5 := IntWalk.i64_in 5 (by omega)
  have HT := Lib.hid he; clear he
  have K1 := Lib.hid h1; clear h1
  have K2 := Lib.hid h2; clear h2
  have H0 := Lib.hid ((Held.refl w).lay [.int .i64 5, .int .u64 s, .int .i64 n, .int .u64 c, .int .u64 b, .int .u64 o, .int .u64 p, .bool i, .bool r, .bool d, .bool q, .int .u32 (m : Int), .int .i64 z, .string t] 30)
  have k00 := H0.out.b0.cell
  go_enter Tryd.func6, Tryd.ntmps6
  go_wp2_with fail
  refine (palive_any _ (HT.out.up H0.out.below)).mono ?_
  rintro e w1 ⟨rfl, hb⟩
  have H1 := Lib.hid (H0.out.up hb)
  clear hb k00
  have k00 := H1.out.b0.cell
  go_wp2_with fail
  refine (K1.out _).mono ?_
  rintro e w2 ⟨rfl, hb⟩
  have H2 := Lib.hid (H1.out.up hb)
  clear hb k00
  have k00 := H2.out.b0.cell
  go_wp2_with fail
  refine (K2.out _).mono ?_
  rintro e w3 ⟨rfl, hb⟩
  have H3 := Lib.hid (H2.out.up hb)
  clear hb k00
  have k00 := H3.out.b0.cell
  go_wp2_with fail
  go_quiet (fail)
  go_wp2_with fail
  go_ret
  exact ⟨rfl, below_drewN H3.out.below _⟩

set_option maxRecDepth 100000 in
set_option maxHeartbeats 16000000 in
theorem pkk_seven (s n c b o p : Int) (i r d q : Bool) (m : Nat) (z : Int) (t : ByteArray) (u : ByteArray) (w : World) (he : Etyp w) (hsz : u.size = 14) (hu0 : ((u[0]'(by omega)).toNat : Int) = 7) (h1 : ∀ w, Calls Tryd.prog 11 #[.agg #[.int .i64 7, .int .u64 s, .int .i64 n, .int .u64 c, .int .u64 b, .int .u64 o, .int .u64 p, .bool i, .bool r, .bool d, .bool q, .int .u32 (m : Int), .int .i64 z, .string t]] w fun e w' => e = .returned (.bool true) ∧ Below w.heap.size w w') (h2 : ∀ w, Calls Tryd.prog 8 #[.agg #[.int .i64 7, .int .u64 s, .int .i64 n, .int .u64 c, .int .u64 b, .int .u64 o, .int .u64 p, .bool i, .bool r, .bool d, .bool q, .int .u32 (m : Int), .int .i64 z, .string t]] w fun e w' => e = .returned (.tuple #[.string u, .int .i64 0]) ∧ Below w.heap.size w w') :
    Calls Tryd.prog 6 #[.agg #[.int .i64 7, .int .u64 s, .int .i64 n, .int .u64 c, .int .u64 b, .int .u64 o, .int .u64 p, .bool i, .bool r, .bool d, .bool q, .int .u32 (m : Int), .int .i64 z, .string t]] w (Yes w) := by
  have hwk : IntKind.i64.wrap 7 = 7 := IntWalk.i64_in 7 (by omega)
  have HT := Lib.hid he; clear he
  have K1 := Lib.hid h1; clear h1
  have K2 := Lib.hid h2; clear h2
  have H0 := Lib.hid ((Held.refl w).lay [.int .i64 7, .int .u64 s, .int .i64 n, .int .u64 c, .int .u64 b, .int .u64 o, .int .u64 p, .bool i, .bool r, .bool d, .bool q, .int .u32 (m : Int), .int .i64 z, .string t] 30)
  have k00 := H0.out.b0.cell
  go_enter Tryd.func6, Tryd.ntmps6
  go_wp2_with fail
  refine (palive_any _ (HT.out.up H0.out.below)).mono ?_
  rintro e w1 ⟨rfl, hb⟩
  have H1 := Lib.hid (H0.out.up hb)
  clear hb k00
  have k00 := H1.out.b0.cell
  go_wp2_with fail
  refine (K1.out _).mono ?_
  rintro e w2 ⟨rfl, hb⟩
  have H2 := Lib.hid (H1.out.up hb)
  clear hb k00
  have k00 := H2.out.b0.cell
  go_wp2_with fail
  refine (K2.out _).mono ?_
  rintro e w3 ⟨rfl, hb⟩
  have H3 := Lib.hid (H2.out.up hb)
  clear hb k00
  have k00 := H3.out.b0.cell
  go_wp2_with fail
  go_quiet (fail)
  go_wp2_with fail
  go_ret
  exact ⟨rfl, below_drewN H3.out.below _⟩

set_option maxRecDepth 100000 in
set_option maxHeartbeats 16000000 in
theorem pkk_more (k s n c b o p : Int) (i r d q : Bool) (m : Nat) (z : Int) (t : ByteArray) (u : ByteArray) (w : World) (he : Etyp w) (hsz : u.size = 13) (hu0 : ((u[0]'(by omega)).toNat : Int) = k) (n1 : k ≠ 1) (n2 : k ≠ 2) (n6 : k ≠ 6) (n3 : k ≠ 3) (n4 : k ≠ 4) (n5 : k ≠ 5) (n7 : k ≠ 7) (hk : 0 ≤ k ∧ k < 256) (h1 : ∀ w, Calls Tryd.prog 11 #[.agg #[.int .i64 k, .int .u64 s, .int .i64 n, .int .u64 c, .int .u64 b, .int .u64 o, .int .u64 p, .bool i, .bool r, .bool d, .bool q, .int .u32 (m : Int), .int .i64 z, .string t]] w fun e w' => e = .returned (.bool true) ∧ Below w.heap.size w w') (h2 : ∀ w, Calls Tryd.prog 8 #[.agg #[.int .i64 k, .int .u64 s, .int .i64 n, .int .u64 c, .int .u64 b, .int .u64 o, .int .u64 p, .bool i, .bool r, .bool d, .bool q, .int .u32 (m : Int), .int .i64 z, .string t]] w fun e w' => e = .returned (.tuple #[.string u, .int .i64 0]) ∧ Below w.heap.size w w') :
    Calls Tryd.prog 6 #[.agg #[.int .i64 k, .int .u64 s, .int .i64 n, .int .u64 c, .int .u64 b, .int .u64 o, .int .u64 p, .bool i, .bool r, .bool d, .bool q, .int .u32 (m : Int), .int .i64 z, .string t]] w (Yes w) := by
  have f1 : (k == 1) = false := beq_eq_false_iff_ne.2 n1
  have f2 : (k == 2) = false := beq_eq_false_iff_ne.2 n2
  have f6 : (k == 6) = false := beq_eq_false_iff_ne.2 n6
  have f3 : (k == 3) = false := beq_eq_false_iff_ne.2 n3
  have f4 : (k == 4) = false := beq_eq_false_iff_ne.2 n4
  have f5 : (k == 5) = false := beq_eq_false_iff_ne.2 n5
  have f7 : (k == 7) = false := beq_eq_false_iff_ne.2 n7
  have hwk : IntKind.i64.wrap k = k := IntWalk.i64_in k (by omega)
  have hwl : wrap64 k = k := by unfold wrap64; omega
  clear n1 n2 n6 n3 n4 n5 n7 hk
  have HT := Lib.hid he; clear he
  have K1 := Lib.hid h1; clear h1
  have K2 := Lib.hid h2; clear h2
  have H0 := Lib.hid ((Held.refl w).lay [.int .i64 k, .int .u64 s, .int .i64 n, .int .u64 c, .int .u64 b, .int .u64 o, .int .u64 p, .bool i, .bool r, .bool d, .bool q, .int .u32 (m : Int), .int .i64 z, .string t] 30)
  have k00 := H0.out.b0.cell
  go_enter Tryd.func6, Tryd.ntmps6
  go_wp2_with fail
  refine (palive_any _ (HT.out.up H0.out.below)).mono ?_
  rintro e w1 ⟨rfl, hb⟩
  have H1 := Lib.hid (H0.out.up hb)
  clear hb k00
  have k00 := H1.out.b0.cell
  go_wp2_with fail
  refine (K1.out _).mono ?_
  rintro e w2 ⟨rfl, hb⟩
  have H2 := Lib.hid (H1.out.up hb)
  clear hb k00
  have k00 := H2.out.b0.cell
  go_wp2_with fail
  refine (K2.out _).mono ?_
  rintro e w3 ⟨rfl, hb⟩
  have H3 := Lib.hid (H2.out.up hb)
  clear hb k00
  have k00 := H3.out.b0.cell
  go_wp2_with fail
  go_quiet (fail)
  go_wp2_with fail
  go_ret
  exact ⟨rfl, below_drewN H3.out.below _⟩

set_option maxRecDepth 100000 in
set_option maxHeartbeats 16000000 in
theorem pkk_no (k s n c b o p : Int) (i r d q : Bool) (m : Nat) (z : Int) (t : ByteArray) (w : World) (he : Etyp w) (h1 : ∀ w, Calls Tryd.prog 11 #[.agg #[.int .i64 k, .int .u64 s, .int .i64 n, .int .u64 c, .int .u64 b, .int .u64 o, .int .u64 p, .bool i, .bool r, .bool d, .bool q, .int .u32 (m : Int), .int .i64 z, .string t]] w fun e w' => e = .returned (.bool false) ∧ Below w.heap.size w w') :
    Calls Tryd.prog 6 #[.agg #[.int .i64 k, .int .u64 s, .int .i64 n, .int .u64 c, .int .u64 b, .int .u64 o, .int .u64 p, .bool i, .bool r, .bool d, .bool q, .int .u32 (m : Int), .int .i64 z, .string t]] w (Yes w) := by
  have HT := Lib.hid he; clear he
  have K1 := Lib.hid h1; clear h1
  have H0 := Lib.hid ((Held.refl w).lay [.int .i64 k, .int .u64 s, .int .i64 n, .int .u64 c, .int .u64 b, .int .u64 o, .int .u64 p, .bool i, .bool r, .bool d, .bool q, .int .u32 (m : Int), .int .i64 z, .string t] 30)
  have k00 := H0.out.b0.cell
  go_enter Tryd.func6, Tryd.ntmps6
  go_wp2_with fail
  refine (palive_any _ (HT.out.up H0.out.below)).mono ?_
  rintro e w1 ⟨rfl, hb⟩
  have H1 := Lib.hid (H0.out.up hb)
  clear hb k00
  have k00 := H1.out.b0.cell
  go_wp2_with fail
  refine (K1.out _).mono ?_
  rintro e w2 ⟨rfl, hb⟩
  have H2 := Lib.hid (H1.out.up hb)
  clear hb k00
  have k00 := H2.out.b0.cell
  go_wp2_with fail
  go_ret
  exact ⟨rfl, H2.out.below⟩

theorem pkinds_law (x : Pkt) (w : World) (hw : x.wide) (he : Etyp w) : Calls Tryd.prog 6 #[pktV x] w (Yes w) := by
  have h1 := fun w => rpright_any x w hw.2.2.2.2.2
  have h2 := fun w => pencode_any x w hw
  cases hr : x.right
  · rw [hr] at h1
    obtain ⟨k, s, ⟨n, c, b, o, p, i, r, d, q, m⟩, z, t⟩ := x
    exact pkk_no k s n c b o p i r d q m z t w he h1
  · rw [hr] at h1
    rw [show x.encE = 0 from by unfold Pkt.encE; rw [if_pos hr]] at h2
    obtain ⟨⟨k0, k1⟩, r1, r2, ⟨b0, b1⟩, r3, r4, r5⟩ := Pkt.right_parts hr
    have hsz : x.encT.size = 13 + (if x.k = 1 then 38 else 0) + (if blockK x.k then 1 else 0) + x.d.size := by rw [encT_size hr, body_length]; omega
    have hu0 : ∀ h : 0 < x.encT.size, ((x.encT[0]'h).toNat : Int) = x.k := by
      intro h
      rw [at_txt x.encT 0 h]
      unfold Pkt.encT
      rw [if_pos hr, txt_data]
      unfold sealed
      rw [body_front, List.cons_append]
      show ((UInt8.ofNat x.k.toNat).toNat : Int) = x.k
      exact byte_nat (by omega) (by omega)
    generalize x.encT = u at *
    obtain ⟨k, s, ⟨n, c, b, o, p, i, r, d, q, m⟩, z, t⟩ := x
    dsimp only [pktV] at *
    have hcases : k = 1 ∨ k = 2 ∨ k = 6 ∨ k = 3 ∨ k = 4 ∨ k = 5 ∨ k = 7 ∨ (k ≠ 1 ∧ k ≠ 2 ∧ k ≠ 6 ∧ k ≠ 3 ∧ k ≠ 4 ∧ k ≠ 5 ∧ k ≠ 7) := by omega
    rcases hcases with rfl | rfl | rfl | rfl | rfl | rfl | rfl | ⟨n1, n2, n6, n3, n4, n5, n7⟩
    · have hd := r5 (by decide)
      have hs : u.size = 51 := by rw [hsz, hd]; rfl
      exact pkk_one s n c b o p i r d q m z t u w he hs (hu0 (by omega)) h1 h2
    · have hd := r4 (by decide)
      have hs : u.size = 22 := by rw [hsz, hd]; rfl
      exact pkk_two s n c b o p i r d q m z t u w he hs (hu0 (by omega)) h1 h2
    · have hd := r4 (by decide)
      have hs : u.size = 22 := by rw [hsz, hd]; rfl
      exact pkk_six s n c b o p i r d q m z t u w he hs (hu0 (by omega)) h1 h2
    · have hd := r5 (by decide)
      have hs : u.size = 14 := by rw [hsz, hd]; rfl
      exact pkk_three s n c b o p i r d q m z t u w he hs (hu0 (by omega)) h1 h2
    · have hd := r5 (by decide)
      have hs : u.size = 14 := by rw [hsz, hd]; rfl
      exact pkk_four s n c b o p i r d q m z t u w he hs (hu0 (by omega)) h1 h2
    · have hd := r5 (by decide)
      have hs : u.size = 14 := by rw [hsz, hd]; rfl
      exact pkk_five s n c b o p i r d q m z t u w he hs (hu0 (by omega)) h1 h2
    · have hd := r5 (by decide)
      have hs : u.size = 14 := by rw [hsz, hd]; rfl
      exact pkk_seven s n c b o p i r d q m z t u w he hs (hu0 (by omega)) h1 h2
    · have hb : blockK k = false := by unfold blockK; simp; omega
      have hdk : dataK k = false := by unfold dataK; simp; omega
      have hd := r5 hdk
      have hs : u.size = 13 := by rw [hsz, hd, if_neg n1, hb]; rfl
      exact pkk_more k s n c b o p i r d q m z t u w he hs (hu0 (by omega)) n1 n2 n6 n3 n4 n5 n7 ⟨by omega, by omega⟩ h1 h2

end Go.Proofs.YtbbcncofdhhflaaDoor
