/- The mask on a disk, layer 8: whether it may be there; what both Loads answer, over what the calls that they make answer. No other condition but that the lists lie in memory. -/
import Derived.Test.YtlgfinomkpingaaGA
import Derived.Test.YtlgfinomkpingaaCO
import Derived.Test.YtlgfinomkpingaaM2
namespace Go.Proofs.Ytlgfinomkpingaa
open Go.RowKit

/-- The number of a text, and whether it has one. -/
def numL (t : ByteArray) : Nat × Bool := if t.size = 4 then (val t.data.toList, true) else (0, false)
theorem numL_lt (t : ByteArray) : (numL t).1 < 4294967296 := by
  unfold numL
  split
  · have h := val_lt t.data.toList
    have e : t.data.toList.length = 4 := by rw [Array.length_toList]; assumption
    rw [e] at h
    exact Nat.lt_of_lt_of_le h (by decide)
  · decide

theorem rget32_any (t : ByteArray) (w : World) :
    Calls Try.prog 46 #[.string t] w fun e w' => e = .returned (.tuple #[.int .u32 ((numL t).1 : Nat), .bool (numL t).2]) ∧ Below w.heap.size w w' := by
  unfold numL
  by_cases h : t.size = 4
  · rw [if_pos h]
    refine (rget32_yes t w h).mono ?_
    rintro e w' ⟨rfl, rfl⟩
    exact ⟨rfl, Below.refl _ _⟩
  · rw [if_neg h]
    refine (rget32_no t w h).mono ?_
    rintro e w' ⟨rfl, rfl⟩
    exact ⟨rfl, Below.refl _ _⟩

set_option maxRecDepth 100000 in
set_option maxHeartbeats 1000000 in
theorem bright_any (A B : Option Addr) (n1 n2 m1 m2 : Nat) (f : Int) (x : Bool) (k : Nat) (w : World) (hl : (n1 : Int) ≤ 1000000) (hk : k < 4294967296) :
    Calls Try.prog 82 #[.agg #[.slice A n1 n2, .slice B m1 m2, .int .i64 f, .bool x], .int .u32 k] w fun e w' => e = .returned (.bool (mrightB k ((n1 : Int) - 2))) ∧ Below w.heap.size w w' := by
  go_enter Try.func82, Try.ntmps82
  go_wp2_with fail
  refine (mright_any k _ _ hk).mono ?_
  rintro e w1 ⟨rfl, rfl⟩
  go_wp2_with fail
  go_ret
  exact ⟨rfl, below1⟩


/-! ### The document -/
set_option maxRecDepth 100000 in
set_option maxHeartbeats 2000000 in
theorem rbload_stops (A B : Option Addr) (n m : Nat) (s : List ByteArray) (c : List Wr) (f : Int) (x : Bool) (w : World) (y : ByteArray) (e1 : Int) (hr : ∀ v, Below w.heap.size w v → Calls Try.prog 29 #[.agg #[.slice A s.length n, .slice B c.length m, .int .i64 f, .bool x], .int .i64 1] v fun e v' => e = .returned (.tuple #[.string y, .int .i64 e1]) ∧ Below v.heap.size v v') (h1 : e1 ≠ 0) :
    Calls Try.prog 23 #[.agg #[.slice A s.length n, .slice B c.length m, .int .i64 f, .bool x]] w fun e w' => e = .returned (.tuple #[.int .u32 0, .int .i64 e1]) ∧ Below w.heap.size w w' := by
  have hnb : ((e1 : Int) != 0) = true := by simp [bne, beq_eq_false_iff_ne.2 h1]
  have hne : ((e1 : Int) == 0) = false := beq_eq_false_iff_ne.2 h1
  clear h1
  have HR := Lib.hid hr; clear hr
  have H0 := Lib.hid ((Held.refl w).lay [.slice A s.length n, .slice B c.length m, .int .i64 f, .bool x] 25)
  go_enter Try.func23, Try.ntmps23
  go_wp2_with fail
  refine (HR.out _ H0.out.below).mono ?_
  rintro e w1 ⟨rfl, hb⟩
  have H1 := Lib.hid (H0.out.up hb)
  clear hb H0
  go_wp2_with fail
  go_ret2
  exact ⟨rfl, H1.out.below⟩

set_option maxRecDepth 100000 in
set_option maxHeartbeats 2000000 in
theorem rbload_bad (A B : Option Addr) (n m : Nat) (s : List ByteArray) (c : List Wr) (f : Int) (x : Bool) (w : World) (y t : ByteArray) (e2 : Int) (hr : ∀ v, Below w.heap.size w v → Calls Try.prog 29 #[.agg #[.slice A s.length n, .slice B c.length m, .int .i64 f, .bool x], .int .i64 1] v fun e v' => e = .returned (.tuple #[.string y, .int .i64 0]) ∧ Below v.heap.size v v') (ho : ∀ v, Calls Try.prog 45 #[.string y] v fun e v' => e = .returned (.tuple #[.string t, .int .i64 e2]) ∧ Below v.heap.size v v') (h2 : e2 ≠ 0) :
    Calls Try.prog 23 #[.agg #[.slice A s.length n, .slice B c.length m, .int .i64 f, .bool x]] w fun e w' => e = .returned (.tuple #[.int .u32 0, .int .i64 e2]) ∧ Below w.heap.size w w' := by
  have hnb : ((e2 : Int) != 0) = true := by simp [bne, beq_eq_false_iff_ne.2 h2]
  have hne : ((e2 : Int) == 0) = false := beq_eq_false_iff_ne.2 h2
  clear h2
  have HR := Lib.hid hr; clear hr
  have HO := Lib.hid ho; clear ho
  have H0 := Lib.hid ((Held.refl w).lay [.slice A s.length n, .slice B c.length m, .int .i64 f, .bool x] 25)
  go_enter Try.func23, Try.ntmps23
  go_wp2_with fail
  refine (HR.out _ H0.out.below).mono ?_
  rintro e w1 ⟨rfl, hb⟩
  have H1 := Lib.hid (H0.out.up hb)
  clear hb H0
  go_wp2_with fail
  refine (HO.out _).mono ?_
  rintro e w2 ⟨rfl, hb⟩
  have H2 := Lib.hid (H1.out.up hb)
  clear hb H1
  go_wp2_with fail
  go_ret2
  exact ⟨rfl, H2.out.below⟩

set_option maxRecDepth 100000 in
set_option maxHeartbeats 2000000 in
theorem rbload_none (A B : Option Addr) (n m : Nat) (s : List ByteArray) (c : List Wr) (f : Int) (x : Bool) (w : World) (y t : ByteArray) (k : Nat) (hr : ∀ v, Below w.heap.size w v → Calls Try.prog 29 #[.agg #[.slice A s.length n, .slice B c.length m, .int .i64 f, .bool x], .int .i64 1] v fun e v' => e = .returned (.tuple #[.string y, .int .i64 0]) ∧ Below v.heap.size v v') (ho : ∀ v, Calls Try.prog 45 #[.string y] v fun e v' => e = .returned (.tuple #[.string t, .int .i64 0]) ∧ Below v.heap.size v v') (hg : ∀ v, Calls Try.prog 46 #[.string t] v fun e v' => e = .returned (.tuple #[.int .u32 (k : Nat), .bool false]) ∧ Below v.heap.size v v') :
    Calls Try.prog 23 #[.agg #[.slice A s.length n, .slice B c.length m, .int .i64 f, .bool x]] w fun e w' => e = .returned (.tuple #[.int .u32 0, .int .i64 2]) ∧ Below w.heap.size w w' := by
  have HR := Lib.hid hr; clear hr
  have HO := Lib.hid ho; clear ho
  have HG := Lib.hid hg; clear hg
  have H0 := Lib.hid ((Held.refl w).lay [.slice A s.length n, .slice B c.length m, .int .i64 f, .bool x] 25)
  go_enter Try.func23, Try.ntmps23
  go_wp2_with fail
  refine (HR.out _ H0.out.below).mono ?_
  rintro e w1 ⟨rfl, hb⟩
  have H1 := Lib.hid (H0.out.up hb)
  clear hb H0
  go_wp2_with fail
  refine (HO.out _).mono ?_
  rintro e w2 ⟨rfl, hb⟩
  have H2 := Lib.hid (H1.out.up hb)
  clear hb H1
  go_wp2_with fail
  refine (HG.out _).mono ?_
  rintro e w3 ⟨rfl, hb⟩
  have H3 := Lib.hid (H2.out.up hb)
  clear hb H2
  go_wp2_with fail
  go_ret2
  exact ⟨rfl, H3.out.below⟩

set_option maxRecDepth 100000 in
set_option maxHeartbeats 2000000 in
theorem rbload_misfit (A B : Option Addr) (n m : Nat) (s : List ByteArray) (c : List Wr) (f : Int) (x : Bool) (w : World) (y t : ByteArray) (k : Nat) (hr : ∀ v, Below w.heap.size w v → Calls Try.prog 29 #[.agg #[.slice A s.length n, .slice B c.length m, .int .i64 f, .bool x], .int .i64 1] v fun e v' => e = .returned (.tuple #[.string y, .int .i64 0]) ∧ Below v.heap.size v v') (ho : ∀ v, Calls Try.prog 45 #[.string y] v fun e v' => e = .returned (.tuple #[.string t, .int .i64 0]) ∧ Below v.heap.size v v') (hg : ∀ v, Calls Try.prog 46 #[.string t] v fun e v' => e = .returned (.tuple #[.int .u32 (k : Nat), .bool true]) ∧ Below v.heap.size v v') (hl : (s.length : Int) ≤ 1000000) (hk : k < 4294967296) (hn : mrightB k ((s.length : Int) - 2) = false) :
    Calls Try.prog 23 #[.agg #[.slice A s.length n, .slice B c.length m, .int .i64 f, .bool x]] w fun e w' => e = .returned (.tuple #[.int .u32 0, .int .i64 2]) ∧ Below w.heap.size w w' := by
  have hq := fun w => mrright_any k ((s.length : Int) - 2) w hk
  rw [hn] at hq
  clear hn hk
  have HR := Lib.hid hr; clear hr
  have HO := Lib.hid ho; clear ho
  have HG := Lib.hid hg; clear hg
  have HQ := Lib.hid hq; clear hq
  have H0 := Lib.hid ((Held.refl w).lay [.slice A s.length n, .slice B c.length m, .int .i64 f, .bool x] 25)
  go_enter Try.func23, Try.ntmps23
  go_wp2_with fail
  refine (HR.out _ H0.out.below).mono ?_
  rintro e w1 ⟨rfl, hb⟩
  have H1 := Lib.hid (H0.out.up hb)
  clear hb H0
  go_wp2_with fail
  refine (HO.out _).mono ?_
  rintro e w2 ⟨rfl, hb⟩
  have H2 := Lib.hid (H1.out.up hb)
  clear hb H1
  go_wp2_with fail
  refine (HG.out _).mono ?_
  rintro e w3 ⟨rfl, hb⟩
  have H3 := Lib.hid (H2.out.up hb)
  clear hb H2
  have kd := H3.out.b0.cell
  go_wp2_with fail
  refine (HQ.out _).mono ?_
  rintro e w4 ⟨rfl, rfl⟩
  have H4 := Lib.hid (H3.out)
  clear H3 kd
  go_wp2_with fail
  go_ret2
  exact ⟨rfl, H4.out.below⟩

set_option maxRecDepth 100000 in
set_option maxHeartbeats 2000000 in
theorem rbload_yes (A B : Option Addr) (n m : Nat) (s : List ByteArray) (c : List Wr) (f : Int) (x : Bool) (w : World) (y t : ByteArray) (k : Nat) (hr : ∀ v, Below w.heap.size w v → Calls Try.prog 29 #[.agg #[.slice A s.length n, .slice B c.length m, .int .i64 f, .bool x], .int .i64 1] v fun e v' => e = .returned (.tuple #[.string y, .int .i64 0]) ∧ Below v.heap.size v v') (ho : ∀ v, Calls Try.prog 45 #[.string y] v fun e v' => e = .returned (.tuple #[.string t, .int .i64 0]) ∧ Below v.heap.size v v') (hg : ∀ v, Calls Try.prog 46 #[.string t] v fun e v' => e = .returned (.tuple #[.int .u32 (k : Nat), .bool true]) ∧ Below v.heap.size v v') (hl : (s.length : Int) ≤ 1000000) (hk : k < 4294967296) (hn : mrightB k ((s.length : Int) - 2) = true) :
    Calls Try.prog 23 #[.agg #[.slice A s.length n, .slice B c.length m, .int .i64 f, .bool x]] w fun e w' => e = .returned (.tuple #[.int .u32 (k : Nat), .int .i64 0]) ∧ Below w.heap.size w w' := by
  have hq := fun w => mrright_any k ((s.length : Int) - 2) w hk
  rw [hn] at hq
  clear hn hk
  have HR := Lib.hid hr; clear hr
  have HO := Lib.hid ho; clear ho
  have HG := Lib.hid hg; clear hg
  have HQ := Lib.hid hq; clear hq
  have H0 := Lib.hid ((Held.refl w).lay [.slice A s.length n, .slice B c.length m, .int .i64 f, .bool x] 25)
  go_enter Try.func23, Try.ntmps23
  go_wp2_with fail
  refine (HR.out _ H0.out.below).mono ?_
  rintro e w1 ⟨rfl, hb⟩
  have H1 := Lib.hid (H0.out.up hb)
  clear hb H0
  go_wp2_with fail
  refine (HO.out _).mono ?_
  rintro e w2 ⟨rfl, hb⟩
  have H2 := Lib.hid (H1.out.up hb)
  clear hb H1
  go_wp2_with fail
  refine (HG.out _).mono ?_
  rintro e w3 ⟨rfl, hb⟩
  have H3 := Lib.hid (H2.out.up hb)
  clear hb H2
  have kd := H3.out.b0.cell
  go_wp2_with fail
  refine (HQ.out _).mono ?_
  rintro e w4 ⟨rfl, rfl⟩
  have H4 := Lib.hid (H3.out)
  clear H3 kd
  go_wp2_with fail
  go_ret2
  exact ⟨rfl, H4.out.below⟩

end Go.Proofs.Ytlgfinomkpingaa
