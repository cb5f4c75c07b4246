/- Blocks on a disk, layer 9: whether there is such a block; reading and putting one, over what the calls that they make answer, both sides; two rows of texts compared. No other condition but that the lists lie in memory. -/
import Derived.Test.YtlgfinomkpingaaGA
namespace Go.Proofs.Ytlgfinomkpingaa
open Go.RowKit

/-- Is there such a block on a disk of n sectors? -/
def thereB (n : Nat) (i : Int) : Bool := decide (0 ≤ i) && decide (i < (n : Int) - 2)
theorem there_yes {n : Nat} {i : Int} (h : thereB n i = true) : 0 ≤ i ∧ i < (n : Int) - 2 := by
  unfold thereB at h
  simpa using h
/-- A block's data, at first. -/
def z8 : ByteArray := ⟨#[0, 0, 0, 0, 0, 0, 0, 0]⟩

theorem nought_any (w : World) : Calls Try.prog 24 #[] w fun e w' => e = .returned (.string z8) ∧ Below w.heap.size w w' := by
  go_enter Try.func24, Try.ntmps24
  go_wp2
  go_ret
  exact ⟨rfl, Below.refl _ _⟩

theorem whole_any (d : ByteArray) (b : Bool) (w : World) (h : ((d.size : Int) == 8) = b) : Calls Try.prog 27 #[.string d] w fun e w' => e = .returned (.bool b) ∧ Below w.heap.size w w' := by
  go_enter Try.func27, Try.ntmps27
  go_wp2
  go_ret
  exact ⟨by rw [← h] <;> rfl, Below.refl _ _⟩

set_option maxRecDepth 100000 in
theorem count_any (A B : Option Addr) (n1 n2 m1 m2 : Nat) (f : Int) (x : Bool) (w : World) (hl : (n1 : Int) ≤ 1000000) :
    Calls Try.prog 34 #[.agg #[.slice A n1 n2, .slice B m1 m2, .int .i64 f, .bool x]] w fun e w' => e = .returned (.int .i64 ((n1 : Int) - 2)) ∧ Below w.heap.size w w' := by
  go_enter Try.func34, Try.ntmps34
  go_wp2
  go_ret
  exact ⟨rfl, below1⟩

set_option maxRecDepth 100000 in
set_option maxHeartbeats 1000000 in
theorem there_any (A B : Option Addr) (n1 n2 m1 m2 : Nat) (f : Int) (x : Bool) (i : Int) (w : World) (hl : (n1 : Int) ≤ 1000000) :
    Calls Try.prog 28 #[.agg #[.slice A n1 n2, .slice B m1 m2, .int .i64 f, .bool x], .int .i64 i] w fun e w' => e = .returned (.bool (thereB n1 i)) ∧ Below w.heap.size w w' := by
  unfold thereB
  by_cases h0 : 0 ≤ i
  · have d0 : decide (0 ≤ i) = true := decide_eq_true h0
    rw [d0, Bool.true_and]
    go_enter Try.func28, Try.ntmps28
    go_wp2
    go_ret
    exact ⟨rfl, below1⟩
  · have d0 : decide (0 ≤ i) = false := decide_eq_false h0
    rw [d0, Bool.false_and]
    go_enter Try.func28, Try.ntmps28
    go_wp2
    go_ret
    exact ⟨rfl, below1⟩

set_option maxRecDepth 100000 in
set_option maxHeartbeats 1000000 in
theorem within_any (A B : Option Addr) (n1 n2 m1 m2 : Nat) (f : Int) (x : Bool) (i : Int) (w : World) (hl : (n1 : Int) ≤ 1000000) :
    Calls Try.prog 25 #[.agg #[.slice A n1 n2, .slice B m1 m2, .int .i64 f, .bool x], .int .i64 i] w fun e w' => e = .returned (.bool (thereB n1 i)) ∧ Below w.heap.size w w' := by
  have HC := Lib.hid (fun v => count_any A B n1 n2 m1 m2 f x v hl)
  unfold thereB
  by_cases h0 : 0 ≤ i
  · have d0 : decide (0 ≤ i) = true := decide_eq_true h0
    rw [d0, Bool.true_and]
    go_enter Try.func25, Try.ntmps25
    go_wp2_with fail
    refine (HC.out _).mono ?_
    rintro e w1 ⟨rfl, hb⟩
    go_wp2_with fail
    go_ret
    exact ⟨rfl, ext below1 hb⟩
  · have d0 : decide (0 ≤ i) = false := decide_eq_false h0
    rw [d0, Bool.false_and]
    go_enter Try.func25, Try.ntmps25
    go_wp2_with fail
    go_ret
    exact ⟨rfl, below1⟩

/-! ### The code -/
set_option maxRecDepth 100000 in
set_option maxHeartbeats 4000000 in
theorem aread_out (A B : Option Addr) (n m : Nat) (s : List ByteArray) (c : List Wr) (f : Int) (x : Bool) (i : Int) (w : World) (hl : (s.length : Int) ≤ 1000000) (ht : thereB s.length i = false) :
    Calls Try.prog 9 #[.agg #[.slice A s.length n, .slice B c.length m, .int .i64 f, .bool x], .int .i64 i] w (fun e w' => e = .returned (.tuple #[.string e0, .int .i64 4]) ∧ Below w.heap.size w w') := by
  have hq := fun w => within_any A B s.length n c.length m f x i w hl
  rw [ht] at hq
  clear ht hl
  have HQ := Lib.hid hq; clear hq
  have H0 := Lib.hid ((Held.refl w).lay [.slice A s.length n, .slice B c.length m, .int .i64 f, .bool x] 25)
  go_enter Try.func9, Try.ntmps9
  have kd := H0.out.b0.cell
  go_wp2_with fail
  refine (HQ.out _).mono ?_
  rintro e w1 ⟨rfl, hb⟩
  have H1 := Lib.hid (H0.out.up hb)
  clear hb H0 kd
  go_wp2_with fail
  go_ret2
  exact ⟨rfl, H1.out.below⟩

set_option maxRecDepth 100000 in
set_option maxHeartbeats 4000000 in
theorem aread_stops (A B : Option Addr) (n m : Nat) (s : List ByteArray) (c : List Wr) (f : Int) (x : Bool) (i : Int) (w : World) (hi : i ≤ 1000000) (hi0 : 0 ≤ i) (hl : (s.length : Int) ≤ 1000000) (ht : thereB s.length i = true) (y : ByteArray) (e1 : Int) (hr : ∀ v, Below w.heap.size w v → Calls Try.prog 26 #[.agg #[.slice A s.length n, .slice B c.length m, .int .i64 f, .bool x], .int .i64 (i + 2)] v fun e v' => e = .returned (.tuple #[.string y, .int .i64 e1]) ∧ Below v.heap.size v v') (h1 : e1 ≠ 0) :
    Calls Try.prog 9 #[.agg #[.slice A s.length n, .slice B c.length m, .int .i64 f, .bool x], .int .i64 i] w (fun e w' => e = .returned (.tuple #[.string e0, .int .i64 e1]) ∧ Below w.heap.size w w') := by
  have hnb : ((e1 : Int) != 0) = true := by simp [bne, beq_eq_false_iff_ne.2 h1]
  have hne : ((e1 : Int) == 0) = false := beq_eq_false_iff_ne.2 h1
  clear h1
  have hq := fun w => within_any A B s.length n c.length m f x i w hl
  rw [ht] at hq
  clear ht hl
  have HQ := Lib.hid hq; clear hq
  have HR := Lib.hid hr; clear hr
  have H0 := Lib.hid ((Held.refl w).lay [.slice A s.length n, .slice B c.length m, .int .i64 f, .bool x] 25)
  go_enter Try.func9, Try.ntmps9
  have kd := H0.out.b0.cell
  go_wp2_with fail
  refine (HQ.out _).mono ?_
  rintro e w1 ⟨rfl, hb⟩
  have H1 := Lib.hid (H0.out.up hb)
  clear hb H0 kd
  have kd := H1.out.b0.cell
  go_wp2_with fail
  refine (HR.out _ H1.out.below).mono ?_
  rintro e w2 ⟨rfl, hb⟩
  have H2 := Lib.hid (H1.out.up hb)
  clear hb H1 kd
  go_wp2_with fail
  go_ret2
  exact ⟨rfl, H2.out.below⟩

set_option maxRecDepth 100000 in
set_option maxHeartbeats 4000000 in
theorem aread_form (A B : Option Addr) (n m : Nat) (s : List ByteArray) (c : List Wr) (f : Int) (x : Bool) (i : Int) (w : World) (hi : i ≤ 1000000) (hi0 : 0 ≤ i) (hl : (s.length : Int) ≤ 1000000) (ht : thereB s.length i = true) (y : ByteArray) (hr : ∀ v, Below w.heap.size w v → Calls Try.prog 26 #[.agg #[.slice A s.length n, .slice B c.length m, .int .i64 f, .bool x], .int .i64 (i + 2)] v fun e v' => e = .returned (.tuple #[.string y, .int .i64 0]) ∧ Below v.heap.size v v') (h8 : ((y.size : Int) == 8) = false) :
    Calls Try.prog 9 #[.agg #[.slice A s.length n, .slice B c.length m, .int .i64 f, .bool x], .int .i64 i] w (fun e w' => e = .returned (.tuple #[.string e0, .int .i64 2]) ∧ Below w.heap.size w w') := by
  have hq := fun w => within_any A B s.length n c.length m f x i w hl
  rw [ht] at hq
  clear ht hl
  have ho := fun w => whole_any y false w h8
  clear h8
  have HQ := Lib.hid hq; clear hq
  have HR := Lib.hid hr; clear hr
  have HO := Lib.hid ho; clear ho
  have H0 := Lib.hid ((Held.refl w).lay [.slice A s.length n, .slice B c.length m, .int .i64 f, .bool x] 25)
  go_enter Try.func9, Try.ntmps9
  have kd := H0.out.b0.cell
  go_wp2_with fail
  refine (HQ.out _).mono ?_
  rintro e w1 ⟨rfl, hb⟩
  have H1 := Lib.hid (H0.out.up hb)
  clear hb H0 kd
  have kd := H1.out.b0.cell
  go_wp2_with fail
  refine (HR.out _ H1.out.below).mono ?_
  rintro e w2 ⟨rfl, hb⟩
  have H2 := Lib.hid (H1.out.up hb)
  clear hb H1 kd
  go_wp2_with fail
  refine (HO.out _).mono ?_
  rintro e w3 ⟨rfl, hb⟩
  have H3 := Lib.hid (H2.out.up hb)
  clear hb H2
  go_wp2_with fail
  go_ret2
  exact ⟨rfl, H3.out.below⟩

set_option maxRecDepth 100000 in
set_option maxHeartbeats 4000000 in
theorem aread_yes (A B : Option Addr) (n m : Nat) (s : List ByteArray) (c : List Wr) (f : Int) (x : Bool) (i : Int) (w : World) (hi : i ≤ 1000000) (hi0 : 0 ≤ i) (hl : (s.length : Int) ≤ 1000000) (ht : thereB s.length i = true) (y : ByteArray) (hr : ∀ v, Below w.heap.size w v → Calls Try.prog 26 #[.agg #[.slice A s.length n, .slice B c.length m, .int .i64 f, .bool x], .int .i64 (i + 2)] v fun e v' => e = .returned (.tuple #[.string y, .int .i64 0]) ∧ Below v.heap.size v v') (h8 : ((y.size : Int) == 8) = true) :
    Calls Try.prog 9 #[.agg #[.slice A s.length n, .slice B c.length m, .int .i64 f, .bool x], .int .i64 i] w (fun e w' => e = .returned (.tuple #[.string y, .int .i64 0]) ∧ Below w.heap.size w w') := by
  have hq := fun w => within_any A B s.length n c.length m f x i w hl
  rw [ht] at hq
  clear ht hl
  have ho := fun w => whole_any y true w h8
  clear h8
  have HQ := Lib.hid hq; clear hq
  have HR := Lib.hid hr; clear hr
  have HO := Lib.hid ho; clear ho
  have H0 := Lib.hid ((Held.refl w).lay [.slice A s.length n, .slice B c.length m, .int .i64 f, .bool x] 25)
  go_enter Try.func9, Try.ntmps9
  have kd := H0.out.b0.cell
  go_wp2_with fail
  refine (HQ.out _).mono ?_
  rintro e w1 ⟨rfl, hb⟩
  have H1 := Lib.hid (H0.out.up hb)
  clear hb H0 kd
  have kd := H1.out.b0.cell
  go_wp2_with fail
  refine (HR.out _ H1.out.below).mono ?_
  rintro e w2 ⟨rfl, hb⟩
  have H2 := Lib.hid (H1.out.up hb)
  clear hb H1 kd
  go_wp2_with fail
  refine (HO.out _).mono ?_
  rintro e w3 ⟨rfl, hb⟩
  have H3 := Lib.hid (H2.out.up hb)
  clear hb H2
  go_wp2_with fail
  go_ret2
  exact ⟨rfl, H3.out.below⟩

set_option maxRecDepth 100000 in
set_option maxHeartbeats 4000000 in
theorem aput_range (A B : Option Addr) (n m : Nat) (s : List ByteArray) (c : List Wr) (f : Int) (x : Bool) (i : Int) (d : ByteArray) (w : World) (hm : Mem w A n B m s c) (hl : (s.length : Int) ≤ 1000000) (ht : thereB s.length i = false) :
    Calls Try.prog 11 #[.agg #[.slice A s.length n, .slice B c.length m, .int .i64 f, .bool x], .int .i64 i, .string d] w (GivesD s c f x 4 w) := by
  have hq := fun w => within_any A B s.length n c.length m f x i w hl
  rw [ht] at hq
  clear ht hl
  have HM := Lib.hid hm; clear hm
  have HQ := Lib.hid hq; clear hq
  have H0 := Lib.hid (((Held.refl w).own [.slice A s.length n, .slice B c.length m, .int .i64 f, .bool x] 25 (n := 4) rfl).own [.slice none 0 0, .slice none 0 0, .int .i64 0, .bool false] 25 (n := 4) rfl)
  have BD0 := Lib.hid ((Box.new w [.slice A s.length n, .slice B c.length m, .int .i64 f, .bool x] 25).alloc (.cells #[.slice none 0 0, .slice none 0 0, .int .i64 0, .bool false] 25))
  have BR0 := Lib.hid (Box.new (w.alloc (.cells #[.slice A s.length n, .slice B c.length m, .int .i64 f, .bool x] 25)) [.slice none 0 0, .slice none 0 0, .int .i64 0, .bool false] 25)
  go_enter Try.func11, Try.ntmps11
  have kd := BD0.out.cell
  have fd := BD0.out.frozen
  have kr := BR0.out.cell
  have fr := BR0.out.frozen
  simp only [World.size_alloc] at kr fr
  go_wp2_with fail
  clear kd fd kr fr
  refine (HQ.out _).mono ?_
  rintro e w1 ⟨rfl, hb⟩
  have H1 := Lib.hid (H0.out.up hb)
  have BD1 := Lib.hid (BD0.out.below hb)
  have BR1 := Lib.hid (BR0.out.below hb)
  clear hb H0 BD0 BR0
  have kd := BD1.out.cell
  have fd := BD1.out.frozen
  have kr := BR1.out.cell
  have fr := BR1.out.frozen
  simp only [World.size_alloc] at kr fr
  go_wp2_with fail
  refine bodyPost_ret (v := .tuple #[.agg #[.slice A s.length n, .slice B c.length m, .int .i64 f, .bool x], .int .i64 4]) (by simp [results, Try.results11, go_sem, kr]) rfl ⟨A, B, n, m, rfl, ?_, ?_⟩
  · exact (HM.out.up H1.out.below).four (by simpa using BR1.out) _ _ _ _ _ _ _ _
  · exact (H1.out.set4 (b := w.heap.size + 1) ⟨4, by simp⟩ _ _ _ _).below


set_option maxRecDepth 100000 in
set_option maxHeartbeats 4000000 in
theorem aput_long (A B : Option Addr) (n m : Nat) (s : List ByteArray) (c : List Wr) (f : Int) (x : Bool) (i : Int) (d : ByteArray) (w : World) (hm : Mem w A n B m s c) (hl : (s.length : Int) ≤ 1000000) (ht : thereB s.length i = true) (h8 : ((d.size : Int) == 8) = false) :
    Calls Try.prog 11 #[.agg #[.slice A s.length n, .slice B c.length m, .int .i64 f, .bool x], .int .i64 i, .string d] w (GivesD s c f x 5 w) := by
  have hq := fun w => within_any A B s.length n c.length m f x i w hl
  rw [ht] at hq
  clear ht hl
  have ho := fun w => whole_any d false w h8
  clear h8
  have HM := Lib.hid hm; clear hm
  have HQ := Lib.hid hq; clear hq
  have HO := Lib.hid ho; clear ho
  have H0 := Lib.hid (((Held.refl w).own [.slice A s.length n, .slice B c.length m, .int .i64 f, .bool x] 25 (n := 4) rfl).own [.slice none 0 0, .slice none 0 0, .int .i64 0, .bool false] 25 (n := 4) rfl)
  have BD0 := Lib.hid ((Box.new w [.slice A s.length n, .slice B c.length m, .int .i64 f, .bool x] 25).alloc (.cells #[.slice none 0 0, .slice none 0 0, .int .i64 0, .bool false] 25))
  have BR0 := Lib.hid (Box.new (w.alloc (.cells #[.slice A s.length n, .slice B c.length m, .int .i64 f, .bool x] 25)) [.slice none 0 0, .slice none 0 0, .int .i64 0, .bool false] 25)
  go_enter Try.func11, Try.ntmps11
  have kd := BD0.out.cell
  have fd := BD0.out.frozen
  have kr := BR0.out.cell
  have fr := BR0.out.frozen
  simp only [World.size_alloc] at kr fr
  go_wp2_with fail
  clear kd fd kr fr
  refine (HQ.out _).mono ?_
  rintro e w1 ⟨rfl, hb⟩
  have H1 := Lib.hid (H0.out.up hb)
  have BD1 := Lib.hid (BD0.out.below hb)
  have BR1 := Lib.hid (BR0.out.below hb)
  clear hb H0 BD0 BR0
  have kd := BD1.out.cell
  have fd := BD1.out.frozen
  have kr := BR1.out.cell
  have fr := BR1.out.frozen
  simp only [World.size_alloc] at kr fr
  go_wp2_with fail
  clear kd fd kr fr
  refine (HO.out _).mono ?_
  rintro e w2 ⟨rfl, hb⟩
  have H2 := Lib.hid (H1.out.up hb)
  have BD2 := Lib.hid (BD1.out.below hb)
  have BR2 := Lib.hid (BR1.out.below hb)
  clear hb H1 BD1 BR1
  have kd := BD2.out.cell
  have fd := BD2.out.frozen
  have kr := BR2.out.cell
  have fr := BR2.out.frozen
  simp only [World.size_alloc] at kr fr
  go_wp2_with fail
  refine bodyPost_ret (v := .tuple #[.agg #[.slice A s.length n, .slice B c.length m, .int .i64 f, .bool x], .int .i64 5]) (by simp [results, Try.results11, go_sem, kr]) rfl ⟨A, B, n, m, rfl, ?_, ?_⟩
  · exact (HM.out.up H2.out.below).four (by simpa using BR2.out) _ _ _ _ _ _ _ _
  · exact (H2.out.set4 (b := w.heap.size + 1) ⟨4, by simp⟩ _ _ _ _).below


set_option maxRecDepth 100000 in
set_option maxHeartbeats 4000000 in
theorem aput_stops (A B : Option Addr) (n m : Nat) (s : List ByteArray) (c : List Wr) (f : Int) (x : Bool) (i : Int) (d : ByteArray) (w : World) (hi : i ≤ 1000000) (hi0 : 0 ≤ i) (hl : (s.length : Int) ≤ 1000000) (ht : thereB s.length i = true) (h8 : ((d.size : Int) == 8) = true) (s1 : List ByteArray) (c1 : List Wr) (f1 : Int) (x1 : Bool) (e1 : Int) (hw : ∀ v, Below w.heap.size w v → Calls Try.prog 30 #[.agg #[.slice A s.length n, .slice B c.length m, .int .i64 f, .bool x], .int .i64 (i + 2), .string d] v (GivesD s1 c1 f1 x1 e1 v)) (h1 : e1 ≠ 0) :
    Calls Try.prog 11 #[.agg #[.slice A s.length n, .slice B c.length m, .int .i64 f, .bool x], .int .i64 i, .string d] w (GivesD s1 c1 f1 x1 e1 w) := by
  have hnb : ((e1 : Int) != 0) = true := by simp [bne, beq_eq_false_iff_ne.2 h1]
  have hne : ((e1 : Int) == 0) = false := beq_eq_false_iff_ne.2 h1
  clear h1
  have hq := fun w => within_any A B s.length n c.length m f x i w hl
  rw [ht] at hq
  clear ht hl
  have ho := fun w => whole_any d true w h8
  clear h8
  have HQ := Lib.hid hq; clear hq
  have HW := Lib.hid hw; clear hw
  have HO := Lib.hid ho; clear ho
  have H0 := Lib.hid (((Held.refl w).own [.slice A s.length n, .slice B c.length m, .int .i64 f, .bool x] 25 (n := 4) rfl).own [.slice none 0 0, .slice none 0 0, .int .i64 0, .bool false] 25 (n := 4) rfl)
  have BD0 := Lib.hid ((Box.new w [.slice A s.length n, .slice B c.length m, .int .i64 f, .bool x] 25).alloc (.cells #[.slice none 0 0, .slice none 0 0, .int .i64 0, .bool false] 25))
  have BR0 := Lib.hid (Box.new (w.alloc (.cells #[.slice A s.length n, .slice B c.length m, .int .i64 f, .bool x] 25)) [.slice none 0 0, .slice none 0 0, .int .i64 0, .bool false] 25)
  go_enter Try.func11, Try.ntmps11
  have kd := BD0.out.cell
  have fd := BD0.out.frozen
  have kr := BR0.out.cell
  have fr := BR0.out.frozen
  simp only [World.size_alloc] at kr fr
  go_wp2_with fail
  clear kd fd kr fr
  refine (HQ.out _).mono ?_
  rintro e w1 ⟨rfl, hb⟩
  have H1 := Lib.hid (H0.out.up hb)
  have BD1 := Lib.hid (BD0.out.below hb)
  have BR1 := Lib.hid (BR0.out.below hb)
  clear hb H0 BD0 BR0
  have kd := BD1.out.cell
  have fd := BD1.out.frozen
  have kr := BR1.out.cell
  have fr := BR1.out.frozen
  simp only [World.size_alloc] at kr fr
  go_wp2_with fail
  clear kd fd kr fr
  refine (HO.out _).mono ?_
  rintro e w2 ⟨rfl, hb⟩
  have H2 := Lib.hid (H1.out.up hb)
  have BD2 := Lib.hid (BD1.out.below hb)
  have BR2 := Lib.hid (BR1.out.below hb)
  clear hb H1 BD1 BR1
  have kd := BD2.out.cell
  have fd := BD2.out.frozen
  have kr := BR2.out.cell
  have fr := BR2.out.frozen
  simp only [World.size_alloc] at kr fr
  go_wp2_with fail
  clear kd fd kr fr
  refine (HW.out _ H2.out.below).mono ?_
  rintro e w3 ⟨A1, B1, n1, m1, rfl, hm1, hb⟩
  have H3 := Lib.hid (H2.out.up hb)
  have BD3 := Lib.hid (BD2.out.below hb)
  have BR3 := Lib.hid (BR2.out.below hb)
  have HM1 := Lib.hid hm1
  clear hb hm1 H2 BD2 BR2
  have kd := BD3.out.cell
  have fd := BD3.out.frozen
  have kr := BR3.out.cell
  have fr := BR3.out.frozen
  simp only [World.size_alloc] at kr fr
  go_wp2_with fail
  refine bodyPost_ret (v := .tuple #[.agg #[.slice A1 s1.length n1, .slice B1 c1.length m1, .int .i64 f1, .bool x1], .int .i64 e1]) (by simp [results, Try.results11, go_sem, kr]) rfl ⟨A1, B1, n1, m1, rfl, ?_, ?_⟩
  · exact (HM1.out.four BD3.out _ _ _ _ _ _ _ _).four (by simpa using BR3.out.past4 (b := w.heap.size) (by simp; try omega) (.slice A1 s1.length n1) (.slice B1 c1.length m1) (.int .i64 f1) (.bool x1)) _ _ _ _ _ _ _ _
  · exact ((H3.out.set4 (b := w.heap.size) ⟨4, by simp⟩ _ _ _ _).set4 (b := w.heap.size + 1) ⟨4, by simp⟩ _ _ _ _).below


set_option maxRecDepth 100000 in
set_option maxHeartbeats 4000000 in
theorem aput_goes (A B : Option Addr) (n m : Nat) (s : List ByteArray) (c : List Wr) (f : Int) (x : Bool) (i : Int) (d : ByteArray) (w : World) (hi : i ≤ 1000000) (hi0 : 0 ≤ i) (hl : (s.length : Int) ≤ 1000000) (ht : thereB s.length i = true) (h8 : ((d.size : Int) == 8) = true) (s1 : List ByteArray) (c1 : List Wr) (f1 : Int) (x1 : Bool) (hw : ∀ v, Below w.heap.size w v → Calls Try.prog 30 #[.agg #[.slice A s.length n, .slice B c.length m, .int .i64 f, .bool x], .int .i64 (i + 2), .string d] v (GivesD s1 c1 f1 x1 0 v)) (s2 : List ByteArray) (c2 : List Wr) (f2 : Int) (x2 : Bool) (e3 : Int) (hg : ∀ (A1 B1 : Option Addr) (n1 m1 : Nat) (v : World), Mem v A1 n1 B1 m1 s1 c1 → Calls Try.prog 31 #[.agg #[.slice A1 s1.length n1, .slice B1 c1.length m1, .int .i64 f1, .bool x1]] v (GivesD s2 c2 f2 x2 e3 v)) :
    Calls Try.prog 11 #[.agg #[.slice A s.length n, .slice B c.length m, .int .i64 f, .bool x], .int .i64 i, .string d] w (GivesD s2 c2 f2 x2 e3 w) := by
  have hq := fun w => within_any A B s.length n c.length m f x i w hl
  rw [ht] at hq
  clear ht hl
  have ho := fun w => whole_any d true w h8
  clear h8
  have HQ := Lib.hid hq; clear hq
  have HW := Lib.hid hw; clear hw
  have HG := Lib.hid hg; clear hg
  have HO := Lib.hid ho; clear ho
  have H0 := Lib.hid (((Held.refl w).own [.slice A s.length n, .slice B c.length m, .int .i64 f, .bool x] 25 (n := 4) rfl).own [.slice none 0 0, .slice none 0 0, .int .i64 0, .bool false] 25 (n := 4) rfl)
  have BD0 := Lib.hid ((Box.new w [.slice A s.length n, .slice B c.length m, .int .i64 f, .bool x] 25).alloc (.cells #[.slice none 0 0, .slice none 0 0, .int .i64 0, .bool false] 25))
  have BR0 := Lib.hid (Box.new (w.alloc (.cells #[.slice A s.length n, .slice B c.length m, .int .i64 f, .bool x] 25)) [.slice none 0 0, .slice none 0 0, .int .i64 0, .bool false] 25)
  go_enter Try.func11, Try.ntmps11
  have kd := BD0.out.cell
  have fd := BD0.out.frozen
  have kr := BR0.out.cell
  have fr := BR0.out.frozen
  simp only [World.size_alloc] at kr fr
  go_wp2_with fail
  clear kd fd kr fr
  refine (HQ.out _).mono ?_
  rintro e w1 ⟨rfl, hb⟩
  have H1 := Lib.hid (H0.out.up hb)
  have BD1 := Lib.hid (BD0.out.below hb)
  have BR1 := Lib.hid (BR0.out.below hb)
  clear hb H0 BD0 BR0
  have kd := BD1.out.cell
  have fd := BD1.out.frozen
  have kr := BR1.out.cell
  have fr := BR1.out.frozen
  simp only [World.size_alloc] at kr fr
  go_wp2_with fail
  clear kd fd kr fr
  refine (HO.out _).mono ?_
  rintro e w2 ⟨rfl, hb⟩
  have H2 := Lib.hid (H1.out.up hb)
  have BD2 := Lib.hid (BD1.out.below hb)
  have BR2 := Lib.hid (BR1.out.below hb)
  clear hb H1 BD1 BR1
  have kd := BD2.out.cell
  have fd := BD2.out.frozen
  have kr := BR2.out.cell
  have fr := BR2.out.frozen
  simp only [World.size_alloc] at kr fr
  go_wp2_with fail
  clear kd fd kr fr
  refine (HW.out _ H2.out.below).mono ?_
  rintro e w3 ⟨A1, B1, n1, m1, rfl, hm1, hb⟩
  have H3 := Lib.hid (H2.out.up hb)
  have BD3 := Lib.hid (BD2.out.below hb)
  have BR3 := Lib.hid (BR2.out.below hb)
  have HM1 := Lib.hid hm1
  clear hb hm1 H2 BD2 BR2
  have kd := BD3.out.cell
  have fd := BD3.out.frozen
  have kr := BR3.out.cell
  have fr := BR3.out.frozen
  simp only [World.size_alloc] at kr fr
  go_wp2_with fail
  clear kd fd kr fr
  have H5 := Lib.hid (H3.out.set4 (b := w.heap.size) ⟨4, by simp⟩ (.slice A1 s1.length n1) (.slice B1 c1.length m1) (.int .i64 f1) (.bool x1))
  have HM2 := Lib.hid (HM1.out.four BD3.out A1 B1 s1.length n1 c1.length m1 f1 x1)
  have BR5 := Lib.hid (BR3.out.past4 (b := w.heap.size) (by simp; try omega) (.slice A1 s1.length n1) (.slice B1 c1.length m1) (.int .i64 f1) (.bool x1))
  clear H3 HM1 BD3 BR3
  refine (HG.out A1 B1 n1 m1 _ HM2.out).mono ?_
  rintro e w5 ⟨A2, B2, n2, m2, rfl, hm5, hb⟩
  have H6 := Lib.hid (H5.out.up hb)
  have BR6 := Lib.hid (BR5.out.below hb)
  have HM5 := Lib.hid hm5
  clear hb hm5 H5 BR5 HM2
  have kr := BR6.out.cell
  have fr := BR6.out.frozen
  simp only [World.size_alloc] at kr fr
  go_wp2_with fail
  refine bodyPost_ret (v := .tuple #[.agg #[.slice A2 s2.length n2, .slice B2 c2.length m2, .int .i64 f2, .bool x2], .int .i64 e3]) (by simp [results, Try.results11, go_sem, kr]) rfl ⟨A2, B2, n2, m2, rfl, ?_, ?_⟩
  · exact HM5.out.four (by simpa using BR6.out) _ _ _ _ _ _ _ _
  · exact (H6.out.set4 (b := w.heap.size + 1) ⟨4, by simp⟩ _ _ _ _).below


/-! ### The document -/
set_option maxRecDepth 100000 in
set_option maxHeartbeats 4000000 in
theorem raread_out (A B : Option Addr) (n m : Nat) (s : List ByteArray) (c : List Wr) (f : Int) (x : Bool) (i : Int) (w : World) (hl : (s.length : Int) ≤ 1000000) (ht : thereB s.length i = false) :
    Calls Try.prog 10 #[.agg #[.slice A s.length n, .slice B c.length m, .int .i64 f, .bool x], .int .i64 i] w (fun e w' => e = .returned (.tuple #[.string e0, .int .i64 4]) ∧ Below w.heap.size w w') := by
  have hq := fun w => there_any A B s.length n c.length m f x i w hl
  rw [ht] at hq
  clear ht hl
  have HQ := Lib.hid hq; clear hq
  have H0 := Lib.hid ((Held.refl w).lay [.slice A s.length n, .slice B c.length m, .int .i64 f, .bool x] 25)
  go_enter Try.func10, Try.ntmps10
  have kd := H0.out.b0.cell
  go_wp2_with fail
  refine (HQ.out _).mono ?_
  rintro e w1 ⟨rfl, hb⟩
  have H1 := Lib.hid (H0.out.up hb)
  clear hb H0 kd
  go_wp2_with fail
  go_ret2
  exact ⟨rfl, H1.out.below⟩

set_option maxRecDepth 100000 in
set_option maxHeartbeats 4000000 in
theorem raread_stops (A B : Option Addr) (n m : Nat) (s : List ByteArray) (c : List Wr) (f : Int) (x : Bool) (i : Int) (w : World) (hi : i ≤ 1000000) (hi0 : 0 ≤ i) (hl : (s.length : Int) ≤ 1000000) (ht : thereB s.length i = true) (y : ByteArray) (e1 : Int) (hr : ∀ v, Below w.heap.size w v → Calls Try.prog 29 #[.agg #[.slice A s.length n, .slice B c.length m, .int .i64 f, .bool x], .int .i64 (i + 2)] v fun e v' => e = .returned (.tuple #[.string y, .int .i64 e1]) ∧ Below v.heap.size v v') (h1 : e1 ≠ 0) :
    Calls Try.prog 10 #[.agg #[.slice A s.length n, .slice B c.length m, .int .i64 f, .bool x], .int .i64 i] w (fun e w' => e = .returned (.tuple #[.string e0, .int .i64 e1]) ∧ Below w.heap.size w w') := by
  have hnb : ((e1 : Int) != 0) = true := by simp [bne, beq_eq_false_iff_ne.2 h1]
  have hne : ((e1 : Int) == 0) = false := beq_eq_false_iff_ne.2 h1
  clear h1
  have hq := fun w => there_any A B s.length n c.length m f x i w hl
  rw [ht] at hq
  clear ht hl
  have HQ := Lib.hid hq; clear hq
  have HR := Lib.hid hr; clear hr
  have H0 := Lib.hid ((Held.refl w).lay [.slice A s.length n, .slice B c.length m, .int .i64 f, .bool x] 25)
  go_enter Try.func10, Try.ntmps10
  have kd := H0.out.b0.cell
  go_wp2_with fail
  refine (HQ.out _).mono ?_
  rintro e w1 ⟨rfl, hb⟩
  have H1 := Lib.hid (H0.out.up hb)
  clear hb H0 kd
  have kd := H1.out.b0.cell
  go_wp2_with fail
  refine (HR.out _ H1.out.below).mono ?_
  rintro e w2 ⟨rfl, hb⟩
  have H2 := Lib.hid (H1.out.up hb)
  clear hb H1 kd
  go_wp2_with fail
  go_ret2
  exact ⟨rfl, H2.out.below⟩

set_option maxRecDepth 100000 in
set_option maxHeartbeats 4000000 in
theorem raread_form (A B : Option Addr) (n m : Nat) (s : List ByteArray) (c : List Wr) (f : Int) (x : Bool) (i : Int) (w : World) (hi : i ≤ 1000000) (hi0 : 0 ≤ i) (hl : (s.length : Int) ≤ 1000000) (ht : thereB s.length i = true) (y : ByteArray) (hr : ∀ v, Below w.heap.size w v → Calls Try.prog 29 #[.agg #[.slice A s.length n, .slice B c.length m, .int .i64 f, .bool x], .int .i64 (i + 2)] v fun e v' => e = .returned (.tuple #[.string y, .int .i64 0]) ∧ Below v.heap.size v v') (h8 : ((y.size : Int) != 8) = true) :
    Calls Try.prog 10 #[.agg #[.slice A s.length n, .slice B c.length m, .int .i64 f, .bool x], .int .i64 i] w (fun e w' => e = .returned (.tuple #[.string e0, .int .i64 2]) ∧ Below w.heap.size w w') := by
  have hq := fun w => there_any A B s.length n c.length m f x i w hl
  rw [ht] at hq
  clear ht hl
  have HQ := Lib.hid hq; clear hq
  have HR := Lib.hid hr; clear hr
  have H0 := Lib.hid ((Held.refl w).lay [.slice A s.length n, .slice B c.length m, .int .i64 f, .bool x] 25)
  go_enter Try.func10, Try.ntmps10
  have kd := H0.out.b0.cell
  go_wp2_with fail
  refine (HQ.out _).mono ?_
  rintro e w1 ⟨rfl, hb⟩
  have H1 := Lib.hid (H0.out.up hb)
  clear hb H0 kd
  have kd := H1.out.b0.cell
  go_wp2_with fail
  refine (HR.out _ H1.out.below).mono ?_
  rintro e w2 ⟨rfl, hb⟩
  have H2 := Lib.hid (H1.out.up hb)
  clear hb H1 kd
  go_wp2_with fail
  go_ret2
  exact ⟨rfl, H2.out.below⟩

set_option maxRecDepth 100000 in
set_option maxHeartbeats 4000000 in
theorem raread_yes (A B : Option Addr) (n m : Nat) (s : List ByteArray) (c : List Wr) (f : Int) (x : Bool) (i : Int) (w : World) (hi : i ≤ 1000000) (hi0 : 0 ≤ i) (hl : (s.length : Int) ≤ 1000000) (ht : thereB s.length i = true) (y : ByteArray) (hr : ∀ v, Below w.heap.size w v → Calls Try.prog 29 #[.agg #[.slice A s.length n, .slice B c.length m, .int .i64 f, .bool x], .int .i64 (i + 2)] v fun e v' => e = .returned (.tuple #[.string y, .int .i64 0]) ∧ Below v.heap.size v v') (h8 : ((y.size : Int) != 8) = false) :
    Calls Try.prog 10 #[.agg #[.slice A s.length n, .slice B c.length m, .int .i64 f, .bool x], .int .i64 i] w (fun e w' => e = .returned (.tuple #[.string y, .int .i64 0]) ∧ Below w.heap.size w w') := by
  have hq := fun w => there_any A B s.length n c.length m f x i w hl
  rw [ht] at hq
  clear ht hl
  have HQ := Lib.hid hq; clear hq
  have HR := Lib.hid hr; clear hr
  have H0 := Lib.hid ((Held.refl w).lay [.slice A s.length n, .slice B c.length m, .int .i64 f, .bool x] 25)
  go_enter Try.func10, Try.ntmps10
  have kd := H0.out.b0.cell
  go_wp2_with fail
  refine (HQ.out _).mono ?_
  rintro e w1 ⟨rfl, hb⟩
  have H1 := Lib.hid (H0.out.up hb)
  clear hb H0 kd
  have kd := H1.out.b0.cell
  go_wp2_with fail
  refine (HR.out _ H1.out.below).mono ?_
  rintro e w2 ⟨rfl, hb⟩
  have H2 := Lib.hid (H1.out.up hb)
  clear hb H1 kd
  go_wp2_with fail
  go_ret2
  exact ⟨rfl, H2.out.below⟩

set_option maxRecDepth 100000 in
set_option maxHeartbeats 4000000 in
theorem raput_range (A B : Option Addr) (n m : Nat) (s : List ByteArray) (c : List Wr) (f : Int) (x : Bool) (i : Int) (d : ByteArray) (w : World) (hm : Mem w A n B m s c) (hl : (s.length : Int) ≤ 1000000) (ht : thereB s.length i = false) :
    Calls Try.prog 12 #[.agg #[.slice A s.length n, .slice B c.length m, .int .i64 f, .bool x], .int .i64 i, .string d] w (GivesD s c f x 4 w) := by
  have hq := fun w => there_any A B s.length n c.length m f x i w hl
  rw [ht] at hq
  clear ht hl
  have HM := Lib.hid hm; clear hm
  have HQ := Lib.hid hq; clear hq
  have H0 := Lib.hid (((Held.refl w).own [.slice A s.length n, .slice B c.length m, .int .i64 f, .bool x] 25 (n := 4) rfl).own [.slice none 0 0, .slice none 0 0, .int .i64 0, .bool false] 25 (n := 4) rfl)
  have BD0 := Lib.hid ((Box.new w [.slice A s.length n, .slice B c.length m, .int .i64 f, .bool x] 25).alloc (.cells #[.slice none 0 0, .slice none 0 0, .int .i64 0, .bool false] 25))
  have BR0 := Lib.hid (Box.new (w.alloc (.cells #[.slice A s.length n, .slice B c.length m, .int .i64 f, .bool x] 25)) [.slice none 0 0, .slice none 0 0, .int .i64 0, .bool false] 25)
  go_enter Try.func12, Try.ntmps12
  have kd := BD0.out.cell
  have fd := BD0.out.frozen
  have kr := BR0.out.cell
  have fr := BR0.out.frozen
  simp only [World.size_alloc] at kr fr
  go_wp2_with fail
  clear kd fd kr fr
  refine (HQ.out _).mono ?_
  rintro e w1 ⟨rfl, hb⟩
  have H1 := Lib.hid (H0.out.up hb)
  have BD1 := Lib.hid (BD0.out.below hb)
  have BR1 := Lib.hid (BR0.out.below hb)
  clear hb H0 BD0 BR0
  have kd := BD1.out.cell
  have fd := BD1.out.frozen
  have kr := BR1.out.cell
  have fr := BR1.out.frozen
  simp only [World.size_alloc] at kr fr
  go_wp2_with fail
  refine bodyPost_ret (v := .tuple #[.agg #[.slice A s.length n, .slice B c.length m, .int .i64 f, .bool x], .int .i64 4]) (by simp [results, Try.results12, go_sem, kr]) rfl ⟨A, B, n, m, rfl, ?_, ?_⟩
  · exact (HM.out.up H1.out.below).four (by simpa using BR1.out) _ _ _ _ _ _ _ _
  · exact (H1.out.set4 (b := w.heap.size + 1) ⟨4, by simp⟩ _ _ _ _).below


set_option maxRecDepth 100000 in
set_option maxHeartbeats 4000000 in
theorem raput_long (A B : Option Addr) (n m : Nat) (s : List ByteArray) (c : List Wr) (f : Int) (x : Bool) (i : Int) (d : ByteArray) (w : World) (hm : Mem w A n B m s c) (hl : (s.length : Int) ≤ 1000000) (ht : thereB s.length i = true) (h8 : ((d.size : Int) != 8) = true) :
    Calls Try.prog 12 #[.agg #[.slice A s.length n, .slice B c.length m, .int .i64 f, .bool x], .int .i64 i, .string d] w (GivesD s c f x 5 w) := by
  have hq := fun w => there_any A B s.length n c.length m f x i w hl
  rw [ht] at hq
  clear ht hl
  have HM := Lib.hid hm; clear hm
  have HQ := Lib.hid hq; clear hq
  have H0 := Lib.hid (((Held.refl w).own [.slice A s.length n, .slice B c.length m, .int .i64 f, .bool x] 25 (n := 4) rfl).own [.slice none 0 0, .slice none 0 0, .int .i64 0, .bool false] 25 (n := 4) rfl)
  have BD0 := Lib.hid ((Box.new w [.slice A s.length n, .slice B c.length m, .int .i64 f, .bool x] 25).alloc (.cells #[.slice none 0 0, .slice none 0 0, .int .i64 0, .bool false] 25))
  have BR0 := Lib.hid (Box.new (w.alloc (.cells #[.slice A s.length n, .slice B c.length m, .int .i64 f, .bool x] 25)) [.slice none 0 0, .slice none 0 0, .int .i64 0, .bool false] 25)
  go_enter Try.func12, Try.ntmps12
  have kd := BD0.out.cell
  have fd := BD0.out.frozen
  have kr := BR0.out.cell
  have fr := BR0.out.frozen
  simp only [World.size_alloc] at kr fr
  go_wp2_with fail
  clear kd fd kr fr
  refine (HQ.out _).mono ?_
  rintro e w1 ⟨rfl, hb⟩
  have H1 := Lib.hid (H0.out.up hb)
  have BD1 := Lib.hid (BD0.out.below hb)
  have BR1 := Lib.hid (BR0.out.below hb)
  clear hb H0 BD0 BR0
  have kd := BD1.out.cell
  have fd := BD1.out.frozen
  have kr := BR1.out.cell
  have fr := BR1.out.frozen
  simp only [World.size_alloc] at kr fr
  go_wp2_with fail
  refine bodyPost_ret (v := .tuple #[.agg #[.slice A s.length n, .slice B c.length m, .int .i64 f, .bool x], .int .i64 5]) (by simp [results, Try.results12, go_sem, kr]) rfl ⟨A, B, n, m, rfl, ?_, ?_⟩
  · exact (HM.out.up H1.out.below).four (by simpa using BR1.out) _ _ _ _ _ _ _ _
  · exact (H1.out.set4 (b := w.heap.size + 1) ⟨4, by simp⟩ _ _ _ _).below


set_option maxRecDepth 100000 in
set_option maxHeartbeats 4000000 in
theorem raput_stops (A B : Option Addr) (n m : Nat) (s : List ByteArray) (c : List Wr) (f : Int) (x : Bool) (i : Int) (d : ByteArray) (w : World) (hi : i ≤ 1000000) (hi0 : 0 ≤ i) (hl : (s.length : Int) ≤ 1000000) (ht : thereB s.length i = true) (h8 : ((d.size : Int) != 8) = false) (s1 : List ByteArray) (c1 : List Wr) (f1 : Int) (x1 : Bool) (e1 : Int) (hw : ∀ v, Below w.heap.size w v → Calls Try.prog 32 #[.agg #[.slice A s.length n, .slice B c.length m, .int .i64 f, .bool x], .int .i64 (i + 2), .string d] v (GivesD s1 c1 f1 x1 e1 v)) (h1 : e1 ≠ 0) :
    Calls Try.prog 12 #[.agg #[.slice A s.length n, .slice B c.length m, .int .i64 f, .bool x], .int .i64 i, .string d] w (GivesD s1 c1 f1 x1 e1 w) := by
  have hnb : ((e1 : Int) != 0) = true := by simp [bne, beq_eq_false_iff_ne.2 h1]
  have hne : ((e1 : Int) == 0) = false := beq_eq_false_iff_ne.2 h1
  clear h1
  have hq := fun w => there_any A B s.length n c.length m f x i w hl
  rw [ht] at hq
  clear ht hl
  have HQ := Lib.hid hq; clear hq
  have HW := Lib.hid hw; clear hw
  have H0 := Lib.hid (((Held.refl w).own [.slice A s.length n, .slice B c.length m, .int .i64 f, .bool x] 25 (n := 4) rfl).own [.slice none 0 0, .slice none 0 0, .int .i64 0, .bool false] 25 (n := 4) rfl)
  have BD0 := Lib.hid ((Box.new w [.slice A s.length n, .slice B c.length m, .int .i64 f, .bool x] 25).alloc (.cells #[.slice none 0 0, .slice none 0 0, .int .i64 0, .bool false] 25))
  have BR0 := Lib.hid (Box.new (w.alloc (.cells #[.slice A s.length n, .slice B c.length m, .int .i64 f, .bool x] 25)) [.slice none 0 0, .slice none 0 0, .int .i64 0, .bool false] 25)
  go_enter Try.func12, Try.ntmps12
  have kd := BD0.out.cell
  have fd := BD0.out.frozen
  have kr := BR0.out.cell
  have fr := BR0.out.frozen
  simp only [World.size_alloc] at kr fr
  go_wp2_with fail
  clear kd fd kr fr
  refine (HQ.out _).mono ?_
  rintro e w1 ⟨rfl, hb⟩
  have H1 := Lib.hid (H0.out.up hb)
  have BD1 := Lib.hid (BD0.out.below hb)
  have BR1 := Lib.hid (BR0.out.below hb)
  clear hb H0 BD0 BR0
  have kd := BD1.out.cell
  have fd := BD1.out.frozen
  have kr := BR1.out.cell
  have fr := BR1.out.frozen
  simp only [World.size_alloc] at kr fr
  go_wp2_with fail
  clear kd fd kr fr
  refine (HW.out _ H1.out.below).mono ?_
  rintro e w2 ⟨A1, B1, n1, m1, rfl, hm1, hb⟩
  have H2 := Lib.hid ((H1.out.up hb).lay [.slice A1 s1.length n1, .slice B1 c1.length m1, .int .i64 f1, .bool x1] 25)
  have BR2 := Lib.hid ((BR1.out.below hb).alloc (.cells #[.slice A1 s1.length n1, .slice B1 c1.length m1, .int .i64 f1, .bool x1] 25))
  have HM1 := Lib.hid (hm1.up (below1 (o := .cells #[.slice A1 s1.length n1, .slice B1 c1.length m1, .int .i64 f1, .bool x1] 25)))
  clear hb hm1 H1 BD1 BR1
  have kx := H2.out.b0.cell
  have kr := BR2.out.cell
  have fr := BR2.out.frozen
  simp only [World.size_alloc] at kr fr
  go_wp2_with fail
  refine bodyPost_ret (v := .tuple #[.agg #[.slice A1 s1.length n1, .slice B1 c1.length m1, .int .i64 f1, .bool x1], .int .i64 e1]) (by simp [results, Try.results12, go_sem, kr]) rfl ⟨A1, B1, n1, m1, rfl, ?_, ?_⟩
  · exact HM1.out.four (by simpa using BR2.out) _ _ _ _ _ _ _ _
  · exact (H2.out.set4 (b := w.heap.size + 1) ⟨4, by simp⟩ _ _ _ _).below


set_option maxRecDepth 100000 in
set_option maxHeartbeats 4000000 in
theorem raput_goes (A B : Option Addr) (n m : Nat) (s : List ByteArray) (c : List Wr) (f : Int) (x : Bool) (i : Int) (d : ByteArray) (w : World) (hi : i ≤ 1000000) (hi0 : 0 ≤ i) (hl : (s.length : Int) ≤ 1000000) (ht : thereB s.length i = true) (h8 : ((d.size : Int) != 8) = false) (s1 : List ByteArray) (c1 : List Wr) (f1 : Int) (x1 : Bool) (hw : ∀ v, Below w.heap.size w v → Calls Try.prog 32 #[.agg #[.slice A s.length n, .slice B c.length m, .int .i64 f, .bool x], .int .i64 (i + 2), .string d] v (GivesD s1 c1 f1 x1 0 v)) (s2 : List ByteArray) (c2 : List Wr) (f2 : Int) (x2 : Bool) (e3 : Int) (hg : ∀ (A1 B1 : Option Addr) (n1 m1 : Nat) (v : World), Mem v A1 n1 B1 m1 s1 c1 → Calls Try.prog 33 #[.agg #[.slice A1 s1.length n1, .slice B1 c1.length m1, .int .i64 f1, .bool x1]] v (GivesD s2 c2 f2 x2 e3 v)) :
    Calls Try.prog 12 #[.agg #[.slice A s.length n, .slice B c.length m, .int .i64 f, .bool x], .int .i64 i, .string d] w (GivesD s2 c2 f2 x2 e3 w) := by
  have hq := fun w => there_any A B s.length n c.length m f x i w hl
  rw [ht] at hq
  clear ht hl
  have HQ := Lib.hid hq; clear hq
  have HW := Lib.hid hw; clear hw
  have HG := Lib.hid hg; clear hg
  have H0 := Lib.hid (((Held.refl w).own [.slice A s.length n, .slice B c.length m, .int .i64 f, .bool x] 25 (n := 4) rfl).own [.slice none 0 0, .slice none 0 0, .int .i64 0, .bool false] 25 (n := 4) rfl)
  have BD0 := Lib.hid ((Box.new w [.slice A s.length n, .slice B c.length m, .int .i64 f, .bool x] 25).alloc (.cells #[.slice none 0 0, .slice none 0 0, .int .i64 0, .bool false] 25))
  have BR0 := Lib.hid (Box.new (w.alloc (.cells #[.slice A s.length n, .slice B c.length m, .int .i64 f, .bool x] 25)) [.slice none 0 0, .slice none 0 0, .int .i64 0, .bool false] 25)
  go_enter Try.func12, Try.ntmps12
  have kd := BD0.out.cell
  have fd := BD0.out.frozen
  have kr := BR0.out.cell
  have fr := BR0.out.frozen
  simp only [World.size_alloc] at kr fr
  go_wp2_with fail
  clear kd fd kr fr
  refine (HQ.out _).mono ?_
  rintro e w1 ⟨rfl, hb⟩
  have H1 := Lib.hid (H0.out.up hb)
  have BD1 := Lib.hid (BD0.out.below hb)
  have BR1 := Lib.hid (BR0.out.below hb)
  clear hb H0 BD0 BR0
  have kd := BD1.out.cell
  have fd := BD1.out.frozen
  have kr := BR1.out.cell
  have fr := BR1.out.frozen
  simp only [World.size_alloc] at kr fr
  go_wp2_with fail
  clear kd fd kr fr
  refine (HW.out _ H1.out.below).mono ?_
  rintro e w2 ⟨A1, B1, n1, m1, rfl, hm1, hb⟩
  have H2 := Lib.hid ((H1.out.up hb).lay [.slice A1 s1.length n1, .slice B1 c1.length m1, .int .i64 f1, .bool x1] 25)
  have BR2 := Lib.hid ((BR1.out.below hb).alloc (.cells #[.slice A1 s1.length n1, .slice B1 c1.length m1, .int .i64 f1, .bool x1] 25))
  have HM1 := Lib.hid (hm1.up (below1 (o := .cells #[.slice A1 s1.length n1, .slice B1 c1.length m1, .int .i64 f1, .bool x1] 25)))
  clear hb hm1 H1 BD1 BR1
  have kx := H2.out.b0.cell
  have kr := BR2.out.cell
  have fr := BR2.out.frozen
  simp only [World.size_alloc] at kr fr
  go_wp2_with fail
  clear kx kr fr
  have H5 := H2; have BR5 := BR2; have HM2 := HM1
  clear H2 BR2 HM1
  refine (HG.out A1 B1 n1 m1 _ HM2.out).mono ?_
  rintro e w5 ⟨A2, B2, n2, m2, rfl, hm5, hb⟩
  have H6 := Lib.hid (H5.out.up hb)
  have BR6 := Lib.hid (BR5.out.below hb)
  have HM5 := Lib.hid hm5
  clear hb hm5 H5 BR5 HM2
  have kr := BR6.out.cell
  have fr := BR6.out.frozen
  simp only [World.size_alloc] at kr fr
  go_wp2_with fail
  refine bodyPost_ret (v := .tuple #[.agg #[.slice A2 s2.length n2, .slice B2 c2.length m2, .int .i64 f2, .bool x2], .int .i64 e3]) (by simp [results, Try.results12, go_sem, kr]) rfl ⟨A2, B2, n2, m2, rfl, ?_, ?_⟩
  · exact HM5.out.four (by simpa using BR6.out) _ _ _ _ _ _ _ _
  · exact (H6.out.set4 (b := w.heap.size + 1) ⟨4, by simp⟩ _ _ _ _).below


end Go.Proofs.Ytlgfinomkpingaa
