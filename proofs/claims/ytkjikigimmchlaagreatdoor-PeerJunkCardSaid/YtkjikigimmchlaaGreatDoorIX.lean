/- Blocks on a disk, layer 9: whether there is such a block; reading and putting one, over what the calls that they make answer, both sides; two rows of texts compared. No other condition but that the lists lie in memory. -/
import Derived.Deep.CutRange
import Derived.Test.YtkjikigimmchlaaGreatDoorKG
import Derived.Test.YtkjikigimmchlaaGreatDoorKD
import Derived.Test.YtkjikigimmchlaaGreatDoorKF
import Derived.Test.YtkjikigimmchlaaGreatDoorS7d
namespace Go.Proofs.YtkjikigimmchlaaGreatDoor
open Go.RowKit
def thereB (n : Nat) (i : Int) : Bool := decide (0 ≤ i) && decide (i < (n : Int) - 2)
theorem there_yes {n : Nat} {i : Int} (h : thereB n i = true) : 0 ≤ i ∧ i < (n : Int) - 2 := by
  unfold thereB at h
  simpa using h
def z8 : ByteArray := ⟨#[0, 0, 0, 0, 0, 0, 0, 0]⟩
theorem nought_any (w : World) : Calls Tryz.prog 85 #[] w fun e w' => e = .returned (.string z8) ∧ Below w.heap.size w w' := by
  go_enter Tryz.func85, Tryz.ntmps85
  go_wp2
  go_ret
  exact ⟨rfl, Below.refl _ _⟩
theorem whole_any (d : ByteArray) (b : Bool) (w : World) (h : ((d.size : Int) == 8) = b) : Calls Tryz.prog 185 #[.string d] w fun e w' => e = .returned (.bool b) ∧ Below w.heap.size w w' := by
  go_enter Tryz.func185, Tryz.ntmps185
  go_wp2
  go_ret
  exact ⟨by rw [← h] <;> rfl, Below.refl _ _⟩
set_option maxRecDepth 100000 in
theorem count_any (A B : Option Addr) (n1 n2 m1 m2 : Nat) (f : Int) (x : Bool) (w : World) (hl : (n1 : Int) ≤ 1000000) :
    Calls Tryz.prog 223 #[.agg #[.slice A n1 n2, .slice B m1 m2, .int .i64 f, .bool x]] w fun e w' => e = .returned (.int .i64 ((n1 : Int) - 2)) ∧ Below w.heap.size w w' := by
  go_enter Tryz.func223, Tryz.ntmps223
  go_wp2
  go_ret
  exact ⟨rfl, below1⟩
set_option maxRecDepth 100000 in
set_option maxHeartbeats 1000000 in
theorem there_any (A B : Option Addr) (n1 n2 m1 m2 : Nat) (f : Int) (x : Bool) (i : Int) (w : World) (hl : (n1 : Int) ≤ 1000000) :
    Calls Tryz.prog 231 #[.agg #[.slice A n1 n2, .slice B m1 m2, .int .i64 f, .bool x], .int .i64 i] w fun e w' => e = .returned (.bool (thereB n1 i)) ∧ Below w.heap.size w w' := by
  unfold thereB
  by_cases h0 : 0 ≤ i
  · have d0 : decide (0 ≤ i) = true := decide_eq_true h0
    rw [d0, Bool.true_and]
    go_enter Tryz.func231, Tryz.ntmps231
    go_wp2
    go_ret
    exact ⟨rfl, below1⟩
  · have d0 : decide (0 ≤ i) = false := decide_eq_false h0
    rw [d0, Bool.false_and]
    go_enter Tryz.func231, Tryz.ntmps231
    go_wp2
    go_ret
    exact ⟨rfl, below1⟩
set_option maxRecDepth 100000 in
set_option maxHeartbeats 1000000 in
theorem within_any (A B : Option Addr) (n1 n2 m1 m2 : Nat) (f : Int) (x : Bool) (i : Int) (w : World) (hl : (n1 : Int) ≤ 1000000) :
    Calls Tryz.prog 183 #[.agg #[.slice A n1 n2, .slice B m1 m2, .int .i64 f, .bool x], .int .i64 i] w fun e w' => e = .returned (.bool (thereB n1 i)) ∧ Below w.heap.size w w' := by
  have HC := Lib.hid (fun v => count_any A B n1 n2 m1 m2 f x v hl)
  unfold thereB
  by_cases h0 : 0 ≤ i
  · have d0 : decide (0 ≤ i) = true := decide_eq_true h0
    rw [d0, Bool.true_and]
    go_enter Tryz.func183, Tryz.ntmps183
    go_wp2_with fail
    refine (HC.out _).mono ?_
    rintro e w1 ⟨rfl, hb⟩
    go_wp2_with fail
    go_ret
    exact ⟨rfl, ext below1 hb⟩
  · have d0 : decide (0 ≤ i) = false := decide_eq_false h0
    rw [d0, Bool.false_and]
    go_enter Tryz.func183, Tryz.ntmps183
    go_wp2_with fail
    go_ret
    exact ⟨rfl, below1⟩
set_option maxRecDepth 100000 in
set_option maxHeartbeats 4000000 in
theorem aread_out (A B : Option Addr) (n m : Nat) (s : List ByteArray) (c : List Wr) (f : Int) (x : Bool) (i : Int) (w : World) (hl : (s.length : Int) ≤ 1000000) (ht : thereB s.length i = false) :
    Calls Tryz.prog 122 #[.agg #[.slice A s.length n, .slice B c.length m, .int .i64 f, .bool x], .int .i64 i] w (fun e w' => e = .returned (.tuple #[.string e0, .int .i64 4]) ∧ Below w.heap.size w w') := by
  have hq := fun w => within_any A B s.length n c.length m f x i w hl
  rw [ht] at hq
  clear ht hl
  have HQ := Lib.hid hq; clear hq
  have H0 := Lib.hid ((Held.refl w).lay [.slice A s.length n, .slice B c.length m, .int .i64 f, .bool x] 30)
  go_enter Tryz.func122, Tryz.ntmps122
  have kd := H0.out.b0.cell
  go_wp2_with fail
  refine (HQ.out _).mono ?_
  rintro e w1 ⟨rfl, hb⟩
  have H1 := Lib.hid (H0.out.up hb)
  clear hb H0 kd
  go_wp2_with fail
  go_ret2
  exact ⟨rfl, H1.out.below⟩
set_option maxRecDepth 100000 in
set_option maxHeartbeats 4000000 in
theorem aread_stops (A B : Option Addr) (n m : Nat) (s : List ByteArray) (c : List Wr) (f : Int) (x : Bool) (i : Int) (w : World) (hi : i ≤ 1000000) (hi0 : 0 ≤ i) (hl : (s.length : Int) ≤ 1000000) (ht : thereB s.length i = true) (y : ByteArray) (e1 : Int) (hr : ∀ v, Below w.heap.size w v → Calls Tryz.prog 184 #[.agg #[.slice A s.length n, .slice B c.length m, .int .i64 f, .bool x], .int .i64 (i + 2)] v fun e v' => e = .returned (.tuple #[.string y, .int .i64 e1]) ∧ Below v.heap.size v v') (h1 : e1 ≠ 0) :
    Calls Tryz.prog 122 #[.agg #[.slice A s.length n, .slice B c.length m, .int .i64 f, .bool x], .int .i64 i] w (fun e w' => e = .returned (.tuple #[.string e0, .int .i64 e1]) ∧ Below w.heap.size w w') := by
  have hnb : ((e1 : Int) != 0) = true := by simp [bne, beq_eq_false_iff_ne.2 h1]
  have hne : ((e1 : Int) == 0) = false := beq_eq_false_iff_ne.2 h1
  clear h1
  have hq := fun w => within_any A B s.length n c.length m f x i w hl
  rw [ht] at hq
  clear ht hl
  have HQ := Lib.hid hq; clear hq
  have HR := Lib.hid hr; clear hr
  have H0 := Lib.hid ((Held.refl w).lay [.slice A s.length n, .slice B c.length m, .int .i64 f, .bool x] 30)
  go_enter Tryz.func122, Tryz.ntmps122
  have kd := H0.out.b0.cell
  go_wp2_with fail
  refine (HQ.out _).mono ?_
  rintro e w1 ⟨rfl, hb⟩
  have H1 := Lib.hid (H0.out.up hb)
  clear hb H0 kd
  have kd := H1.out.b0.cell
  go_wp2_with fail
  refine (HR.out _ H1.out.below).mono ?_
  rintro e w2 ⟨rfl, hb⟩
  have H2 := Lib.hid (H1.out.up hb)
  clear hb H1 kd
  go_wp2_with fail
  go_ret2
  exact ⟨rfl, H2.out.below⟩
set_option maxRecDepth 100000 in
set_option maxHeartbeats 4000000 in
theorem aread_form (A B : Option Addr) (n m : Nat) (s : List ByteArray) (c : List Wr) (f : Int) (x : Bool) (i : Int) (w : World) (hi : i ≤ 1000000) (hi0 : 0 ≤ i) (hl : (s.length : Int) ≤ 1000000) (ht : thereB s.length i = true) (y : ByteArray) (hr : ∀ v, Below w.heap.size w v → Calls Tryz.prog 184 #[.agg #[.slice A s.length n, .slice B c.length m, .int .i64 f, .bool x], .int .i64 (i + 2)] v fun e v' => e = .returned (.tuple #[.string y, .int .i64 0]) ∧ Below v.heap.size v v') (h8 : ((y.size : Int) == 8) = false) :
    Calls Tryz.prog 122 #[.agg #[.slice A s.length n, .slice B c.length m, .int .i64 f, .bool x], .int .i64 i] w (fun e w' => e = .returned (.tuple #[.string e0, .int .i64 2]) ∧ Below w.heap.size w w') := by
  have hq := fun w => within_any A B s.length n c.length m f x i w hl
  rw [ht] at hq
  clear ht hl
  have ho := fun w => whole_any y false w h8
  clear h8
  have HQ := Lib.hid hq; clear hq
  have HR := Lib.hid hr; clear hr
  have HO := Lib.hid ho; clear ho
  have H0 := Lib.hid ((Held.refl w).lay [.slice A s.length n, .slice B c.length m, .int .i64 f, .bool x] 30)
  go_enter Tryz.func122, Tryz.ntmps122
  have kd := H0.out.b0.cell
  go_wp2_with fail
  refine (HQ.out _).mono ?_
  rintro e w1 ⟨rfl, hb⟩
  have H1 := Lib.hid (H0.out.up hb)
  clear hb H0 kd
  have kd := H1.out.b0.cell
  go_wp2_with fail
  refine (HR.out _ H1.out.below).mono ?_
  rintro e w2 ⟨rfl, hb⟩
  have H2 := Lib.hid (H1.out.up hb)
  clear hb H1 kd
  go_wp2_with fail
  refine (HO.out _).mono ?_
  rintro e w3 ⟨rfl, hb⟩
  have H3 := Lib.hid (H2.out.up hb)
  clear hb H2
  go_wp2_with fail
  go_ret2
  exact ⟨rfl, H3.out.below⟩
set_option maxRecDepth 100000 in
set_option maxHeartbeats 4000000 in
theorem aread_yes (A B : Option Addr) (n m : Nat) (s : List ByteArray) (c : List Wr) (f : Int) (x : Bool) (i : Int) (w : World) (hi : i ≤ 1000000) (hi0 : 0 ≤ i) (hl : (s.length : Int) ≤ 1000000) (ht : thereB s.length i = true) (y : ByteArray) (hr : ∀ v, Below w.heap.size w v → Calls Tryz.prog 184 #[.agg #[.slice A s.length n, .slice B c.length m, .int .i64 f, .bool x], .int .i64 (i + 2)] v fun e v' => e = .returned (.tuple #[.string y, .int .i64 0]) ∧ Below v.heap.size v v') (h8 : ((y.size : Int) == 8) = true) :
    Calls Tryz.prog 122 #[.agg #[.slice A s.length n, .slice B c.length m, .int .i64 f, .bool x], .int .i64 i] w (fun e w' => e = .returned (.tuple #[.string y, .int .i64 0]) ∧ Below w.heap.size w w') := by
  have hq := fun w => within_any A B s.length n c.length m f x i w hl
  rw [ht] at hq
  clear ht hl
  have ho := fun w => whole_any y true w h8
  clear h8
  have HQ := Lib.hid hq; clear hq
  have HR := Lib.hid hr; clear hr
  have HO := Lib.hid ho; clear ho
  have H0 := Lib.hid ((Held.refl w).lay [.slice A s.length n, .slice B c.length m, .int .i64 f, .bool x] 30)
  go_enter Tryz.func122, Tryz.ntmps122
  have kd := H0.out.b0.cell
  go_wp2_with fail
  refine (HQ.out _).mono ?_
  rintro e w1 ⟨rfl, hb⟩
  have H1 := Lib.hid (H0.out.up hb)
  clear hb H0 kd
  have kd := H1.out.b0.cell
  go_wp2_with fail
  refine (HR.out _ H1.out.below).mono ?_
  rintro e w2 ⟨rfl, hb⟩
  have H2 := Lib.hid (H1.out.up hb)
  clear hb H1 kd
  go_wp2_with fail
  refine (HO.out _).mono ?_
  rintro e w3 ⟨rfl, hb⟩
  have H3 := Lib.hid (H2.out.up hb)
  clear hb H2
  go_wp2_with fail
  go_ret2
  exact ⟨rfl, H3.out.below⟩
set_option maxRecDepth 100000 in
set_option maxHeartbeats 4000000 in
theorem aput_range (A B : Option Addr) (n m : Nat) (s : List ByteArray) (c : List Wr) (f : Int) (x : Bool) (i : Int) (d : ByteArray) (w : World) (hm : Mem w A n B m s c) (hl : (s.length : Int) ≤ 1000000) (ht : thereB s.length i = false) :
    Calls Tryz.prog 186 #[.agg #[.slice A s.length n, .slice B c.length m, .int .i64 f, .bool x], .int .i64 i, .string d] w (GivesD s c f x 4 w) := by
  have hq := fun w => within_any A B s.length n c.length m f x i w hl
  rw [ht] at hq
  clear ht hl
  have HM := Lib.hid hm; clear hm
  have HQ := Lib.hid hq; clear hq
  have H0 := Lib.hid (((Held.refl w).own [.slice A s.length n, .slice B c.length m, .int .i64 f, .bool x] 30 (n := 4) rfl).own [.slice none 0 0, .slice none 0 0, .int .i64 0, .bool false] 30 (n := 4) rfl)
  have BD0 := Lib.hid ((Box.new w [.slice A s.length n, .slice B c.length m, .int .i64 f, .bool x] 30).alloc (.cells #[.slice none 0 0, .slice none 0 0, .int .i64 0, .bool false] 30))
  have BR0 := Lib.hid (Box.new (w.alloc (.cells #[.slice A s.length n, .slice B c.length m, .int .i64 f, .bool x] 30)) [.slice none 0 0, .slice none 0 0, .int .i64 0, .bool false] 30)
  go_enter Tryz.func186, Tryz.ntmps186
  have kd := BD0.out.cell
  have fd := BD0.out.frozen
  have kr := BR0.out.cell
  have fr := BR0.out.frozen
  simp only [World.size_alloc] at kr fr
  go_wp2_with fail
  clear kd fd kr fr
  refine (HQ.out _).mono ?_
  rintro e w1 ⟨rfl, hb⟩
  have H1 := Lib.hid (H0.out.up hb)
  have BD1 := Lib.hid (BD0.out.below hb)
  have BR1 := Lib.hid (BR0.out.below hb)
  clear hb H0 BD0 BR0
  have kd := BD1.out.cell
  have fd := BD1.out.frozen
  have kr := BR1.out.cell
  have fr := BR1.out.frozen
  simp only [World.size_alloc] at kr fr
  go_wp2_with fail
  refine bodyPost_ret (v := .tuple #[.agg #[.slice A s.length n, .slice B c.length m, .int .i64 f, .bool x], .int .i64 4]) (by simp [results, Tryz.results186, go_sem, kr]) rfl ⟨A, B, n, m, rfl, ?_, ?_⟩
  · exact (HM.out.up H1.out.below).four (by simpa using BR1.out) _ _ _ _ _ _ _ _
  · exact (H1.out.set4 (b := w.heap.size + 1) ⟨4, by simp⟩ _ _ _ _).below
set_option maxRecDepth 100000 in
set_option maxHeartbeats 4000000 in
theorem aput_long (A B : Option Addr) (n m : Nat) (s : List ByteArray) (c : List Wr) (f : Int) (x : Bool) (i : Int) (d : ByteArray) (w : World) (hm : Mem w A n B m s c) (hl : (s.length : Int) ≤ 1000000) (ht : thereB s.length i = true) (h8 : ((d.size : Int) == 8) = false) :
    Calls Tryz.prog 186 #[.agg #[.slice A s.length n, .slice B c.length m, .int .i64 f, .bool x], .int .i64 i, .string d] w (GivesD s c f x 5 w) := by
  have hq := fun w => within_any A B s.length n c.length m f x i w hl
  rw [ht] at hq
  clear ht hl
  have ho := fun w => whole_any d false w h8
  clear h8
  have HM := Lib.hid hm; clear hm
  have HQ := Lib.hid hq; clear hq
  have HO := Lib.hid ho; clear ho
  have H0 := Lib.hid (((Held.refl w).own [.slice A s.length n, .slice B c.length m, .int .i64 f, .bool x] 30 (n := 4) rfl).own [.slice none 0 0, .slice none 0 0, .int .i64 0, .bool false] 30 (n := 4) rfl)
  have BD0 := Lib.hid ((Box.new w [.slice A s.length n, .slice B c.length m, .int .i64 f, .bool x] 30).alloc (.cells #[.slice none 0 0, .slice none 0 0, .int .i64 0, .bool false] 30))
  have BR0 := Lib.hid (Box.new (w.alloc (.cells #[.slice A s.length n, .slice B c.length m, .int .i64 f, .bool x] 30)) [.slice none 0 0, .slice none 0 0, .int .i64 0, .bool false] 30)
  go_enter Tryz.func186, Tryz.ntmps186
  have kd := BD0.out.cell
  have fd := BD0.out.frozen
  have kr := BR0.out.cell
  have fr := BR0.out.frozen
  simp only [World.size_alloc] at kr fr
  go_wp2_with fail
  clear kd fd kr fr
  refine (HQ.out _).mono ?_
  rintro e w1 ⟨rfl, hb⟩
  have H1 := Lib.hid (H0.out.up hb)
  have BD1 := Lib.hid (BD0.out.below hb)
  have BR1 := Lib.hid (BR0.out.below hb)
  clear hb H0 BD0 BR0
  have kd := BD1.out.cell
  have fd := BD1.out.frozen
  have kr := BR1.out.cell
  have fr := BR1.out.frozen
  simp only [World.size_alloc] at kr fr
  go_wp2_with fail
  clear kd fd kr fr
  refine (HO.out _).mono ?_
  rintro e w2 ⟨rfl, hb⟩
  have H2 := Lib.hid (H1.out.up hb)
  have BD2 := Lib.hid (BD1.out.below hb)
  have BR2 := Lib.hid (BR1.out.below hb)
  clear hb H1 BD1 BR1
  have kd := BD2.out.cell
  have fd := BD2.out.frozen
  have kr := BR2.out.cell
  have fr := BR2.out.frozen
  simp only [World.size_alloc] at kr fr
  go_wp2_with fail
  refine bodyPost_ret (v := .tuple #[.agg #[.slice A s.length n, .slice B c.length m, .int .i64 f, .bool x], .int .i64 5]) (by simp [results, Tryz.results186, go_sem, kr]) rfl ⟨A, B, n, m, rfl, ?_, ?_⟩
  · exact (HM.out.up H2.out.below).four (by simpa using BR2.out) _ _ _ _ _ _ _ _
  · exact (H2.out.set4 (b := w.heap.size + 1) ⟨4, by simp⟩ _ _ _ _).below
set_option maxRecDepth 100000 in
set_option maxHeartbeats 4000000 in
theorem aput_stops (A B : Option Addr) (n m : Nat) (s : List ByteArray) (c : List Wr) (f : Int) (x : Bool) (i : Int) (d : ByteArray) (w : World) (hi : i ≤ 1000000) (hi0 : 0 ≤ i) (hl : (s.length : Int) ≤ 1000000) (ht : thereB s.length i = true) (h8 : ((d.size : Int) == 8) = true) (s1 : List ByteArray) (c1 : List Wr) (f1 : Int) (x1 : Bool) (e1 : Int) (hw : ∀ v, Below w.heap.size w v → Calls Tryz.prog 222 #[.agg #[.slice A s.length n, .slice B c.length m, .int .i64 f, .bool x], .int .i64 (i + 2), .string d] v (GivesD s1 c1 f1 x1 e1 v)) (h1 : e1 ≠ 0) :
    Calls Tryz.prog 186 #[.agg #[.slice A s.length n, .slice B c.length m, .int .i64 f, .bool x], .int .i64 i, .string d] w (GivesD s1 c1 f1 x1 e1 w) := by
  have hnb : ((e1 : Int) != 0) = true := by simp [bne, beq_eq_false_iff_ne.2 h1]
  have hne : ((e1 : Int) == 0) = false := beq_eq_false_iff_ne.2 h1
  clear h1
  have hq := fun w => within_any A B s.length n c.length m f x i w hl
  rw [ht] at hq
  clear ht hl
  have ho := fun w => whole_any d true w h8
  clear h8
  have HQ := Lib.hid hq; clear hq
  have HW := Lib.hid hw; clear hw
  have HO := Lib.hid ho; clear ho
  have H0 := Lib.hid (((Held.refl w).own [.slice A s.length n, .slice B c.length m, .int .i64 f, .bool x] 30 (n := 4) rfl).own [.slice none 0 0, .slice none 0 0, .int .i64 0, .bool false] 30 (n := 4) rfl)
  have BD0 := Lib.hid ((Box.new w [.slice A s.length n, .slice B c.length m, .int .i64 f, .bool x] 30).alloc (.cells #[.slice none 0 0, .slice none 0 0, .int .i64 0, .bool false] 30))
  have BR0 := Lib.hid (Box.new (w.alloc (.cells #[.slice A s.length n, .slice B c.length m, .int .i64 f, .bool x] 30)) [.slice none 0 0, .slice none 0 0, .int .i64 0, .bool false] 30)
  go_enter Tryz.func186, Tryz.ntmps186
  have kd := BD0.out.cell
  have fd := BD0.out.frozen
  have kr := BR0.out.cell
  have fr := BR0.out.frozen
  simp only [World.size_alloc] at kr fr
  go_wp2_with fail
  clear kd fd kr fr
  refine (HQ.out _).mono ?_
  rintro e w1 ⟨rfl, hb⟩
  have H1 := Lib.hid (H0.out.up hb)
  have BD1 := Lib.hid (BD0.out.below hb)
  have BR1 := Lib.hid (BR0.out.below hb)
  clear hb H0 BD0 BR0
  have kd := BD1.out.cell
  have fd := BD1.out.frozen
  have kr := BR1.out.cell
  have fr := BR1.out.frozen
  simp only [World.size_alloc] at kr fr
  go_wp2_with fail
  clear kd fd kr fr
  refine (HO.out _).mono ?_
  rintro e w2 ⟨rfl, hb⟩
  have H2 := Lib.hid (H1.out.up hb)
  have BD2 := Lib.hid (BD1.out.below hb)
  have BR2 := Lib.hid (BR1.out.below hb)
  clear hb H1 BD1 BR1
  have kd := BD2.out.cell
  have fd := BD2.out.frozen
  have kr := BR2.out.cell
  have fr := BR2.out.frozen
  simp only [World.size_alloc] at kr fr
  go_wp2_with fail
  clear kd fd kr fr
  refine (HW.out _ H2.out.below).mono ?_
  rintro e w3 ⟨A1, B1, n1, m1, rfl, hm1, hb⟩
  have H3 := Lib.hid (H2.out.up hb)
  have BD3 := Lib.hid (BD2.out.below hb)
  have BR3 := Lib.hid (BR2.out.below hb)
  have HM1 := Lib.hid hm1
  clear hb hm1 H2 BD2 BR2
  have kd := BD3.out.cell
  have fd := BD3.out.frozen
  have kr := BR3.out.cell
  have fr := BR3.out.frozen
  simp only [World.size_alloc] at kr fr
  go_wp2_with fail
  refine bodyPost_ret (v := .tuple #[.agg #[.slice A1 s1.length n1, .slice B1 c1.length m1, .int .i64 f1, .bool x1], .int .i64 e1]) (by simp [results, Tryz.results186, go_sem, kr]) rfl ⟨A1, B1, n1, m1, rfl, ?_, ?_⟩
  · exact (HM1.out.four BD3.out _ _ _ _ _ _ _ _).four (by simpa using BR3.out.past4 (b := w.heap.size) (by simp; try omega) (.slice A1 s1.length n1) (.slice B1 c1.length m1) (.int .i64 f1) (.bool x1)) _ _ _ _ _ _ _ _
  · exact ((H3.out.set4 (b := w.heap.size) ⟨4, by simp⟩ _ _ _ _).set4 (b := w.heap.size + 1) ⟨4, by simp⟩ _ _ _ _).below
set_option maxRecDepth 100000 in
set_option maxHeartbeats 4000000 in
theorem aput_goes (A B : Option Addr) (n m : Nat) (s : List ByteArray) (c : List Wr) (f : Int) (x : Bool) (i : Int) (d : ByteArray) (w : World) (hi : i ≤ 1000000) (hi0 : 0 ≤ i) (hl : (s.length : Int) ≤ 1000000) (ht : thereB s.length i = true) (h8 : ((d.size : Int) == 8) = true) (s1 : List ByteArray) (c1 : List Wr) (f1 : Int) (x1 : Bool) (hw : ∀ v, Below w.heap.size w v → Calls Tryz.prog 222 #[.agg #[.slice A s.length n, .slice B c.length m, .int .i64 f, .bool x], .int .i64 (i + 2), .string d] v (GivesD s1 c1 f1 x1 0 v)) (s2 : List ByteArray) (c2 : List Wr) (f2 : Int) (x2 : Bool) (e3 : Int) (hg : ∀ (A1 B1 : Option Addr) (n1 m1 : Nat) (v : World), Mem v A1 n1 B1 m1 s1 c1 → Calls Tryz.prog 226 #[.agg #[.slice A1 s1.length n1, .slice B1 c1.length m1, .int .i64 f1, .bool x1]] v (GivesD s2 c2 f2 x2 e3 v)) :
    Calls Tryz.prog 186 #[.agg #[.slice A s.length n, .slice B c.length m, .int .i64 f, .bool x], .int .i64 i, .string d] w (GivesD s2 c2 f2 x2 e3 w) := by
  have hq := fun w => within_any A B s.length n c.length m f x i w hl
  rw [ht] at hq
  clear ht hl
  have ho := fun w => whole_any d true w h8
  clear h8
  have HQ := Lib.hid hq; clear hq
  have HW := Lib.hid hw; clear hw
  have HG := Lib.hid hg; clear hg
  have HO := Lib.hid ho; clear ho
  have H0 := Lib.hid (((Held.refl w).own [.slice A s.length n, .slice B c.length m, .int .i64 f, .bool x] 30 (n := 4) rfl).own [.slice none 0 0, .slice none 0 0, .int .i64 0, .bool false] 30 (n := 4) rfl)
  have BD0 := Lib.hid ((Box.new w [.slice A s.length n, .slice B c.length m, .int .i64 f, .bool x] 30).alloc (.cells #[.slice none 0 0, .slice none 0 0, .int .i64 0, .bool false] 30))
  have BR0 := Lib.hid (Box.new (w.alloc (.cells #[.slice A s.length n, .slice B c.length m, .int .i64 f, .bool x] 30)) [.slice none 0 0, .slice none 0 0, .int .i64 0, .bool false] 30)
  go_enter Tryz.func186, Tryz.ntmps186
  have kd := BD0.out.cell
  have fd := BD0.out.frozen
  have kr := BR0.out.cell
  have fr := BR0.out.frozen
  simp only [World.size_alloc] at kr fr
  go_wp2_with fail
  clear kd fd kr fr
  refine (HQ.out _).mono ?_
  rintro e w1 ⟨rfl, hb⟩
  have H1 := Lib.hid (H0.out.up hb)
  have BD1 := Lib.hid (BD0.out.below hb)
  have BR1 := Lib.hid (BR0.out.below hb)
  clear hb H0 BD0 BR0
  have kd := BD1.out.cell
  have fd := BD1.out.frozen
  have kr := BR1.out.cell
  have fr := BR1.out.frozen
  simp only [World.size_alloc] at kr fr
  go_wp2_with fail
  clear kd fd kr fr
  refine (HO.out _).mono ?_
  rintro e w2 ⟨rfl, hb⟩
  have H2 := Lib.hid (H1.out.up hb)
  have BD2 := Lib.hid (BD1.out.below hb)
  have BR2 := Lib.hid (BR1.out.below hb)
  clear hb H1 BD1 BR1
  have kd := BD2.out.cell
  have fd := BD2.out.frozen
  have kr := BR2.out.cell
  have fr := BR2.out.frozen
  simp only [World.size_alloc] at kr fr
  go_wp2_with fail
  clear kd fd kr fr
  refine (HW.out _ H2.out.below).mono ?_
  rintro e w3 ⟨A1, B1, n1, m1, rfl, hm1, hb⟩
  have H3 := Lib.hid (H2.out.up hb)
  have BD3 := Lib.hid (BD2.out.below hb)
  have BR3 := Lib.hid (BR2.out.below hb)
  have HM1 := Lib.hid hm1
  clear hb hm1 H2 BD2 BR2
  have kd := BD3.out.cell
  have fd := BD3.out.frozen
  have kr := BR3.out.cell
  have fr := BR3.out.frozen
  simp only [World.size_alloc] at kr fr
  go_wp2_with fail
  clear kd fd kr fr
  have H5 := Lib.hid (H3.out.set4 (b := w.heap.size) ⟨4, by simp⟩ (.slice A1 s1.length n1) (.slice B1 c1.length m1) (.int .i64 f1) (.bool x1))
  have HM2 := Lib.hid (HM1.out.four BD3.out A1 B1 s1.length n1 c1.length m1 f1 x1)
  have BR5 := Lib.hid (BR3.out.past4 (b := w.heap.size) (by simp; try omega) (.slice A1 s1.length n1) (.slice B1 c1.length m1) (.int .i64 f1) (.bool x1))
  clear H3 HM1 BD3 BR3
  refine (HG.out A1 B1 n1 m1 _ HM2.out).mono ?_
  rintro e w5 ⟨A2, B2, n2, m2, rfl, hm5, hb⟩
  have H6 := Lib.hid (H5.out.up hb)
  have BR6 := Lib.hid (BR5.out.below hb)
  have HM5 := Lib.hid hm5
  clear hb hm5 H5 BR5 HM2
  have kr := BR6.out.cell
  have fr := BR6.out.frozen
  simp only [World.size_alloc] at kr fr
  go_wp2_with fail
  refine bodyPost_ret (v := .tuple #[.agg #[.slice A2 s2.length n2, .slice B2 c2.length m2, .int .i64 f2, .bool x2], .int .i64 e3]) (by simp [results, Tryz.results186, go_sem, kr]) rfl ⟨A2, B2, n2, m2, rfl, ?_, ?_⟩
  · exact HM5.out.four (by simpa using BR6.out) _ _ _ _ _ _ _ _
  · exact (H6.out.set4 (b := w.heap.size + 1) ⟨4, by simp⟩ _ _ _ _).below
set_option maxRecDepth 100000 in
set_option maxHeartbeats 4000000 in
theorem raread_out (A B : Option Addr) (n m : Nat) (s : List ByteArray) (c : List Wr) (f : Int) (x : Bool) (i : Int) (w : World) (hl : (s.length : Int) ≤ 1000000) (ht : thereB s.length i = false) :
    Calls Tryz.prog 192 #[.agg #[.slice A s.length n, .slice B c.length m, .int .i64 f, .bool x], .int .i64 i] w (fun e w' => e = .returned (.tuple #[.string e0, .int .i64 4]) ∧ Below w.heap.size w w') := by
  have hq := fun w => there_any A B s.length n c.length m f x i w hl
  rw [ht] at hq
  clear ht hl
  have HQ := Lib.hid hq; clear hq
  have H0 := Lib.hid ((Held.refl w).lay [.slice A s.length n, .slice B c.length m, .int .i64 f, .bool x] 30)
  go_enter Tryz.func192, Tryz.ntmps192
  have kd := H0.out.b0.cell
  go_wp2_with fail
  refine (HQ.out _).mono ?_
  rintro e w1 ⟨rfl, hb⟩
  have H1 := Lib.hid (H0.out.up hb)
  clear hb H0 kd
  go_wp2_with fail
  go_ret2
  exact ⟨rfl, H1.out.below⟩
set_option maxRecDepth 100000 in
set_option maxHeartbeats 4000000 in
theorem raread_stops (A B : Option Addr) (n m : Nat) (s : List ByteArray) (c : List Wr) (f : Int) (x : Bool) (i : Int) (w : World) (hi : i ≤ 1000000) (hi0 : 0 ≤ i) (hl : (s.length : Int) ≤ 1000000) (ht : thereB s.length i = true) (y : ByteArray) (e1 : Int) (hr : ∀ v, Below w.heap.size w v → Calls Tryz.prog 189 #[.agg #[.slice A s.length n, .slice B c.length m, .int .i64 f, .bool x], .int .i64 (i + 2)] v fun e v' => e = .returned (.tuple #[.string y, .int .i64 e1]) ∧ Below v.heap.size v v') (h1 : e1 ≠ 0) :
    Calls Tryz.prog 192 #[.agg #[.slice A s.length n, .slice B c.length m, .int .i64 f, .bool x], .int .i64 i] w (fun e w' => e = .returned (.tuple #[.string e0, .int .i64 e1]) ∧ Below w.heap.size w w') := by
  have hnb : ((e1 : Int) != 0) = true := by simp [bne, beq_eq_false_iff_ne.2 h1]
  have hne : ((e1 : Int) == 0) = false := beq_eq_false_iff_ne.2 h1
  clear h1
  have hq := fun w => there_any A B s.length n c.length m f x i w hl
  rw [ht] at hq
  clear ht hl
  have HQ := Lib.hid hq; clear hq
  have HR := Lib.hid hr; clear hr
  have H0 := Lib.hid ((Held.refl w).lay [.slice A s.length n, .slice B c.length m, .int .i64 f, .bool x] 30)
  go_enter Tryz.func192, Tryz.ntmps192
  have kd := H0.out.b0.cell
  go_wp2_with fail
  refine (HQ.out _).mono ?_
  rintro e w1 ⟨rfl, hb⟩
  have H1 := Lib.hid (H0.out.up hb)
  clear hb H0 kd
  have kd := H1.out.b0.cell
  go_wp2_with fail
  refine (HR.out _ H1.out.below).mono ?_
  rintro e w2 ⟨rfl, hb⟩
  have H2 := Lib.hid (H1.out.up hb)
  clear hb H1 kd
  go_wp2_with fail
  go_ret2
  exact ⟨rfl, H2.out.below⟩
set_option maxRecDepth 100000 in
set_option maxHeartbeats 4000000 in
theorem raread_form (A B : Option Addr) (n m : Nat) (s : List ByteArray) (c : List Wr) (f : Int) (x : Bool) (i : Int) (w : World) (hi : i ≤ 1000000) (hi0 : 0 ≤ i) (hl : (s.length : Int) ≤ 1000000) (ht : thereB s.length i = true) (y : ByteArray) (hr : ∀ v, Below w.heap.size w v → Calls Tryz.prog 189 #[.agg #[.slice A s.length n, .slice B c.length m, .int .i64 f, .bool x], .int .i64 (i + 2)] v fun e v' => e = .returned (.tuple #[.string y, .int .i64 0]) ∧ Below v.heap.size v v') (h8 : ((y.size : Int) != 8) = true) :
    Calls Tryz.prog 192 #[.agg #[.slice A s.length n, .slice B c.length m, .int .i64 f, .bool x], .int .i64 i] w (fun e w' => e = .returned (.tuple #[.string e0, .int .i64 2]) ∧ Below w.heap.size w w') := by
  have hq := fun w => there_any A B s.length n c.length m f x i w hl
  rw [ht] at hq
  clear ht hl
  have HQ := Lib.hid hq; clear hq
  have HR := Lib.hid hr; clear hr
  have H0 := Lib.hid ((Held.refl w).lay [.slice A s.length n, .slice B c.length m, .int .i64 f, .bool x] 30)
  go_enter Tryz.func192, Tryz.ntmps192
  have kd := H0.out.b0.cell
  go_wp2_with fail
  refine (HQ.out _).mono ?_
  rintro e w1 ⟨rfl, hb⟩
  have H1 := Lib.hid (H0.out.up hb)
  clear hb H0 kd
  have kd := H1.out.b0.cell
  go_wp2_with fail
  refine (HR.out _ H1.out.below).mono ?_
  rintro e w2 ⟨rfl, hb⟩
  have H2 := Lib.hid (H1.out.up hb)
  clear hb H1 kd
  go_wp2_with fail
  go_ret2
  exact ⟨rfl, H2.out.below⟩
set_option maxRecDepth 100000 in
set_option maxHeartbeats 4000000 in
theorem raread_yes (A B : Option Addr) (n m : Nat) (s : List ByteArray) (c : List Wr) (f : Int) (x : Bool) (i : Int) (w : World) (hi : i ≤ 1000000) (hi0 : 0 ≤ i) (hl : (s.length : Int) ≤ 1000000) (ht : thereB s.length i = true) (y : ByteArray) (hr : ∀ v, Below w.heap.size w v → Calls Tryz.prog 189 #[.agg #[.slice A s.length n, .slice B c.length m, .int .i64 f, .bool x], .int .i64 (i + 2)] v fun e v' => e = .returned (.tuple #[.string y, .int .i64 0]) ∧ Below v.heap.size v v') (h8 : ((y.size : Int) != 8) = false) :
    Calls Tryz.prog 192 #[.agg #[.slice A s.length n, .slice B c.length m, .int .i64 f, .bool x], .int .i64 i] w (fun e w' => e = .returned (.tuple #[.string y, .int .i64 0]) ∧ Below w.heap.size w w') := by
  have hq := fun w => there_any A B s.length n c.length m f x i w hl
  rw [ht] at hq
  clear ht hl
  have HQ := Lib.hid hq; clear hq
  have HR := Lib.hid hr; clear hr
  have H0 := Lib.hid ((Held.refl w).lay [.slice A s.length n, .slice B c.length m, .int .i64 f, .bool x] 30)
  go_enter Tryz.func192, Tryz.ntmps192
  have kd := H0.out.b0.cell
  go_wp2_with fail
  refine (HQ.out _).mono ?_
  rintro e w1 ⟨rfl, hb⟩
  have H1 := Lib.hid (H0.out.up hb)
  clear hb H0 kd
  have kd := H1.out.b0.cell
  go_wp2_with fail
  refine (HR.out _ H1.out.below).mono ?_
  rintro e w2 ⟨rfl, hb⟩
  have H2 := Lib.hid (H1.out.up hb)
  clear hb H1 kd
  go_wp2_with fail
  go_ret2
  exact ⟨rfl, H2.out.below⟩
set_option maxRecDepth 100000 in
set_option maxHeartbeats 4000000 in
theorem raput_range (A B : Option Addr) (n m : Nat) (s : List ByteArray) (c : List Wr) (f : Int) (x : Bool) (i : Int) (d : ByteArray) (w : World) (hm : Mem w A n B m s c) (hl : (s.length : Int) ≤ 1000000) (ht : thereB s.length i = false) :
    Calls Tryz.prog 235 #[.agg #[.slice A s.length n, .slice B c.length m, .int .i64 f, .bool x], .int .i64 i, .string d] w (GivesD s c f x 4 w) := by
  have hq := fun w => there_any A B s.length n c.length m f x i w hl
  rw [ht] at hq
  clear ht hl
  have HM := Lib.hid hm; clear hm
  have HQ := Lib.hid hq; clear hq
  have H0 := Lib.hid (((Held.refl w).own [.slice A s.length n, .slice B c.length m, .int .i64 f, .bool x] 30 (n := 4) rfl).own [.slice none 0 0, .slice none 0 0, .int .i64 0, .bool false] 30 (n := 4) rfl)
  have BD0 := Lib.hid ((Box.new w [.slice A s.length n, .slice B c.length m, .int .i64 f, .bool x] 30).alloc (.cells #[.slice none 0 0, .slice none 0 0, .int .i64 0, .bool false] 30))
  have BR0 := Lib.hid (Box.new (w.alloc (.cells #[.slice A s.length n, .slice B c.length m, .int .i64 f, .bool x] 30)) [.slice none 0 0, .slice none 0 0, .int .i64 0, .bool false] 30)
  go_enter Tryz.func235, Tryz.ntmps235
  have kd := BD0.out.cell
  have fd := BD0.out.frozen
  have kr := BR0.out.cell
  have fr := BR0.out.frozen
  simp only [World.size_alloc] at kr fr
  go_wp2_with fail
  clear kd fd kr fr
  refine (HQ.out _).mono ?_
  rintro e w1 ⟨rfl, hb⟩
  have H1 := Lib.hid (H0.out.up hb)
  have BD1 := Lib.hid (BD0.out.below hb)
  have BR1 := Lib.hid (BR0.out.below hb)
  clear hb H0 BD0 BR0
  have kd := BD1.out.cell
  have fd := BD1.out.frozen
  have kr := BR1.out.cell
  have fr := BR1.out.frozen
  simp only [World.size_alloc] at kr fr
  go_wp2_with fail
  refine bodyPost_ret (v := .tuple #[.agg #[.slice A s.length n, .slice B c.length m, .int .i64 f, .bool x], .int .i64 4]) (by simp [results, Tryz.results235, go_sem, kr]) rfl ⟨A, B, n, m, rfl, ?_, ?_⟩
  · exact (HM.out.up H1.out.below).four (by simpa using BR1.out) _ _ _ _ _ _ _ _
  · exact (H1.out.set4 (b := w.heap.size + 1) ⟨4, by simp⟩ _ _ _ _).below
set_option maxRecDepth 100000 in
set_option maxHeartbeats 4000000 in
theorem raput_long (A B : Option Addr) (n m : Nat) (s : List ByteArray) (c : List Wr) (f : Int) (x : Bool) (i : Int) (d : ByteArray) (w : World) (hm : Mem w A n B m s c) (hl : (s.length : Int) ≤ 1000000) (ht : thereB s.length i = true) (h8 : ((d.size : Int) != 8) = true) :
    Calls Tryz.prog 235 #[.agg #[.slice A s.length n, .slice B c.length m, .int .i64 f, .bool x], .int .i64 i, .string d] w (GivesD s c f x 5 w) := by
  have hq := fun w => there_any A B s.length n c.length m f x i w hl
  rw [ht] at hq
  clear ht hl
  have HM := Lib.hid hm; clear hm
  have HQ := Lib.hid hq; clear hq
  have H0 := Lib.hid (((Held.refl w).own [.slice A s.length n, .slice B c.length m, .int .i64 f, .bool x] 30 (n := 4) rfl).own [.slice none 0 0, .slice none 0 0, .int .i64 0, .bool false] 30 (n := 4) rfl)
  have BD0 := Lib.hid ((Box.new w [.slice A s.length n, .slice B c.length m, .int .i64 f, .bool x] 30).alloc (.cells #[.slice none 0 0, .slice none 0 0, .int .i64 0, .bool false] 30))
  have BR0 := Lib.hid (Box.new (w.alloc (.cells #[.slice A s.length n, .slice B c.length m, .int .i64 f, .bool x] 30)) [.slice none 0 0, .slice none 0 0, .int .i64 0, .bool false] 30)
  go_enter Tryz.func235, Tryz.ntmps235
  have kd := BD0.out.cell
  have fd := BD0.out.frozen
  have kr := BR0.out.cell
  have fr := BR0.out.frozen
  simp only [World.size_alloc] at kr fr
  go_wp2_with fail
  clear kd fd kr fr
  refine (HQ.out _).mono ?_
  rintro e w1 ⟨rfl, hb⟩
  have H1 := Lib.hid (H0.out.up hb)
  have BD1 := Lib.hid (BD0.out.below hb)
  have BR1 := Lib.hid (BR0.out.below hb)
  clear hb H0 BD0 BR0
  have kd := BD1.out.cell
  have fd := BD1.out.frozen
  have kr := BR1.out.cell
  have fr := BR1.out.frozen
  simp only [World.size_alloc] at kr fr
  go_wp2_with fail
  refine bodyPost_ret (v := .tuple #[.agg #[.slice A s.length n, .slice B c.length m, .int .i64 f, .bool x], .int .i64 5]) (by simp [results, Tryz.results235, go_sem, kr]) rfl ⟨A, B, n, m, rfl, ?_, ?_⟩
  · exact (HM.out.up H1.out.below).four (by simpa using BR1.out) _ _ _ _ _ _ _ _
  · exact (H1.out.set4 (b := w.heap.size + 1) ⟨4, by simp⟩ _ _ _ _).below
set_option maxRecDepth 100000 in
set_option maxHeartbeats 4000000 in
theorem raput_stops (A B : Option Addr) (n m : Nat) (s : List ByteArray) (c : List Wr) (f : Int) (x : Bool) (i : Int) (d : ByteArray) (w : World) (hi : i ≤ 1000000) (hi0 : 0 ≤ i) (hl : (s.length : Int) ≤ 1000000) (ht : thereB s.length i = true) (h8 : ((d.size : Int) != 8) = false) (s1 : List ByteArray) (c1 : List Wr) (f1 : Int) (x1 : Bool) (e1 : Int) (hw : ∀ v, Below w.heap.size w v → Calls Tryz.prog 252 #[.agg #[.slice A s.length n, .slice B c.length m, .int .i64 f, .bool x], .int .i64 (i + 2), .string d] v (GivesD s1 c1 f1 x1 e1 v)) (h1 : e1 ≠ 0) :
    Calls Tryz.prog 235 #[.agg #[.slice A s.length n, .slice B c.length m, .int .i64 f, .bool x], .int .i64 i, .string d] w (GivesD s1 c1 f1 x1 e1 w) := by
  have hnb : ((e1 : Int) != 0) = true := by simp [bne, beq_eq_false_iff_ne.2 h1]
  have hne : ((e1 : Int) == 0) = false := beq_eq_false_iff_ne.2 h1
  clear h1
  have hq := fun w => there_any A B s.length n c.length m f x i w hl
  rw [ht] at hq
  clear ht hl
  have HQ := Lib.hid hq; clear hq
  have HW := Lib.hid hw; clear hw
  have H0 := Lib.hid (((Held.refl w).own [.slice A s.length n, .slice B c.length m, .int .i64 f, .bool x] 30 (n := 4) rfl).own [.slice none 0 0, .slice none 0 0, .int .i64 0, .bool false] 30 (n := 4) rfl)
  have BD0 := Lib.hid ((Box.new w [.slice A s.length n, .slice B c.length m, .int .i64 f, .bool x] 30).alloc (.cells #[.slice none 0 0, .slice none 0 0, .int .i64 0, .bool false] 30))
  have BR0 := Lib.hid (Box.new (w.alloc (.cells #[.slice A s.length n, .slice B c.length m, .int .i64 f, .bool x] 30)) [.slice none 0 0, .slice none 0 0, .int .i64 0, .bool false] 30)
  go_enter Tryz.func235, Tryz.ntmps235
  have kd := BD0.out.cell
  have fd := BD0.out.frozen
  have kr := BR0.out.cell
  have fr := BR0.out.frozen
  simp only [World.size_alloc] at kr fr
  go_wp2_with fail
  clear kd fd kr fr
  refine (HQ.out _).mono ?_
  rintro e w1 ⟨rfl, hb⟩
  have H1 := Lib.hid (H0.out.up hb)
  have BD1 := Lib.hid (BD0.out.below hb)
  have BR1 := Lib.hid (BR0.out.below hb)
  clear hb H0 BD0 BR0
  have kd := BD1.out.cell
  have fd := BD1.out.frozen
  have kr := BR1.out.cell
  have fr := BR1.out.frozen
  simp only [World.size_alloc] at kr fr
  go_wp2_with fail
  clear kd fd kr fr
  refine (HW.out _ H1.out.below).mono ?_
  rintro e w2 ⟨A1, B1, n1, m1, rfl, hm1, hb⟩
  have H2 := Lib.hid ((H1.out.up hb).lay [.slice A1 s1.length n1, .slice B1 c1.length m1, .int .i64 f1, .bool x1] 30)
  have BR2 := Lib.hid ((BR1.out.below hb).alloc (.cells #[.slice A1 s1.length n1, .slice B1 c1.length m1, .int .i64 f1, .bool x1] 30))
  have HM1 := Lib.hid (hm1.up (below1 (o := .cells #[.slice A1 s1.length n1, .slice B1 c1.length m1, .int .i64 f1, .bool x1] 30)))
  clear hb hm1 H1 BD1 BR1
  have kx := H2.out.b0.cell
  have kr := BR2.out.cell
  have fr := BR2.out.frozen
  simp only [World.size_alloc] at kr fr
  go_wp2_with fail
  refine bodyPost_ret (v := .tuple #[.agg #[.slice A1 s1.length n1, .slice B1 c1.length m1, .int .i64 f1, .bool x1], .int .i64 e1]) (by simp [results, Tryz.results235, go_sem, kr]) rfl ⟨A1, B1, n1, m1, rfl, ?_, ?_⟩
  · exact HM1.out.four (by simpa using BR2.out) _ _ _ _ _ _ _ _
  · exact (H2.out.set4 (b := w.heap.size + 1) ⟨4, by simp⟩ _ _ _ _).below
set_option maxRecDepth 100000 in
set_option maxHeartbeats 4000000 in
theorem raput_goes (A B : Option Addr) (n m : Nat) (s : List ByteArray) (c : List Wr) (f : Int) (x : Bool) (i : Int) (d : ByteArray) (w : World) (hi : i ≤ 1000000) (hi0 : 0 ≤ i) (hl : (s.length : Int) ≤ 1000000) (ht : thereB s.length i = true) (h8 : ((d.size : Int) != 8) = false) (s1 : List ByteArray) (c1 : List Wr) (f1 : Int) (x1 : Bool) (hw : ∀ v, Below w.heap.size w v → Calls Tryz.prog 252 #[.agg #[.slice A s.length n, .slice B c.length m, .int .i64 f, .bool x], .int .i64 (i + 2), .string d] v (GivesD s1 c1 f1 x1 0 v)) (s2 : List ByteArray) (c2 : List Wr) (f2 : Int) (x2 : Bool) (e3 : Int) (hg : ∀ (A1 B1 : Option Addr) (n1 m1 : Nat) (v : World), Mem v A1 n1 B1 m1 s1 c1 → Calls Tryz.prog 253 #[.agg #[.slice A1 s1.length n1, .slice B1 c1.length m1, .int .i64 f1, .bool x1]] v (GivesD s2 c2 f2 x2 e3 v)) :
    Calls Tryz.prog 235 #[.agg #[.slice A s.length n, .slice B c.length m, .int .i64 f, .bool x], .int .i64 i, .string d] w (GivesD s2 c2 f2 x2 e3 w) := by
  have hq := fun w => there_any A B s.length n c.length m f x i w hl
  rw [ht] at hq
  clear ht hl
  have HQ := Lib.hid hq; clear hq
  have HW := Lib.hid hw; clear hw
  have HG := Lib.hid hg; clear hg
  have H0 := Lib.hid (((Held.refl w).own [.slice A s.length n, .slice B c.length m, .int .i64 f, .bool x] 30 (n := 4) rfl).own [.slice none 0 0, .slice none 0 0, .int .i64 0, .bool false] 30 (n := 4) rfl)
  have BD0 := Lib.hid ((Box.new w [.slice A s.length n, .slice B c.length m, .int .i64 f, .bool x] 30).alloc (.cells #[.slice none 0 0, .slice none 0 0, .int .i64 0, .bool false] 30))
  have BR0 := Lib.hid (Box.new (w.alloc (.cells #[.slice A s.length n, .slice B c.length m, .int .i64 f, .bool x] 30)) [.slice none 0 0, .slice none 0 0, .int .i64 0, .bool false] 30)
  go_enter Tryz.func235, Tryz.ntmps235
  have kd := BD0.out.cell
  have fd := BD0.out.frozen
  have kr := BR0.out.cell
  have fr := BR0.out.frozen
  simp only [World.size_alloc] at kr fr
  go_wp2_with fail
  clear kd fd kr fr
  refine (HQ.out _).mono ?_
  rintro e w1 ⟨rfl, hb⟩
  have H1 := Lib.hid (H0.out.up hb)
  have BD1 := Lib.hid (BD0.out.below hb)
  have BR1 := Lib.hid (BR0.out.below hb)
  clear hb H0 BD0 BR0
  have kd := BD1.out.cell
  have fd := BD1.out.frozen
  have kr := BR1.out.cell
  have fr := BR1.out.frozen
  simp only [World.size_alloc] at kr fr
  go_wp2_with fail
  clear kd fd kr fr
  refine (HW.out _ H1.out.below).mono ?_
  rintro e w2 ⟨A1, B1, n1, m1, rfl, hm1, hb⟩
  have H2 := Lib.hid ((H1.out.up hb).lay [.slice A1 s1.length n1, .slice B1 c1.length m1, .int .i64 f1, .bool x1] 30)
  have BR2 := Lib.hid ((BR1.out.below hb).alloc (.cells #[.slice A1 s1.length n1, .slice B1 c1.length m1, .int .i64 f1, .bool x1] 30))
  have HM1 := Lib.hid (hm1.up (below1 (o := .cells #[.slice A1 s1.length n1, .slice B1 c1.length m1, .int .i64 f1, .bool x1] 30)))
  clear hb hm1 H1 BD1 BR1
  have kx := H2.out.b0.cell
  have kr := BR2.out.cell
  have fr := BR2.out.frozen
  simp only [World.size_alloc] at kr fr
  go_wp2_with fail
  clear kx kr fr
  have H5 := H2; have BR5 := BR2; have HM2 := HM1
  clear H2 BR2 HM1
  refine (HG.out A1 B1 n1 m1 _ HM2.out).mono ?_
  rintro e w5 ⟨A2, B2, n2, m2, rfl, hm5, hb⟩
  have H6 := Lib.hid (H5.out.up hb)
  have BR6 := Lib.hid (BR5.out.below hb)
  have HM5 := Lib.hid hm5
  clear hb hm5 H5 BR5 HM2
  have kr := BR6.out.cell
  have fr := BR6.out.frozen
  simp only [World.size_alloc] at kr fr
  go_wp2_with fail
  refine bodyPost_ret (v := .tuple #[.agg #[.slice A2 s2.length n2, .slice B2 c2.length m2, .int .i64 f2, .bool x2], .int .i64 e3]) (by simp [results, Tryz.results235, go_sem, kr]) rfl ⟨A2, B2, n2, m2, rfl, ?_, ?_⟩
  · exact HM5.out.four (by simpa using BR6.out) _ _ _ _ _ _ _ _
  · exact (H6.out.set4 (b := w.heap.size + 1) ⟨4, by simp⟩ _ _ _ _).below
end Go.Proofs.YtkjikigimmchlaaGreatDoor
namespace Go.Proofs.YtkjikigimmchlaaGreatDoor
open Go.RowKit
def goL (rd : Nat → ByteArray × Int) (N : Nat) : List ByteArray × Int :=
  match (List.range N).find? (fun k => (rd k).2 != 0) with
  | some k => ([], (rd k).2)
  | none => ((List.range N).map (fun k => (rd k).1), 0)
theorem goL_stop {rd : Nat → ByteArray × Int} {N k : Nat} (hk : k < N) (h : ∀ j, j < k → (rd j).2 = 0) (h1 : (rd k).2 ≠ 0) : goL rd N = ([], (rd k).2) := by
  have : (List.range N).find? (fun k => (rd k).2 != 0) = some k := by
    rw [List.find?_range_eq_some]
    refine ⟨by simpa using h1, by simpa using hk, fun j hj => by simp [h j hj]⟩
  unfold goL
  rw [this]
theorem goL_all {rd : Nat → ByteArray × Int} {N : Nat} (h : ∀ j, j < N → (rd j).2 = 0) : goL rd N = ((List.range N).map (fun k => (rd k).1), 0) := by
  have : (List.range N).find? (fun k => (rd k).2 != 0) = none := by
    rw [List.find?_range_eq_none]
    exact fun j hj => by simp [h j hj]
  unfold goL
  rw [this]
theorem range_snoc (rd : Nat → ByteArray × Int) (k : Nat) : (List.range (k + 1)).map (fun k => (rd k).1) = (List.range k).map (fun k => (rd k).1) ++ [(rd k).1] := by
  rw [List.range_succ, List.map_append]; rfl
theorem zero_step {rd : Nat → ByteArray × Int} {k : Nat} (h : ∀ j, j < k → (rd j).2 = 0) (h1 : (rd k).2 = 0) : ∀ j, j < k + 1 → (rd j).2 = 0 := by
  intro j hj
  by_cases e : j = k
  · rw [e]; exact h1
  · exact h j (by omega)
def GivesT (l : List ByteArray) (r : Int) (w : World) (e : Ending) (w' : World) : Prop :=
  ∃ (A : Option Addr) (n : Nat), e = .returned (.tuple #[.slice A l.length n, .int .i64 r]) ∧ Es Value.string w' w'.heap.size A l ∧ Below w.heap.size w w'
theorem gives_none {r : Int} {w w' : World} (h : Below w.heap.size w w') : GivesT [] r w (.returned (.tuple #[.slice none 0 0, .int .i64 r])) w' := ⟨none, 0, rfl, es_nil _ _ _ _, h⟩
set_option maxRecDepth 100000 in
set_option maxHeartbeats 4000000 in
theorem raall_go (A B : Option Addr) (n m : Nat) (s : List ByteArray) (c : List Wr) (f : Int) (x : Bool) (w : World) (hl : (s.length : Int) ≤ 1000000) (rd : Nat → ByteArray × Int)
    (hr : ∀ (k : Nat) (v : World), Below w.heap.size w v → Calls Tryz.prog 192 #[.agg #[.slice A s.length n, .slice B c.length m, .int .i64 f, .bool x], .int .i64 (k : Nat)] v fun e v' => e = .returned (.tuple #[.string (rd k).1, .int .i64 (rd k).2]) ∧ Below v.heap.size v v') :
    Calls Tryz.prog 132 #[.agg #[.slice A s.length n, .slice B c.length m, .int .i64 f, .bool x]] w (GivesT (goL rd (s.length - 2)).1 (goL rd (s.length - 2)).2 w) := by
  obtain ⟨N, hN⟩ : ∃ N, s.length - 2 = N := ⟨_, rfl⟩
  rw [hN]
  have hst := fun k => @goL_stop rd N k
  have hal := @goL_all rd N
  generalize goL rd N = g at *
  have HST := Lib.hid hst; clear hst
  have HAL := Lib.hid hal; clear hal
  have HR := Lib.hid hr; clear hr
  have H1 := Lib.hid ((Held.refl w).lay [.slice A s.length n, .slice B c.length m, .int .i64 f, .bool x] 30)
  go_enter Tryz.func132, Tryz.ntmps132
  go_wp2_with fail
  generalize w.alloc (.cells #[.slice A s.length n, .slice B c.length m, .int .i64 f, .bool x] 30) = w1 at *
  go_loopw [4, 5] (fun v j wr => ∃ k : Nat, k ≤ N ∧ j = .int .i64 k ∧ Hid (wr.ownsRow w1.heap.size 9 1 v ((List.range k).map (fun k => (rd k).1)).length (((List.range k).map (fun k => (rd k).1)).map Value.string)) ∧ Hid (∀ j, j < k → (rd j).2 = 0) ∧ Hid (Held w [(w.heap.size, [.slice A s.length n, .slice B c.length m, .int .i64 f, .bool x])] [] wr) ∧ Hid (Below w1.heap.size w1 wr)) (fun _ j _ => N - (intOf j).toNat)
  case atStart => exact ⟨0, by omega, rfl, World.ownsRow_nil _ _ _ _, fun j hj => absurd hj (by omega), H1.out, Below.refl _ _⟩
  case round =>
    obtain ⟨k, hk, rfl, HO, HZ, HH, HB⟩ := hrel
    have k1 := HH.out.b0.cell
    by_cases hlt : k < N
    · have hle : ((List.range k).map (fun k => (rd k).1)).length ≤ 999998 := by rw [List.length_map, List.length_range]; omega
      have HLE := Lib.hid hle; clear hle
      have HS := Lib.hid (range_snoc rd k)
      have hrk := HR.out k
      have hstk := fun h => HST.out k hlt (HZ.out) h
      have hzk := fun h => zero_step HZ.out h
      have HRK := Lib.hid hrk; clear hrk
      have HSK := Lib.hid hstk; clear hstk
      have HZK := Lib.hid hzk; clear hzk
      generalize (List.range k).map (fun k => (rd k).1) = l at *
      generalize rd k = q at *
      obtain ⟨t, e1⟩ := q
      dsimp only at *
      by_cases h1 : e1 = 0
      · subst h1
        go_wp2_with fail
        refine (HRK.out _ HH.out.below).mono ?_
        rintro e w3 ⟨rfl, hb3⟩
        go_wp2_with (at_builtin; refine app_strs rfl _ _ rfl _ w1.heap.size ?c1 _ l rfl ?c2 (some ⟨w3.heap.size, 0, none⟩) 1 [t] ?c3 rfl ?c4 ?c5 ?_)
        case c1 => have := HB.out.size; have := hb3.size; simp; omega
        case c2 => exact (own_up HO.out hb3).alloc _
        case c3 => intro q; cases q
        case c4 => exact es_one w3 t
        case c5 => have := HLE.out; simp; omega
        intro v' w4 hown hgrow
        replace hown : w4.ownsRow w1.heap.size 9 1 v' (l ++ [t]).length ((l ++ [t]).map Value.string) := by simpa using hown
        rw [← HS.out] at hown
        have hlow : ∀ g, _ = some g → w1.heap.size ≤ g := own_low HO.out
        have hb4 := ((HB.out.trans (hb3.mono HB.out.size)).alloc (by have := HB.out.size; have := hb3.size; omega) (.cells #[.string t] 9)).grown hgrow (by have := HB.out.size; have := hb3.size; simp; omega) (own_low HO.out)
        have hh4 := H1.out.up hb4
        have HO' := Lib.hid hown; clear hown
        have HB' := Lib.hid hb4; clear hb4
        have HH' := Lib.hid hh4; clear hh4
        clear hgrow hb3 hlow k1
        go_wp2
        go_roundw
        case rel => exact ⟨k + 1, by omega, by go_num, HO'.out, HZK.out (by trivial), HH'.out, HB'.out⟩
        case measure => simp [intOf]; omega
      · have hnb : ((e1 : Int) != 0) = true := by simp [bne, beq_eq_false_iff_ne.2 h1]
        have hne : ((e1 : Int) == 0) = false := beq_eq_false_iff_ne.2 h1
        have hg := HSK.out h1
        clear h1
        have HG := Lib.hid hg; clear hg
        go_wp2_with fail
        refine (HRK.out _ HH.out.below).mono ?_
        rintro e w3 ⟨rfl, hb3⟩
        have hz := ext HH.out.below hb3
        have HZ3 := Lib.hid hz; clear hz hb3 k1
        go_wp2_with fail
        go_ret2
        rw [HG.out]
        exact gives_none HZ3.out
    · obtain rfl : k = N := by omega
      have hown := HO.out
      obtain ⟨A', cap, rfl, _, hes⟩ := own_es hown
      have hg := HAL.out HZ.out
      have HG := Lib.hid hg; clear hg hown HO
      have HE := Lib.hid hes; clear hes
      generalize (List.range k).map (fun k => (rd k).1) = l at *
      go_wp2_with fail
      go_ret2
      rw [HG.out]
      exact ⟨A', cap, rfl, HE.out, HH.out.below⟩
end Go.Proofs.YtkjikigimmchlaaGreatDoor
namespace Go.Proofs.YtkjikigimmchlaaGreatDoor
open Go.RowKit
def blockA (s : List ByteArray) (c : List Wr) (i : Int) : ByteArray := holdsL c (i + 2) (s.getD (i.toNat + 2) e0)
def readA (s : List ByteArray) (c : List Wr) (x : Bool) (i : Int) : ByteArray × Int :=
  if thereB s.length i = true then (if x = true then (e0, 6) else if (blockA s c i).size = 8 then (blockA s c i, 0) else (e0, 2)) else (e0, 4)
def putA (s : List ByteArray) (c : List Wr) (f : Int) (x : Bool) (i : Int) (d : ByteArray) : Ans :=
  if thereB s.length i = true then (if d.size = 8 then (if x = true then ⟨s, c, f, true, 6⟩ else if f = 1 then ⟨s, c, 0, true, 6⟩ else if f = 2 then ⟨s, c ++ [(i + 2, d)], 0, true, 6⟩ else ⟨layL s (c ++ [(i + 2, d)]), [], burnF (burnF f), false, 0⟩) else ⟨s, c, f, x, 5⟩) else ⟨s, c, f, x, 4⟩
def allA (s : List ByteArray) (c : List Wr) (x : Bool) : List ByteArray × Int := goL (fun k => readA s c x (k : Nat)) (s.length - 2)
theorem eight_yes {d : ByteArray} (h : d.size = 8) : ((d.size : Int) == 8) = true := by rw [h]; rfl
theorem eight_yes' {d : ByteArray} (h : d.size = 8) : ((d.size : Int) != 8) = false := by rw [h]; rfl
theorem eight_no {d : ByteArray} (h : d.size ≠ 8) : ((d.size : Int) == 8) = false := by rw [beq_eq_false_iff_ne]; omega
theorem eight_no' {d : ByteArray} (h : d.size ≠ 8) : ((d.size : Int) != 8) = true := by simp only [bne, eight_no h, Bool.not_false]
theorem getD_some {s : List ByteArray} {i : Nat} (h : i < s.length) : s[i]? = some (s.getD i e0) := by
  rw [List.getD_eq_getElem?_getD, List.getElem?_eq_getElem h]; rfl
set_option maxRecDepth 100000 in
theorem aread_any (A B : Option Addr) (n m : Nat) (s : List ByteArray) (c : List Wr) (f : Int) (x : Bool) (i : Int) (w : World) (hm : Mem w A n B m s c) (hl : s.length ≤ 64) (hc : c.length ≤ 1000) :
    Calls Tryz.prog 122 #[.agg #[.slice A s.length n, .slice B c.length m, .int .i64 f, .bool x], .int .i64 i] w fun e w' => e = .returned (.tuple #[.string (readA s c x i).1, .int .i64 (readA s c x i).2]) ∧ Below w.heap.size w w' := by
  unfold readA
  cases ht : thereB s.length i with
  | false =>
    rw [if_neg (by simp)]
    exact aread_out A B n m s c f x i w (by omega) ht
  | true =>
    rw [if_pos rfl]
    obtain ⟨h0, h1⟩ := there_yes ht
    cases x with
    | true =>
      rw [if_pos rfl]
      exact aread_stops A B n m s c f true i w (by omega) h0 (by omega) ht ⟨#[]⟩ 6 (fun v _ => read_stops A B n m s c f (i + 2) true v (by rw [reach_dead]; decide)) (by decide)
    | false =>
      rw [if_neg (by simp)]
      unfold blockA
      obtain ⟨k, rfl⟩ : ∃ k : Nat, i = (k : Int) := ⟨i.toNat, by omega⟩
      have hk : k + 2 < s.length := by omega
      have hr : ∀ v, Below w.heap.size w v → Calls Tryz.prog 184 #[.agg #[.slice A s.length n, .slice B c.length m, .int .i64 f, .bool false], .int .i64 ((k : Int) + 2)] v fun e v' => e = .returned (.tuple #[.string (holdsL c ((k : Int) + 2) (s.getD (k + 2) e0)), .int .i64 0]) ∧ Below v.heap.size v v' :=
        fun v hb => read_any A B n m s c f (k + 2) _ v (hm.up hb) (getD_some hk) (by omega)
      rw [Int.toNat_natCast]
      generalize holdsL c ((k : Int) + 2) (s.getD (k + 2) e0) = y at *
      by_cases h8 : y.size = 8
      · rw [if_pos h8]
        exact aread_yes A B n m s c f false k w (by omega) h0 (by omega) ht y hr (eight_yes h8)
      · rw [if_neg h8]
        exact aread_form A B n m s c f false k w (by omega) h0 (by omega) ht y hr (eight_no h8)
set_option maxRecDepth 100000 in
theorem aput_any (A B : Option Addr) (n m : Nat) (s : List ByteArray) (c : List Wr) (f : Int) (x : Bool) (i : Int) (d : ByteArray) (w : World) (hm : Mem w A n B m s c) (hl : s.length ≤ 64) (hc : c.length ≤ 900) (hf : f < 9223372036854775808) (hx : c.any (misfitW s.length) = false) :
    Calls Tryz.prog 186 #[.agg #[.slice A s.length n, .slice B c.length m, .int .i64 f, .bool x], .int .i64 i, .string d] w (GivesD (putA s c f x i d).s (putA s c f x i d).c (putA s c f x i d).f (putA s c f x i d).x (putA s c f x i d).e w) := by
  unfold putA
  cases ht : thereB s.length i with
  | false =>
    rw [if_neg (by simp)]
    exact aput_range A B n m s c f x i d w hm (by omega) ht
  | true =>
    rw [if_pos rfl]
    obtain ⟨h0, h1⟩ := there_yes ht
    by_cases h8 : d.size = 8
    rotate_left
    · rw [if_neg h8]
      exact aput_long A B n m s c f x i d w hm (by omega) ht (eight_no h8)
    have hz : ¬ 64 < (d.size : Int) := by rw [h8]; decide
    have hrf : reachE s.length (i + 2) false = 0 := reach_in (by omega) (by omega)
    rw [if_pos h8]
    cases x with
    | true =>
      rw [if_pos rfl]
      exact aput_stops A B n m s c f true i d w (by omega) h0 (by omega) ht (eight_yes h8) s c f true 6 (fun v hb => write_stops A B n m s c f (i + 2) true d v (hm.up hb) (by rw [reach_dead]; decide)) (by decide)
    | false =>
      rw [if_neg (by simp)]
      by_cases hf1 : f = 1
      · subst hf1
        rw [if_pos rfl]
        exact aput_stops A B n m s c 1 false i d w (by omega) h0 (by omega) ht (eight_yes h8) s c 0 true 6 (fun v hb => write_dies A B n m s c 1 (i + 2) false d v (hm.up hb) hrf hz (by decide) rfl) (by decide)
      · rw [if_neg hf1]
        have hbd : burnD f false = false := by unfold burnD; rw [if_neg hf1]
        have hw := fun v (hb : Below w.heap.size w v) => write_any A B n m s c f (i + 2) false d v (hm.up hb) hrf hz hf hbd (by omega)
        have hx2 := fit_add (i := i + 2) (b := d) (by omega) (by omega) hx (by omega)
        have hlen : (c ++ [((i + 2 : Int), d)]).length ≤ 1000 := by rw [List.length_append]; simp; omega
        generalize c ++ [((i + 2 : Int), d)] = z at *
        by_cases hf2 : f = 2
        · subst hf2
          rw [if_pos rfl]
          refine aput_goes A B n m s c 2 false i d w (by omega) h0 (by omega) ht (eight_yes h8) s z 1 false hw s z 0 true 6 (fun A1 B1 n1 m1 v hv => ?_)
          refine (flush_dies A1 B1 s.length n1 z.length m1 v).mono ?_
          rintro e v' ⟨rfl, hb⟩
          exact ⟨A1, B1, n1, m1, rfl, hv.up hb, hb⟩
        · rw [if_neg hf2]
          have hb1 : burnF f ≠ 1 := by unfold burnF; split <;> (try split) <;> omega
          have hb2 : burnF f < 9223372036854775808 := by unfold burnF; split <;> (try split) <;> omega
          exact aput_goes A B n m s c f false i d w (by omega) h0 (by omega) ht (eight_yes h8) s z (burnF f) false hw (layL s z) [] (burnF (burnF f)) false 0 (fun A1 B1 n1 m1 v hv =>
            flush_any A1 B1 n1 m1 s z (burnF f) v hv hl (by unfold maxLen; omega) hb2 hb1 hx2)
set_option maxRecDepth 100000 in
theorem raread_any (A B : Option Addr) (n m : Nat) (s : List ByteArray) (c : List Wr) (f : Int) (x : Bool) (i : Int) (w : World) (hm : Mem w A n B m s c) (hl : s.length ≤ 64) (hc : c.length ≤ 1000) :
    Calls Tryz.prog 192 #[.agg #[.slice A s.length n, .slice B c.length m, .int .i64 f, .bool x], .int .i64 i] w fun e w' => e = .returned (.tuple #[.string (readA s c x i).1, .int .i64 (readA s c x i).2]) ∧ Below w.heap.size w w' := by
  unfold readA
  cases ht : thereB s.length i with
  | false =>
    rw [if_neg (by simp)]
    exact raread_out A B n m s c f x i w (by omega) ht
  | true =>
    rw [if_pos rfl]
    obtain ⟨h0, h1⟩ := there_yes ht
    cases x with
    | true =>
      rw [if_pos rfl]
      exact raread_stops A B n m s c f true i w (by omega) h0 (by omega) ht ⟨#[]⟩ 6 (fun v _ => rread_stops A B n m s c f (i + 2) true v (by rw [reach_dead]; decide)) (by decide)
    | false =>
      rw [if_neg (by simp)]
      unfold blockA
      obtain ⟨k, rfl⟩ : ∃ k : Nat, i = (k : Int) := ⟨i.toNat, by omega⟩
      have hk : k + 2 < s.length := by omega
      have hr : ∀ v, Below w.heap.size w v → Calls Tryz.prog 189 #[.agg #[.slice A s.length n, .slice B c.length m, .int .i64 f, .bool false], .int .i64 ((k : Int) + 2)] v fun e v' => e = .returned (.tuple #[.string (holdsL c ((k : Int) + 2) (s.getD (k + 2) e0)), .int .i64 0]) ∧ Below v.heap.size v v' :=
        fun v hb => rread_any A B n m s c f (k + 2) _ v (hm.up hb) (getD_some hk) (by unfold maxLen; omega)
      rw [Int.toNat_natCast]
      generalize holdsL c ((k : Int) + 2) (s.getD (k + 2) e0) = y at *
      by_cases h8 : y.size = 8
      · rw [if_pos h8]
        exact raread_yes A B n m s c f false k w (by omega) h0 (by omega) ht y hr (eight_yes' h8)
      · rw [if_neg h8]
        exact raread_form A B n m s c f false k w (by omega) h0 (by omega) ht y hr (eight_no' h8)
set_option maxRecDepth 100000 in
theorem raput_any (A B : Option Addr) (n m : Nat) (s : List ByteArray) (c : List Wr) (f : Int) (x : Bool) (i : Int) (d : ByteArray) (w : World) (hm : Mem w A n B m s c) (hl : s.length ≤ 64) (hc : c.length ≤ 900) (hf : f < 9223372036854775808) (hx : c.any (misfitW s.length) = false) :
    Calls Tryz.prog 235 #[.agg #[.slice A s.length n, .slice B c.length m, .int .i64 f, .bool x], .int .i64 i, .string d] w (GivesD (putA s c f x i d).s (putA s c f x i d).c (putA s c f x i d).f (putA s c f x i d).x (putA s c f x i d).e w) := by
  unfold putA
  cases ht : thereB s.length i with
  | false =>
    rw [if_neg (by simp)]
    exact raput_range A B n m s c f x i d w hm (by omega) ht
  | true =>
    rw [if_pos rfl]
    obtain ⟨h0, h1⟩ := there_yes ht
    by_cases h8 : d.size = 8
    rotate_left
    · rw [if_neg h8]
      exact raput_long A B n m s c f x i d w hm (by omega) ht (eight_no' h8)
    have hz : ¬ 64 < (d.size : Int) := by rw [h8]; decide
    have hrf : reachE s.length (i + 2) false = 0 := reach_in (by omega) (by omega)
    rw [if_pos h8]
    cases x with
    | true =>
      rw [if_pos rfl]
      exact raput_stops A B n m s c f true i d w (by omega) h0 (by omega) ht (eight_yes' h8) s c f true 6 (fun v hb => rwrite_stops A B n m s c f (i + 2) true d v (hm.up hb) (by rw [reach_dead]; decide)) (by decide)
    | false =>
      rw [if_neg (by simp)]
      by_cases hf1 : f = 1
      · subst hf1
        rw [if_pos rfl]
        exact raput_stops A B n m s c 1 false i d w (by omega) h0 (by omega) ht (eight_yes' h8) s c 0 true 6 (fun v hb => rwrite_dies A B n m s c 1 (i + 2) false d v (hm.up hb) hrf hz (by decide) rfl) (by decide)
      · rw [if_neg hf1]
        have hbd : burnD f false = false := by unfold burnD; rw [if_neg hf1]
        have hw := fun v (hb : Below w.heap.size w v) => rwrite_any A B n m s c f (i + 2) false d v (hm.up hb) hrf hz hf hbd (by omega)
        have hx2 := fit_add (i := i + 2) (b := d) (by omega) (by omega) hx (by omega)
        have hlen : (c ++ [((i + 2 : Int), d)]).length ≤ 1000 := by rw [List.length_append]; simp; omega
        generalize c ++ [((i + 2 : Int), d)] = z at *
        by_cases hf2 : f = 2
        · subst hf2
          rw [if_pos rfl]
          refine raput_goes A B n m s c 2 false i d w (by omega) h0 (by omega) ht (eight_yes' h8) s z 1 false hw s z 0 true 6 (fun A1 B1 n1 m1 v hv => ?_)
          refine (rflush_dies A1 B1 s.length n1 z.length m1 v).mono ?_
          rintro e v' ⟨rfl, hb⟩
          exact ⟨A1, B1, n1, m1, rfl, hv.up hb, hb⟩
        · rw [if_neg hf2]
          have hb1 : burnF f ≠ 1 := by unfold burnF; split <;> (try split) <;> omega
          have hb2 : burnF f < 9223372036854775808 := by unfold burnF; split <;> (try split) <;> omega
          exact raput_goes A B n m s c f false i d w (by omega) h0 (by omega) ht (eight_yes' h8) s z (burnF f) false hw (layL s z) [] (burnF (burnF f)) false 0 (fun A1 B1 n1 m1 v hv =>
            rflush_any A1 B1 n1 m1 s z (burnF f) v hv hl (by unfold maxLen; omega) hb2 hb1 hx2)
theorem raall_any (A B : Option Addr) (n m : Nat) (s : List ByteArray) (c : List Wr) (f : Int) (x : Bool) (w : World) (hm : Mem w A n B m s c) (hl : s.length ≤ 64) (hc : c.length ≤ 1000) :
    Calls Tryz.prog 132 #[.agg #[.slice A s.length n, .slice B c.length m, .int .i64 f, .bool x]] w (GivesT (allA s c x).1 (allA s c x).2 w) :=
  raall_go A B n m s c f x w (by omega) (fun k => readA s c x (k : Nat)) fun k v hb => raread_any A B n m s c f x (k : Nat) v (hm.up hb) hl hc
end Go.Proofs.YtkjikigimmchlaaGreatDoor
namespace Go.Proofs.YtkjikigimmchlaaGreatDoor
open Go.RowKit
def fmtL (b y : ByteArray) (k : Nat) : List ByteArray := b :: y :: List.replicate k z8
theorem fmt_length (b y : ByteArray) (k : Nat) : (fmtL b y k).length = k + 2 := by simp [fmtL]
theorem fmt_snoc (b y : ByteArray) (k : Nat) : (fmtL b y (k + 1)).map Value.string = (fmtL b y k).map Value.string ++ [.string z8] := by
  unfold fmtL
  rw [List.replicate_succ']
  simp
set_option maxRecDepth 100000 in
set_option maxHeartbeats 4000000 in
theorem rfmt_no (k g e1 : Int) (w : World) (y : ByteArray) (h1 : e1 ≠ 0) (hq : ∀ v, Calls Tryz.prog 83 #[supV ⟨k, g, 0, 0, 0, false, false, false⟩] v fun e v' => e = .returned (.tuple #[.string y, .int .i64 e1]) ∧ Below v.heap.size v v') :
    Calls Tryz.prog 51 #[.int .i64 k, .int .u64 g] w (GivesD [] [] 0 false e1 w) := by
  have hnb : ((e1 : Int) != 0) = true := by simp [bne, beq_eq_false_iff_ne.2 h1]
  have hne : ((e1 : Int) == 0) = false := beq_eq_false_iff_ne.2 h1
  clear h1
  have HQ := Lib.hid hq; clear hq
  have H0 := Lib.hid ((Held.refl w).own [.slice none 0 0, .slice none 0 0, .int .i64 0, .bool false] 30 (n := 4) rfl)
  have BR0 := Lib.hid (Box.new w [.slice none 0 0, .slice none 0 0, .int .i64 0, .bool false] 30)
  go_enter Tryz.func51, Tryz.ntmps51
  go_wp2_with fail
  refine (HQ.out _).mono ?_
  rintro e w1 ⟨rfl, hb⟩
  have H1 := Lib.hid (H0.out.up hb)
  have BR1 := Lib.hid (BR0.out.below hb)
  clear hb H0 BR0
  have kr := BR1.out.cell
  have fr := BR1.out.frozen
  go_wp2_with fail
  refine bodyPost_ret (v := .tuple #[.agg #[.slice none 0 0, .slice none 0 0, .int .i64 0, .bool false], .int .i64 e1]) (by simp [results, Tryz.results51, go_sem, kr]) rfl ⟨none, none, 0, 0, rfl, mem_nil _, ?_⟩
  exact (H1.out.set4 (b := w.heap.size) ⟨4, by simp⟩ _ _ _ _).below
set_option maxRecDepth 100000 in
set_option maxHeartbeats 8000000 in
theorem rfmt_go (N : Nat) (g : Int) (w : World) (hN : N ≤ 1000) (b t y : ByteArray)
    (hq : ∀ v, Calls Tryz.prog 83 #[supV ⟨(N : Nat), g, 0, 0, 0, false, false, false⟩] v fun e v' => e = .returned (.tuple #[.string b, .int .i64 0]) ∧ Below v.heap.size v v')
    (hp : ∀ v, Calls Tryz.prog 84 #[.int .u32 0] v fun e v' => e = .returned (.string t) ∧ Below v.heap.size v v')
    (hs : ∀ v, Calls Tryz.prog 54 #[.string t] v fun e v' => e = .returned (.string y) ∧ Below v.heap.size v v') :
    Calls Tryz.prog 51 #[.int .i64 (N : Nat), .int .u64 g] w (GivesD (fmtL b y N) [] 0 false 0 w) := by
  have HE := Lib.hid hq; clear hq
  have HP := Lib.hid hp; clear hp
  have HS := Lib.hid hs; clear hs
  have H0 := Lib.hid ((Held.refl w).own [.slice none 0 0, .slice none 0 0, .int .i64 0, .bool false] 30 (n := 4) rfl)
  have BR0 := Lib.hid (Box.new w [.slice none 0 0, .slice none 0 0, .int .i64 0, .bool false] 30)
  go_enter Tryz.func51, Tryz.ntmps51
  go_wp2_with fail
  refine (HE.out _).mono ?_
  rintro e w1 ⟨rfl, hb⟩
  have H1 := Lib.hid (H0.out.up hb)
  have BR1 := Lib.hid (BR0.out.below hb)
  clear hb H0 BR0 HE
  go_wp2_with fail
  refine (HP.out _).mono ?_
  rintro e w2 ⟨rfl, hb⟩
  have H2 := Lib.hid (H1.out.up hb)
  have BR2 := Lib.hid (BR1.out.below hb)
  clear hb H1 BR1 HP
  go_wp2_with fail
  refine (HS.out _).mono ?_
  rintro e w3 ⟨rfl, hb⟩
  have H3 := Lib.hid (H2.out.up hb)
  have BR3 := Lib.hid (BR2.out.below hb)
  clear hb H2 BR2 HS
  have HQ := Lib.hid BR3.out.lt
  obtain ⟨q, hq⟩ : ∃ q, w3.heap.size = q := ⟨_, rfl⟩
  rw [hq] at HQ
  have H4 := Lib.hid ((H3.out.alloc (.cells #[.string b, .string y] 9)).own [.slice (some ⟨w3.heap.size, 0, none⟩) 2 2, .slice none 0 0, .int .i64 0, .bool false] 30 (n := 4) rfl)
  have BD4 := Lib.hid (Box.new (w3.alloc (.cells #[.string b, .string y] 9)) [.slice (some ⟨w3.heap.size, 0, none⟩) 2 2, .slice none 0 0, .int .i64 0, .bool false] 30)
  have BR4 := Lib.hid ((BR3.out.alloc (.cells #[.string b, .string y] 9)).alloc (.cells #[.slice (some ⟨w3.heap.size, 0, none⟩) 2 2, .slice none 0 0, .int .i64 0, .bool false] 30))
  have HO4 := Lib.hid (own_up (own_two w3 b y) (below1 (o := .cells #[.slice (some ⟨w3.heap.size, 0, none⟩) 2 2, .slice none 0 0, .int .i64 0, .bool false] 30)))
  simp only [World.size_alloc, hq] at H4 BD4 BR4 HO4
  obtain ⟨p, hpq⟩ : ∃ p, q + 1 = p := ⟨_, rfl⟩
  rw [hpq] at H4 BD4
  clear H3 BR3
  go_wp2_with fail
  have HPQ := Lib.hid hpq
  clear hpq hq
  go_loopw [9] (fun j wr => ∃ (k : Nat) (A : Option Addr) (n : Nat), k ≤ N ∧ j = .int .i64 k ∧ Hid (wr.ownsRow q 9 1 (.slice A (k + 2) n) (k + 2) ((fmtL b y k).map Value.string)) ∧ Hid (Held w [] [(p, 4), (w.heap.size, 4)] wr) ∧ Hid (Box wr p [.slice A (k + 2) n, .slice none 0 0, .int .i64 0, .bool false]) ∧ Hid (Box wr w.heap.size [.slice none 0 0, .slice none 0 0, .int .i64 0, .bool false])) (fun j _ => N - (intOf j).toNat)
  case atStart => exact ⟨0, some ⟨q, 0, none⟩, 2, by omega, rfl, HO4.out, H4.out, BD4.out, BR4.out⟩
  case round =>
    obtain ⟨k, A, n, hk, rfl, HO1, H1, BD1, BR1⟩ := hrel
    clear HO4 H4 BD4 BR4
    by_cases hlt : k < N
    · go_upto_region 8 with fail
      refine held_start (S := fun v => Held w [] [(p, 4), (w.heap.size, 4)] v) (by kernel_rfl) H1.out.drew (fun v0 hv hH => ?_)
      have HO2 := Lib.hid (own_up HO1.out hv)
      have H2 := Lib.hid hH
      have BD2 := Lib.hid (BD1.out.below hv)
      have BR2 := Lib.hid (BR1.out.below hv)
      clear hv hH HO1 H1 BD1 BR1
      refine wpAnyH_take (i := 0) (v := ?_) rfl (by kernel_rfl) (by kernel_rfl) (by kernel_rfl) (fun _ _ _ h => h) (Or.inl ⟨by rfl, ?_⟩) H2.out ?_
      rotate_left
      · (intro v hSw; go_simp; try with_reducible rfl)
      simp only [Act.put, List.setIfInBounds_toArray, List.set_cons_zero, List.set_cons_succ, List.getElem_toArray, List.getElem_cons_zero]
      refine wpAnyH_ready (rs := [1, 2]) (by kernel_rfl) (by simp) ?_
      refine AllReadyH.cons rfl (fun K hK => ?_) (AllReadyH.cons rfl (fun K hK => ?_) AllReadyH.nil)
      · skip
        have kx := BD2.out.cell
        go_simp
        refine hK.out _ _ H2.out (fun _ => ?_)
        clear hK K
        clear kx
        try simp only [Act.put, List.setIfInBounds_toArray, List.set_cons_zero, List.set_cons_succ, List.getElem_toArray, List.getElem_cons_zero, List.getElem_cons_succ]
        refine wpAnyH_ready (rs := [2]) (by kernel_rfl) (by simp) ?_
        refine AllReadyH.cons rfl (fun K hK => ?_) AllReadyH.nil
        go_simp
        refine (nought_any _).mono ?_
        rintro e v1 ⟨rfl, hb⟩
        have HO3 := Lib.hid (own_up HO2.out hb)
        have H3 := Lib.hid (H2.out.up hb)
        have BD3 := Lib.hid (BD2.out.below hb)
        have BR3 := Lib.hid (BR2.out.below hb)
        go_wp2_with fail
        refine hK.out _ _ H3.out (fun _ => ?_)
        clear hK K hb
        try simp only [Act.put, List.setIfInBounds_toArray, List.set_cons_zero, List.set_cons_succ, List.getElem_toArray, List.getElem_cons_zero, List.getElem_cons_succ]
        refine wpAnyH_ready (rs := [3]) (by kernel_rfl) (by simp) ?_
        refine AllReadyH.cons rfl (fun K hK => ?_) AllReadyH.nil
        go_simp
        have HO4 := Lib.hid (own_up HO3.out (below1 (o := .cells #[.string z8] 9)))
        have H4 := Lib.hid (H3.out.alloc (.cells #[.string z8] 9))
        have BD4 := Lib.hid (BD3.out.alloc (.cells #[.string z8] 9))
        have BR4 := Lib.hid (BR3.out.alloc (.cells #[.string z8] 9))
        clear H3 BD3 BR3 HO3
        refine hK.out _ _ H4.out (fun _ => ?_)
        clear hK K
        try simp only [Act.put, List.setIfInBounds_toArray, List.set_cons_zero, List.set_cons_succ, List.getElem_toArray, List.getElem_cons_zero, List.getElem_cons_succ]
        refine wpAnyH_ready (rs := [4]) (by kernel_rfl) (by simp) ?_
        refine AllReadyH.cons rfl (fun K hK => ?_) AllReadyH.nil
        refine Eq.mpr (if_pos (by rfl)) ?_
        obtain ⟨i0, hi, hz0, hz1, hz2⟩ := info_parts info9
        refine wp_append_own _ (Operand.tmp 33) (Operand.tmp 35) 27 rfl q 9 i0 (.string ⟨#[]⟩) 1 16 Tryz.underlying27 hi hz0 hz1 hz2 rfl (by decide) _ (k + 2) ((fmtL b y k).map Value.string) rfl HO4.out ⟨v1.heap.size, 0, none⟩ 1 1 [.string z8] rfl rfl (cell_new1 v1 _ _) (fun u hu => by simp at hu; subst hu; rfl) (by unfold maxLen; omega) (by omega) (by have := HQ.out; have := HPQ.out; have := BR4.out.lt; have := BD4.out.lt; omega) (fun v' w' hown hgrow _ => ?_)
        clear hi hz0 hz1 hz2
        have hap := own_apart (xs := (y :: List.replicate k z8).map Value.string) HO4.out BD4.out
        have hlow := own_low HO4.out
        have H5 := Lib.hid (H4.out.grown hgrow (fun g e => by have := hlow g e; have := HQ.out; have := HPQ.out; omega) (by simp) (fun z hz e => by
          rcases List.mem_cons.1 hz with rfl | hz
          · exact hap _ e rfl
          · simp at hz
            subst hz
            have := hlow _ e
            have := HQ.out; have := HPQ.out
            try dsimp only at this
            omega))
        have BD5 := Lib.hid (BD4.out.grown hgrow (fun e => hap _ e rfl))
        have BR5 := Lib.hid (BR4.out.grown hgrow (fun e => by have := hlow _ e; have := HQ.out; have := HPQ.out; omega))
        have hown2 : w'.ownsRow q 9 1 v' (k + 1 + 2) ((fmtL b y (k + 1)).map Value.string) := by
          rw [fmt_snoc]
          exact hown
        obtain ⟨A5, n5, rfl, _, _⟩ := own_slice hown2
        have HO5 := Lib.hid hown2
        clear hown2 hown hgrow hap hlow H4 BD4 BR4 HO4
        refine hK.out _ _ H5.out (fun _ => ?_)
        clear hK K
        try simp only [Act.put, List.setIfInBounds_toArray, List.set_cons_zero, List.set_cons_succ, List.getElem_toArray, List.getElem_cons_zero, List.getElem_cons_succ]
        refine wpAnyH_take (i := 5) (v := ?_) rfl (by kernel_rfl) (by kernel_rfl) (by kernel_rfl) (fun _ _ _ h => h) (Or.inl ⟨by rfl, ?_⟩) H5.out ?_
        rotate_left
        · (intro v hSw; go_simp; try with_reducible rfl)
        simp only [Act.put, List.setIfInBounds_toArray, List.set_cons_zero, List.set_cons_succ, List.getElem_toArray, List.getElem_cons_zero, List.getElem_cons_succ]
        refine wpAnyH_ready (rs := [6]) (by kernel_rfl) (by simp) ?_
        refine AllReadyH.cons rfl (fun K hK => ?_) AllReadyH.nil
        have kx := BD5.out.cell
        have fx := BD5.out.frozen
        go_simp
        refine hK.out _ _ (H5.out.set1 (b := p) ⟨4, by simp⟩ _) (fun _ => ?_)
        clear hK K kx fx
        refine wpAnyH_done (by kernel_rfl) ?_ _
        have hap := own_apart (xs := (y :: List.replicate (k + 1) z8).map Value.string) HO5.out BD5.out
        have HA := Lib.hid hap
        clear hap
        go_wp2
        go_roundw
        case rel => exact ⟨k + 1, A5, n5, by omega, by go_num, own_set_other HO5.out HA.out _ _, H5.out.set1 (b := p) ⟨4, by simp⟩ _, BD5.out.set 0 _, BR5.out.other (p := ⟨p, 0, none⟩) (by have := HQ.out; have := HPQ.out; dsimp only; omega) _⟩
        case measure => simp [intOf]; omega
      · skip
        go_simp
        refine (nought_any _).mono ?_
        rintro e v1 ⟨rfl, hb⟩
        have HO3 := Lib.hid (own_up HO2.out hb)
        have H3 := Lib.hid (H2.out.up hb)
        have BD3 := Lib.hid (BD2.out.below hb)
        have BR3 := Lib.hid (BR2.out.below hb)
        go_wp2_with fail
        refine hK.out _ _ H3.out (fun _ => ?_)
        clear hK K hb
        try simp only [Act.put, List.setIfInBounds_toArray, List.set_cons_zero, List.set_cons_succ, List.getElem_toArray, List.getElem_cons_zero, List.getElem_cons_succ]
        refine wpAnyH_ready (rs := [1, 3]) (by kernel_rfl) (by simp) ?_
        refine AllReadyH.cons rfl (fun K hK => ?_) (AllReadyH.cons rfl (fun K hK => ?_) AllReadyH.nil)
        · skip
          have kx := BD3.out.cell
          go_simp
          refine hK.out _ _ H3.out (fun _ => ?_)
          clear hK K
          clear kx
          try simp only [Act.put, List.setIfInBounds_toArray, List.set_cons_zero, List.set_cons_succ, List.getElem_toArray, List.getElem_cons_zero, List.getElem_cons_succ]
          refine wpAnyH_ready (rs := [3]) (by kernel_rfl) (by simp) ?_
          refine AllReadyH.cons rfl (fun K hK => ?_) AllReadyH.nil
          go_simp
          have HO4 := Lib.hid (own_up HO3.out (below1 (o := .cells #[.string z8] 9)))
          have H4 := Lib.hid (H3.out.alloc (.cells #[.string z8] 9))
          have BD4 := Lib.hid (BD3.out.alloc (.cells #[.string z8] 9))
          have BR4 := Lib.hid (BR3.out.alloc (.cells #[.string z8] 9))
          clear H3 BD3 BR3 HO3
          refine hK.out _ _ H4.out (fun _ => ?_)
          clear hK K
          try simp only [Act.put, List.setIfInBounds_toArray, List.set_cons_zero, List.set_cons_succ, List.getElem_toArray, List.getElem_cons_zero, List.getElem_cons_succ]
          refine wpAnyH_ready (rs := [4]) (by kernel_rfl) (by simp) ?_
          refine AllReadyH.cons rfl (fun K hK => ?_) AllReadyH.nil
          refine Eq.mpr (if_pos (by rfl)) ?_
          obtain ⟨i0, hi, hz0, hz1, hz2⟩ := info_parts info9
          refine wp_append_own _ (Operand.tmp 33) (Operand.tmp 35) 27 rfl q 9 i0 (.string ⟨#[]⟩) 1 16 Tryz.underlying27 hi hz0 hz1 hz2 rfl (by decide) _ (k + 2) ((fmtL b y k).map Value.string) rfl HO4.out ⟨v1.heap.size, 0, none⟩ 1 1 [.string z8] rfl rfl (cell_new1 v1 _ _) (fun u hu => by simp at hu; subst hu; rfl) (by unfold maxLen; omega) (by omega) (by have := HQ.out; have := HPQ.out; have := BR4.out.lt; have := BD4.out.lt; omega) (fun v' w' hown hgrow _ => ?_)
          clear hi hz0 hz1 hz2
          have hap := own_apart (xs := (y :: List.replicate k z8).map Value.string) HO4.out BD4.out
          have hlow := own_low HO4.out
          have H5 := Lib.hid (H4.out.grown hgrow (fun g e => by have := hlow g e; have := HQ.out; have := HPQ.out; omega) (by simp) (fun z hz e => by
            rcases List.mem_cons.1 hz with rfl | hz
            · exact hap _ e rfl
            · simp at hz
              subst hz
              have := hlow _ e
              have := HQ.out; have := HPQ.out
              try dsimp only at this
              omega))
          have BD5 := Lib.hid (BD4.out.grown hgrow (fun e => hap _ e rfl))
          have BR5 := Lib.hid (BR4.out.grown hgrow (fun e => by have := hlow _ e; have := HQ.out; have := HPQ.out; omega))
          have hown2 : w'.ownsRow q 9 1 v' (k + 1 + 2) ((fmtL b y (k + 1)).map Value.string) := by
            rw [fmt_snoc]
            exact hown
          obtain ⟨A5, n5, rfl, _, _⟩ := own_slice hown2
          have HO5 := Lib.hid hown2
          clear hown2 hown hgrow hap hlow H4 BD4 BR4 HO4
          refine hK.out _ _ H5.out (fun _ => ?_)
          clear hK K
          try simp only [Act.put, List.setIfInBounds_toArray, List.set_cons_zero, List.set_cons_succ, List.getElem_toArray, List.getElem_cons_zero, List.getElem_cons_succ]
          refine wpAnyH_take (i := 5) (v := ?_) rfl (by kernel_rfl) (by kernel_rfl) (by kernel_rfl) (fun _ _ _ h => h) (Or.inl ⟨by rfl, ?_⟩) H5.out ?_
          rotate_left
          · (intro v hSw; go_simp; try with_reducible rfl)
          simp only [Act.put, List.setIfInBounds_toArray, List.set_cons_zero, List.set_cons_succ, List.getElem_toArray, List.getElem_cons_zero, List.getElem_cons_succ]
          refine wpAnyH_ready (rs := [6]) (by kernel_rfl) (by simp) ?_
          refine AllReadyH.cons rfl (fun K hK => ?_) AllReadyH.nil
          have kx := BD5.out.cell
          have fx := BD5.out.frozen
          go_simp
          refine hK.out _ _ (H5.out.set1 (b := p) ⟨4, by simp⟩ _) (fun _ => ?_)
          clear hK K kx fx
          refine wpAnyH_done (by kernel_rfl) ?_ _
          have hap := own_apart (xs := (y :: List.replicate (k + 1) z8).map Value.string) HO5.out BD5.out
          have HA := Lib.hid hap
          clear hap
          go_wp2
          go_roundw
          case rel => exact ⟨k + 1, A5, n5, by omega, by go_num, own_set_other HO5.out HA.out _ _, H5.out.set1 (b := p) ⟨4, by simp⟩ _, BD5.out.set 0 _, BR5.out.other (p := ⟨p, 0, none⟩) (by have := HQ.out; have := HPQ.out; dsimp only; omega) _⟩
          case measure => simp [intOf]; omega
        · skip
          go_simp
          have HO4 := Lib.hid (own_up HO3.out (below1 (o := .cells #[.string z8] 9)))
          have H4 := Lib.hid (H3.out.alloc (.cells #[.string z8] 9))
          have BD4 := Lib.hid (BD3.out.alloc (.cells #[.string z8] 9))
          have BR4 := Lib.hid (BR3.out.alloc (.cells #[.string z8] 9))
          clear H3 BD3 BR3 HO3
          refine hK.out _ _ H4.out (fun _ => ?_)
          clear hK K
          try simp only [Act.put, List.setIfInBounds_toArray, List.set_cons_zero, List.set_cons_succ, List.getElem_toArray, List.getElem_cons_zero, List.getElem_cons_succ]
          refine wpAnyH_ready (rs := [1]) (by kernel_rfl) (by simp) ?_
          refine AllReadyH.cons rfl (fun K hK => ?_) AllReadyH.nil
          have kx := BD4.out.cell
          go_simp
          refine hK.out _ _ H4.out (fun _ => ?_)
          clear hK K
          clear kx
          try simp only [Act.put, List.setIfInBounds_toArray, List.set_cons_zero, List.set_cons_succ, List.getElem_toArray, List.getElem_cons_zero, List.getElem_cons_succ]
          refine wpAnyH_ready (rs := [4]) (by kernel_rfl) (by simp) ?_
          refine AllReadyH.cons rfl (fun K hK => ?_) AllReadyH.nil
          refine Eq.mpr (if_pos (by rfl)) ?_
          obtain ⟨i0, hi, hz0, hz1, hz2⟩ := info_parts info9
          refine wp_append_own _ (Operand.tmp 33) (Operand.tmp 35) 27 rfl q 9 i0 (.string ⟨#[]⟩) 1 16 Tryz.underlying27 hi hz0 hz1 hz2 rfl (by decide) _ (k + 2) ((fmtL b y k).map Value.string) rfl HO4.out ⟨v1.heap.size, 0, none⟩ 1 1 [.string z8] rfl rfl (cell_new1 v1 _ _) (fun u hu => by simp at hu; subst hu; rfl) (by unfold maxLen; omega) (by omega) (by have := HQ.out; have := HPQ.out; have := BR4.out.lt; have := BD4.out.lt; omega) (fun v' w' hown hgrow _ => ?_)
          clear hi hz0 hz1 hz2
          have hap := own_apart (xs := (y :: List.replicate k z8).map Value.string) HO4.out BD4.out
          have hlow := own_low HO4.out
          have H5 := Lib.hid (H4.out.grown hgrow (fun g e => by have := hlow g e; have := HQ.out; have := HPQ.out; omega) (by simp) (fun z hz e => by
            rcases List.mem_cons.1 hz with rfl | hz
            · exact hap _ e rfl
            · simp at hz
              subst hz
              have := hlow _ e
              have := HQ.out; have := HPQ.out
              try dsimp only at this
              omega))
          have BD5 := Lib.hid (BD4.out.grown hgrow (fun e => hap _ e rfl))
          have BR5 := Lib.hid (BR4.out.grown hgrow (fun e => by have := hlow _ e; have := HQ.out; have := HPQ.out; omega))
          have hown2 : w'.ownsRow q 9 1 v' (k + 1 + 2) ((fmtL b y (k + 1)).map Value.string) := by
            rw [fmt_snoc]
            exact hown
          obtain ⟨A5, n5, rfl, _, _⟩ := own_slice hown2
          have HO5 := Lib.hid hown2
          clear hown2 hown hgrow hap hlow H4 BD4 BR4 HO4
          refine hK.out _ _ H5.out (fun _ => ?_)
          clear hK K
          try simp only [Act.put, List.setIfInBounds_toArray, List.set_cons_zero, List.set_cons_succ, List.getElem_toArray, List.getElem_cons_zero, List.getElem_cons_succ]
          refine wpAnyH_take (i := 5) (v := ?_) rfl (by kernel_rfl) (by kernel_rfl) (by kernel_rfl) (fun _ _ _ h => h) (Or.inl ⟨by rfl, ?_⟩) H5.out ?_
          rotate_left
          · (intro v hSw; go_simp; try with_reducible rfl)
          simp only [Act.put, List.setIfInBounds_toArray, List.set_cons_zero, List.set_cons_succ, List.getElem_toArray, List.getElem_cons_zero, List.getElem_cons_succ]
          refine wpAnyH_ready (rs := [6]) (by kernel_rfl) (by simp) ?_
          refine AllReadyH.cons rfl (fun K hK => ?_) AllReadyH.nil
          have kx := BD5.out.cell
          have fx := BD5.out.frozen
          go_simp
          refine hK.out _ _ (H5.out.set1 (b := p) ⟨4, by simp⟩ _) (fun _ => ?_)
          clear hK K kx fx
          refine wpAnyH_done (by kernel_rfl) ?_ _
          have hap := own_apart (xs := (y :: List.replicate (k + 1) z8).map Value.string) HO5.out BD5.out
          have HA := Lib.hid hap
          clear hap
          go_wp2
          go_roundw
          case rel => exact ⟨k + 1, A5, n5, by omega, by go_num, own_set_other HO5.out HA.out _ _, H5.out.set1 (b := p) ⟨4, by simp⟩ _, BD5.out.set 0 _, BR5.out.other (p := ⟨p, 0, none⟩) (by have := HQ.out; have := HPQ.out; dsimp only; omega) _⟩
          case measure => simp [intOf]; omega
    · obtain rfl : k = N := by omega
      have kd := BD1.out.cell
      have kr := BR1.out.cell
      have fr := BR1.out.frozen
      go_wp2_with fail
      have hap := own_apart (xs := (y :: List.replicate k z8).map Value.string) HO1.out BD1.out
      have hok := HO1.out
      rw [← fmt_length b y k] at hok
      have hown := own_set_other4 hok (p := w.heap.size) (fun g e => by have := own_low hok g e; have := HQ.out; have := HPQ.out; omega) (.slice A (k + 2) n) (.slice none 0 0) (.int .i64 0) (.bool false)
      obtain ⟨hA2, hes⟩ := own_es2 hown
      refine bodyPost_ret (v := .tuple #[.agg #[.slice A (k + 2) n, .slice none 0 0, .int .i64 0, .bool false], .int .i64 0]) (by simp [results, Tryz.results51, go_sem, kr]) rfl ⟨A, none, n, 0, by rw [fmt_length]; rfl, ⟨hes, ws_nil _ _ _, hA2, fun _ => rfl, own_ty hown, ty_none _ _⟩, ?_⟩
      exact (H1.out.set4 (b := w.heap.size) ⟨4, by simp⟩ _ _ _ _).below
end Go.Proofs.YtkjikigimmchlaaGreatDoor
