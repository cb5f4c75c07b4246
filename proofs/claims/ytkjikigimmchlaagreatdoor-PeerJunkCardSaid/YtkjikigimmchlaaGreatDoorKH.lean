/- The mask on a disk, layer 8: whether it may be there; what both Loads answer, over what the calls that they make answer. No other condition but that the lists lie in memory. -/
import Derived.Test.YtkjikigimmchlaaGreatDoorKG
import Derived.Test.YtkjikigimmchlaaGreatDoorS7d
import Derived.Test.YtkjikigimmchlaaGreatDoorKM
import Derived.Test.YtkjikigimmchlaaGreatDoorKF
namespace Go.Proofs.YtkjikigimmchlaaGreatDoor
open Go.RowKit
def numL (t : ByteArray) : Nat × Bool := if t.size = 4 then (val t.data.toList, true) else (0, false)
theorem numL_lt (t : ByteArray) : (numL t).1 < 4294967296 := by
  unfold numL
  split
  · have h := val_lt t.data.toList
    have e : t.data.toList.length = 4 := by rw [Array.length_toList]; assumption
    rw [e] at h
    exact Nat.lt_of_lt_of_le h (by decide)
  · decide
theorem rget32_any (t : ByteArray) (w : World) :
    Calls Tryz.prog 59 #[.string t] w fun e w' => e = .returned (.tuple #[.int .u32 ((numL t).1 : Nat), .bool (numL t).2]) ∧ Below w.heap.size w w' := by
  unfold numL
  by_cases h : t.size = 4
  · rw [if_pos h]
    refine (rget32_yes t w h).mono ?_
    rintro e w' ⟨rfl, rfl⟩
    exact ⟨rfl, Below.refl _ _⟩
  · rw [if_neg h]
    refine (rget32_no t w h).mono ?_
    rintro e w' ⟨rfl, rfl⟩
    exact ⟨rfl, Below.refl _ _⟩
set_option maxRecDepth 100000 in
set_option maxHeartbeats 1000000 in
theorem bright_any (A B : Option Addr) (n1 n2 m1 m2 : Nat) (f : Int) (x : Bool) (k : Nat) (w : World) (hl : (n1 : Int) ≤ 1000000) (hk : k < 4294967296) :
    Calls Tryz.prog 221 #[.agg #[.slice A n1 n2, .slice B m1 m2, .int .i64 f, .bool x], .int .u32 k] w fun e w' => e = .returned (.bool (mrightB k ((n1 : Int) - 2))) ∧ Below w.heap.size w w' := by
  go_enter Tryz.func221, Tryz.ntmps221
  go_wp2_with fail
  refine (mright_any k _ _ hk).mono ?_
  rintro e w1 ⟨rfl, rfl⟩
  go_wp2_with fail
  go_ret
  exact ⟨rfl, below1⟩
set_option maxRecDepth 100000 in
set_option maxHeartbeats 2000000 in
theorem rbload_stops (A B : Option Addr) (n m : Nat) (s : List ByteArray) (c : List Wr) (f : Int) (x : Bool) (w : World) (y : ByteArray) (e1 : Int) (hr : ∀ v, Below w.heap.size w v → Calls Tryz.prog 189 #[.agg #[.slice A s.length n, .slice B c.length m, .int .i64 f, .bool x], .int .i64 1] v fun e v' => e = .returned (.tuple #[.string y, .int .i64 e1]) ∧ Below v.heap.size v v') (h1 : e1 ≠ 0) :
    Calls Tryz.prog 131 #[.agg #[.slice A s.length n, .slice B c.length m, .int .i64 f, .bool x]] w fun e w' => e = .returned (.tuple #[.int .u32 0, .int .i64 e1]) ∧ Below w.heap.size w w' := by
  have hnb : ((e1 : Int) != 0) = true := by simp [bne, beq_eq_false_iff_ne.2 h1]
  have hne : ((e1 : Int) == 0) = false := beq_eq_false_iff_ne.2 h1
  clear h1
  have HR := Lib.hid hr; clear hr
  have H0 := Lib.hid ((Held.refl w).lay [.slice A s.length n, .slice B c.length m, .int .i64 f, .bool x] 30)
  go_enter Tryz.func131, Tryz.ntmps131
  go_wp2_with fail
  refine (HR.out _ H0.out.below).mono ?_
  rintro e w1 ⟨rfl, hb⟩
  have H1 := Lib.hid (H0.out.up hb)
  clear hb H0
  go_wp2_with fail
  go_ret2
  exact ⟨rfl, H1.out.below⟩
set_option maxRecDepth 100000 in
set_option maxHeartbeats 2000000 in
theorem rbload_bad (A B : Option Addr) (n m : Nat) (s : List ByteArray) (c : List Wr) (f : Int) (x : Bool) (w : World) (y t : ByteArray) (e2 : Int) (hr : ∀ v, Below w.heap.size w v → Calls Tryz.prog 189 #[.agg #[.slice A s.length n, .slice B c.length m, .int .i64 f, .bool x], .int .i64 1] v fun e v' => e = .returned (.tuple #[.string y, .int .i64 0]) ∧ Below v.heap.size v v') (ho : ∀ v, Calls Tryz.prog 29 #[.string y] v fun e v' => e = .returned (.tuple #[.string t, .int .i64 e2]) ∧ Below v.heap.size v v') (h2 : e2 ≠ 0) :
    Calls Tryz.prog 131 #[.agg #[.slice A s.length n, .slice B c.length m, .int .i64 f, .bool x]] w fun e w' => e = .returned (.tuple #[.int .u32 0, .int .i64 e2]) ∧ Below w.heap.size w w' := by
  have hnb : ((e2 : Int) != 0) = true := by simp [bne, beq_eq_false_iff_ne.2 h2]
  have hne : ((e2 : Int) == 0) = false := beq_eq_false_iff_ne.2 h2
  clear h2
  have HR := Lib.hid hr; clear hr
  have HO := Lib.hid ho; clear ho
  have H0 := Lib.hid ((Held.refl w).lay [.slice A s.length n, .slice B c.length m, .int .i64 f, .bool x] 30)
  go_enter Tryz.func131, Tryz.ntmps131
  go_wp2_with fail
  refine (HR.out _ H0.out.below).mono ?_
  rintro e w1 ⟨rfl, hb⟩
  have H1 := Lib.hid (H0.out.up hb)
  clear hb H0
  go_wp2_with fail
  refine (HO.out _).mono ?_
  rintro e w2 ⟨rfl, hb⟩
  have H2 := Lib.hid (H1.out.up hb)
  clear hb H1
  go_wp2_with fail
  go_ret2
  exact ⟨rfl, H2.out.below⟩
set_option maxRecDepth 100000 in
set_option maxHeartbeats 2000000 in
theorem rbload_none (A B : Option Addr) (n m : Nat) (s : List ByteArray) (c : List Wr) (f : Int) (x : Bool) (w : World) (y t : ByteArray) (k : Nat) (hr : ∀ v, Below w.heap.size w v → Calls Tryz.prog 189 #[.agg #[.slice A s.length n, .slice B c.length m, .int .i64 f, .bool x], .int .i64 1] v fun e v' => e = .returned (.tuple #[.string y, .int .i64 0]) ∧ Below v.heap.size v v') (ho : ∀ v, Calls Tryz.prog 29 #[.string y] v fun e v' => e = .returned (.tuple #[.string t, .int .i64 0]) ∧ Below v.heap.size v v') (hg : ∀ v, Calls Tryz.prog 59 #[.string t] v fun e v' => e = .returned (.tuple #[.int .u32 (k : Nat), .bool false]) ∧ Below v.heap.size v v') :
    Calls Tryz.prog 131 #[.agg #[.slice A s.length n, .slice B c.length m, .int .i64 f, .bool x]] w fun e w' => e = .returned (.tuple #[.int .u32 0, .int .i64 2]) ∧ Below w.heap.size w w' := by
  have HR := Lib.hid hr; clear hr
  have HO := Lib.hid ho; clear ho
  have HG := Lib.hid hg; clear hg
  have H0 := Lib.hid ((Held.refl w).lay [.slice A s.length n, .slice B c.length m, .int .i64 f, .bool x] 30)
  go_enter Tryz.func131, Tryz.ntmps131
  go_wp2_with fail
  refine (HR.out _ H0.out.below).mono ?_
  rintro e w1 ⟨rfl, hb⟩
  have H1 := Lib.hid (H0.out.up hb)
  clear hb H0
  go_wp2_with fail
  refine (HO.out _).mono ?_
  rintro e w2 ⟨rfl, hb⟩
  have H2 := Lib.hid (H1.out.up hb)
  clear hb H1
  go_wp2_with fail
  refine (HG.out _).mono ?_
  rintro e w3 ⟨rfl, hb⟩
  have H3 := Lib.hid (H2.out.up hb)
  clear hb H2
  go_wp2_with fail
  go_ret2
  exact ⟨rfl, H3.out.below⟩
set_option maxRecDepth 100000 in
set_option maxHeartbeats 2000000 in
theorem rbload_misfit (A B : Option Addr) (n m : Nat) (s : List ByteArray) (c : List Wr) (f : Int) (x : Bool) (w : World) (y t : ByteArray) (k : Nat) (hr : ∀ v, Below w.heap.size w v → Calls Tryz.prog 189 #[.agg #[.slice A s.length n, .slice B c.length m, .int .i64 f, .bool x], .int .i64 1] v fun e v' => e = .returned (.tuple #[.string y, .int .i64 0]) ∧ Below v.heap.size v v') (ho : ∀ v, Calls Tryz.prog 29 #[.string y] v fun e v' => e = .returned (.tuple #[.string t, .int .i64 0]) ∧ Below v.heap.size v v') (hg : ∀ v, Calls Tryz.prog 59 #[.string t] v fun e v' => e = .returned (.tuple #[.int .u32 (k : Nat), .bool true]) ∧ Below v.heap.size v v') (hl : (s.length : Int) ≤ 1000000) (hk : k < 4294967296) (hn : mrightB k ((s.length : Int) - 2) = false) :
    Calls Tryz.prog 131 #[.agg #[.slice A s.length n, .slice B c.length m, .int .i64 f, .bool x]] w fun e w' => e = .returned (.tuple #[.int .u32 0, .int .i64 2]) ∧ Below w.heap.size w w' := by
  have hq := fun w => mrright_any k ((s.length : Int) - 2) w hk
  rw [hn] at hq
  clear hn hk
  have HR := Lib.hid hr; clear hr
  have HO := Lib.hid ho; clear ho
  have HG := Lib.hid hg; clear hg
  have HQ := Lib.hid hq; clear hq
  have H0 := Lib.hid ((Held.refl w).lay [.slice A s.length n, .slice B c.length m, .int .i64 f, .bool x] 30)
  go_enter Tryz.func131, Tryz.ntmps131
  go_wp2_with fail
  refine (HR.out _ H0.out.below).mono ?_
  rintro e w1 ⟨rfl, hb⟩
  have H1 := Lib.hid (H0.out.up hb)
  clear hb H0
  go_wp2_with fail
  refine (HO.out _).mono ?_
  rintro e w2 ⟨rfl, hb⟩
  have H2 := Lib.hid (H1.out.up hb)
  clear hb H1
  go_wp2_with fail
  refine (HG.out _).mono ?_
  rintro e w3 ⟨rfl, hb⟩
  have H3 := Lib.hid (H2.out.up hb)
  clear hb H2
  have kd := H3.out.b0.cell
  go_wp2_with fail
  refine (HQ.out _).mono ?_
  rintro e w4 ⟨rfl, rfl⟩
  have H4 := Lib.hid (H3.out)
  clear H3 kd
  go_wp2_with fail
  go_ret2
  exact ⟨rfl, H4.out.below⟩
set_option maxRecDepth 100000 in
set_option maxHeartbeats 2000000 in
theorem rbload_yes (A B : Option Addr) (n m : Nat) (s : List ByteArray) (c : List Wr) (f : Int) (x : Bool) (w : World) (y t : ByteArray) (k : Nat) (hr : ∀ v, Below w.heap.size w v → Calls Tryz.prog 189 #[.agg #[.slice A s.length n, .slice B c.length m, .int .i64 f, .bool x], .int .i64 1] v fun e v' => e = .returned (.tuple #[.string y, .int .i64 0]) ∧ Below v.heap.size v v') (ho : ∀ v, Calls Tryz.prog 29 #[.string y] v fun e v' => e = .returned (.tuple #[.string t, .int .i64 0]) ∧ Below v.heap.size v v') (hg : ∀ v, Calls Tryz.prog 59 #[.string t] v fun e v' => e = .returned (.tuple #[.int .u32 (k : Nat), .bool true]) ∧ Below v.heap.size v v') (hl : (s.length : Int) ≤ 1000000) (hk : k < 4294967296) (hn : mrightB k ((s.length : Int) - 2) = true) :
    Calls Tryz.prog 131 #[.agg #[.slice A s.length n, .slice B c.length m, .int .i64 f, .bool x]] w fun e w' => e = .returned (.tuple #[.int .u32 (k : Nat), .int .i64 0]) ∧ Below w.heap.size w w' := by
  have hq := fun w => mrright_any k ((s.length : Int) - 2) w hk
  rw [hn] at hq
  clear hn hk
  have HR := Lib.hid hr; clear hr
  have HO := Lib.hid ho; clear ho
  have HG := Lib.hid hg; clear hg
  have HQ := Lib.hid hq; clear hq
  have H0 := Lib.hid ((Held.refl w).lay [.slice A s.length n, .slice B c.length m, .int .i64 f, .bool x] 30)
  go_enter Tryz.func131, Tryz.ntmps131
  go_wp2_with fail
  refine (HR.out _ H0.out.below).mono ?_
  rintro e w1 ⟨rfl, hb⟩
  have H1 := Lib.hid (H0.out.up hb)
  clear hb H0
  go_wp2_with fail
  refine (HO.out _).mono ?_
  rintro e w2 ⟨rfl, hb⟩
  have H2 := Lib.hid (H1.out.up hb)
  clear hb H1
  go_wp2_with fail
  refine (HG.out _).mono ?_
  rintro e w3 ⟨rfl, hb⟩
  have H3 := Lib.hid (H2.out.up hb)
  clear hb H2
  have kd := H3.out.b0.cell
  go_wp2_with fail
  refine (HQ.out _).mono ?_
  rintro e w4 ⟨rfl, rfl⟩
  have H4 := Lib.hid (H3.out)
  clear H3 kd
  go_wp2_with fail
  go_ret2
  exact ⟨rfl, H4.out.below⟩
end Go.Proofs.YtkjikigimmchlaaGreatDoor
namespace Go.Proofs.YtkjikigimmchlaaGreatDoor
open Go.RowKit
set_option maxRecDepth 100000 in
set_option maxHeartbeats 4000000 in
theorem bnote_misfit (A B : Option Addr) (n m : Nat) (s : List ByteArray) (c : List Wr) (f : Int) (x : Bool) (k : Nat) (w : World) (hm : Mem w A n B m s c) (hl : (s.length : Int) ≤ 1000000) (hk : k < 4294967296) (hn : mrightB k ((s.length : Int) - 2) = false) :
    Calls Tryz.prog 182 #[.agg #[.slice A s.length n, .slice B c.length m, .int .i64 f, .bool x], .int .u32 (k : Nat)] w (GivesD s c f x 1 w) := by
  have hq := fun w => bright_any A B s.length n c.length m f x k w (by omega) hk
  rw [hn] at hq
  clear hn hk hl
  have HM := Lib.hid hm; clear hm
  have HQ := Lib.hid hq; clear hq
  have H0 := Lib.hid (((Held.refl w).lay [.slice A s.length n, .slice B c.length m, .int .i64 f, .bool x] 30).lay [.slice none 0 0, .slice none 0 0, .int .i64 0, .bool false] 30)
  go_enter Tryz.func182, Tryz.ntmps182
  have kd := H0.out.b1.cell
  go_wp2_with fail
  refine (HQ.out _).mono ?_
  rintro e w1 ⟨rfl, hb⟩
  have H1 := Lib.hid (H0.out.up hb)
  clear hb H0 kd
  have kd := H1.out.b1.cell
  have kr := H1.out.b0.cell
  have fr := H1.out.b0.frozen
  simp only [World.size_alloc] at kr fr
  go_wp2_with fail
  refine bodyPost_ret (v := .tuple #[.agg #[.slice A s.length n, .slice B c.length m, .int .i64 f, .bool x], .int .i64 1]) (by simp [results, Tryz.results182, go_sem, kr]) rfl ⟨A, B, n, m, rfl, ?_, ?_⟩
  · exact (HM.out.up H1.out.below).four (by simpa using H1.out.b0) _ _ _ _ _ _ _ _
  · exact ((H1.out.free (n := 4) (by simp; try omega) (by simp; try omega) rfl).set4 (b := w.heap.size + 1) ⟨4, by simp⟩ _ _ _ _).below
set_option maxRecDepth 100000 in
set_option maxHeartbeats 4000000 in
theorem bnote_goes (A B : Option Addr) (n m : Nat) (s : List ByteArray) (c : List Wr) (f : Int) (x : Bool) (k : Nat) (w : World) (hl : (s.length : Int) ≤ 1000000) (hk : k < 4294967296) (hn : mrightB k ((s.length : Int) - 2) = true) (t y : ByteArray) (hp : ∀ v, Calls Tryz.prog 208 #[.int .u32 (k : Nat)] v fun e v' => e = .returned (.string t) ∧ Below v.heap.size v v') (hs : ∀ v, Calls Tryz.prog 162 #[.string t] v fun e v' => e = .returned (.string y) ∧ Below v.heap.size v v') (s1 : List ByteArray) (c1 : List Wr) (f1 : Int) (x1 : Bool) (e1 : Int) (hw : ∀ v, Below w.heap.size w v → Calls Tryz.prog 222 #[.agg #[.slice A s.length n, .slice B c.length m, .int .i64 f, .bool x], .int .i64 1, .string y] v (GivesD s1 c1 f1 x1 e1 v)) :
    Calls Tryz.prog 182 #[.agg #[.slice A s.length n, .slice B c.length m, .int .i64 f, .bool x], .int .u32 (k : Nat)] w (GivesD s1 c1 f1 x1 e1 w) := by
  have hq := fun w => bright_any A B s.length n c.length m f x k w (by omega) hk
  rw [hn] at hq
  clear hn hk hl
  have HP := Lib.hid hp; clear hp
  have HS := Lib.hid hs; clear hs
  have HW := Lib.hid hw; clear hw
  have HQ := Lib.hid hq; clear hq
  have H0 := Lib.hid (((Held.refl w).lay [.slice A s.length n, .slice B c.length m, .int .i64 f, .bool x] 30).lay [.slice none 0 0, .slice none 0 0, .int .i64 0, .bool false] 30)
  go_enter Tryz.func182, Tryz.ntmps182
  have kd := H0.out.b1.cell
  go_wp2_with fail
  refine (HQ.out _).mono ?_
  rintro e w1 ⟨rfl, hb⟩
  have H1 := Lib.hid (H0.out.up hb)
  clear hb H0 kd
  go_wp2_with fail
  refine held_begin2 (by kernel_rfl) H1.out (fun v0 y0 => ?_)
  have Y0 := Lib.hid y0
  clear y0 H1
  refine wpAnyH_take (i := 0) (v := ?_) rfl (by kernel_rfl) (by kernel_rfl) (by kernel_rfl) (fun _ _ _ h => h) (Or.inl ⟨by rfl, ?_⟩) Y0.out.less ?_
  rotate_left
  · (intro v hSw; have k := hSw.b0.cell; go_simp; try with_reducible rfl)
  simp only [Act.put, List.setIfInBounds_toArray, List.set_cons_zero, List.set_cons_succ, List.getElem_toArray, List.getElem_cons_zero]
  refine wpAnyH_take (i := 1) (v := ?_) rfl (by kernel_rfl) (by kernel_rfl) (by kernel_rfl) (fun _ _ _ h => h) (Or.inl ⟨by rfl, ?_⟩) Y0.out.less ?_
  rotate_left
  · (intro v hSw; go_simp; try with_reducible rfl)
  simp only [Act.put, List.setIfInBounds_toArray, List.set_cons_zero, List.set_cons_succ, List.getElem_toArray, List.getElem_cons_zero, List.getElem_cons_succ]
  refine wpAnyH_ready (rs := [2]) (by kernel_rfl) (by simp) ?_
  refine AllReadyH.cons rfl (fun K hK => ?_) AllReadyH.nil
  go_simp
  refine (HP.out _).mono ?_
  rintro e v1 ⟨rfl, hb⟩
  go_wp2_with fail
  have Y1 := Lib.hid (Y0.out.up hb)
  refine hK.out _ _ Y1.out.less (fun _ => ?_)
  clear hK K Y0
  refine wpAnyH_ready (rs := [3]) (by kernel_rfl) (by simp) ?_
  refine AllReadyH.cons rfl (fun K hK => ?_) AllReadyH.nil
  go_simp
  refine (HS.out _).mono ?_
  rintro e v2 ⟨rfl, hb⟩
  go_wp2_with fail
  have Y2 := Lib.hid (Y1.out.up hb)
  refine hK.out _ _ Y2.out.less (fun _ => ?_)
  clear hK K Y1
  refine wpAnyH_ready (rs := [4]) (by kernel_rfl) (by simp) ?_
  refine AllReadyH.cons rfl (fun K hK => ?_) AllReadyH.nil
  go_simp
  refine (HW.out _ Y2.out.below).mono ?_
  rintro e v3 ⟨A1, B1, n1, m1, rfl, hm1, hb⟩
  go_wp2_with fail
  have Y3 := Lib.hid (Y2.out.up hb)
  refine hK.out _ _ Y3.out.less (fun _ => ?_)
  clear hK K Y2
  refine wpAnyH_take (i := 5) (v := ?_) rfl (by kernel_rfl) (by kernel_rfl) (by kernel_rfl) (fun _ _ _ h => h) (Or.inl ⟨by rfl, ?_⟩) Y3.out.less ?_
  rotate_left
  · (intro v hSw; go_simp; try with_reducible rfl)
  simp only [Act.put, List.setIfInBounds_toArray, List.set_cons_zero, List.set_cons_succ, List.getElem_toArray, List.getElem_cons_zero, List.getElem_cons_succ]
  refine wpAnyH_take (i := 6) (v := ?_) rfl (by kernel_rfl) (by kernel_rfl) (by kernel_rfl) (fun _ _ _ h => h) (Or.inl ⟨by rfl, ?_⟩) Y3.out.less ?_
  rotate_left
  · (intro v hSw; go_simp; try with_reducible rfl)
  simp only [Act.put, List.setIfInBounds_toArray, List.set_cons_zero, List.set_cons_succ, List.getElem_toArray, List.getElem_cons_zero, List.getElem_cons_succ]
  refine wpAnyH_ready (rs := [7]) (by kernel_rfl) (by simp) ?_
  refine AllReadyH.cons rfl (fun K hK => ?_) AllReadyH.nil
  have HM1 := Lib.hid hm1
  clear hm1
  have kr := Y3.out.b0.cell
  have fr := Y3.out.b0.frozen
  simp only [World.size_alloc] at kr fr
  go_simp
  have HF := Lib.hid ((Y3.out.free (n := 4) (by simp; try omega) (by simp; try omega) rfl).set4 (b := w.heap.size + 1) ⟨4, by simp⟩ (.slice A1 s1.length n1) (.slice B1 c1.length m1) (.int .i64 f1) (.bool x1)).done
  refine hK.out _ _ HF.out (fun _ => ?_)
  clear hK K
  refine wpAnyH_take (i := 8) (v := ?_) rfl (by kernel_rfl) (by kernel_rfl) (by kernel_rfl) (fun _ _ _ h => h) (Or.inl ⟨by rfl, ?_⟩) HF.out ?_
  rotate_left
  · (intro v hSw; go_simp; try with_reducible rfl)
  simp only [Act.put, List.setIfInBounds_toArray, List.set_cons_zero, List.set_cons_succ, List.getElem_toArray, List.getElem_cons_zero, List.getElem_cons_succ]
  refine wpAnyH_done (by kernel_rfl) ?_ _
  go_wp2_with fail
  refine bodyPost_ret (v := .tuple #[.agg #[.slice A1 s1.length n1, .slice B1 c1.length m1, .int .i64 f1, .bool x1], .int .i64 e1]) (by simp [results, Tryz.results182, go_sem, kr]) rfl ⟨A1, B1, n1, m1, rfl, ?_, ?_⟩
  · exact HM1.out.four (by simpa using Y3.out.b0) _ _ _ _ _ _ _ _
  · exact HF.out.below
set_option maxRecDepth 100000 in
set_option maxHeartbeats 4000000 in
theorem bsave_stops (A B : Option Addr) (n m : Nat) (s : List ByteArray) (c : List Wr) (f : Int) (x : Bool) (k : Nat) (w : World) (s1 : List ByteArray) (c1 : List Wr) (f1 : Int) (x1 : Bool) (e1 : Int) (hn : ∀ v, Below w.heap.size w v → Calls Tryz.prog 182 #[.agg #[.slice A s.length n, .slice B c.length m, .int .i64 f, .bool x], .int .u32 (k : Nat)] v (GivesD s1 c1 f1 x1 e1 v)) (h1 : e1 ≠ 0) :
    Calls Tryz.prog 217 #[.agg #[.slice A s.length n, .slice B c.length m, .int .i64 f, .bool x], .int .u32 (k : Nat)] w (GivesD s1 c1 f1 x1 e1 w) := by
  have hnb : ((e1 : Int) != 0) = true := by simp [bne, beq_eq_false_iff_ne.2 h1]
  have hne : ((e1 : Int) == 0) = false := beq_eq_false_iff_ne.2 h1
  clear h1
  have HN := Lib.hid hn; clear hn
  have H0 := Lib.hid (((Held.refl w).own [.slice A s.length n, .slice B c.length m, .int .i64 f, .bool x] 30 (n := 4) rfl).own [.slice none 0 0, .slice none 0 0, .int .i64 0, .bool false] 30 (n := 4) rfl)
  have BD := Lib.hid ((Box.new w [.slice A s.length n, .slice B c.length m, .int .i64 f, .bool x] 30).alloc (.cells #[.slice none 0 0, .slice none 0 0, .int .i64 0, .bool false] 30))
  have BR := Lib.hid (Box.new (w.alloc (.cells #[.slice A s.length n, .slice B c.length m, .int .i64 f, .bool x] 30)) [.slice none 0 0, .slice none 0 0, .int .i64 0, .bool false] 30)
  go_enter Tryz.func217, Tryz.ntmps217
  have kd := BD.out.cell
  have fd := BD.out.frozen
  go_wp2_with fail
  clear kd fd
  refine (HN.out _ H0.out.below).mono ?_
  rintro e w1 ⟨A1, B1, n1, m1, rfl, hm1, hb⟩
  have H1 := Lib.hid (H0.out.up hb)
  have BD1 := Lib.hid (BD.out.below hb)
  have BR1 := Lib.hid (BR.out.below hb)
  have HM1 := Lib.hid hm1
  clear hb hm1 H0 BD BR
  have kd := BD1.out.cell
  have fd := BD1.out.frozen
  have kr := BR1.out.cell
  have fr := BR1.out.frozen
  simp only [World.size_alloc] at kr fr
  go_wp2_with fail
  refine bodyPost_ret (v := .tuple #[.agg #[.slice A1 s1.length n1, .slice B1 c1.length m1, .int .i64 f1, .bool x1], .int .i64 e1]) (by simp [results, Tryz.results217, go_sem, kr]) rfl ⟨A1, B1, n1, m1, rfl, ?_, ?_⟩
  · exact (HM1.out.four BD1.out _ _ _ _ _ _ _ _).four (by simpa using BR1.out.past4 (b := w.heap.size) (by simp; try omega) (.slice A1 s1.length n1) (.slice B1 c1.length m1) (.int .i64 f1) (.bool x1)) _ _ _ _ _ _ _ _
  · exact ((H1.out.set4 (b := w.heap.size) ⟨4, by simp⟩ _ _ _ _).set4 (b := w.heap.size + 1) ⟨4, by simp⟩ _ _ _ _).below
set_option maxRecDepth 100000 in
set_option maxHeartbeats 4000000 in
theorem bsave_goes (A B : Option Addr) (n m : Nat) (s : List ByteArray) (c : List Wr) (f : Int) (x : Bool) (k : Nat) (w : World) (s1 : List ByteArray) (c1 : List Wr) (f1 : Int) (x1 : Bool) (hn : ∀ v, Below w.heap.size w v → Calls Tryz.prog 182 #[.agg #[.slice A s.length n, .slice B c.length m, .int .i64 f, .bool x], .int .u32 (k : Nat)] v (GivesD s1 c1 f1 x1 0 v)) (s2 : List ByteArray) (c2 : List Wr) (f2 : Int) (x2 : Bool) (e3 : Int) (hg : ∀ (A1 B1 : Option Addr) (n1 m1 : Nat) (v : World), Mem v A1 n1 B1 m1 s1 c1 → Calls Tryz.prog 226 #[.agg #[.slice A1 s1.length n1, .slice B1 c1.length m1, .int .i64 f1, .bool x1]] v (GivesD s2 c2 f2 x2 e3 v)) :
    Calls Tryz.prog 217 #[.agg #[.slice A s.length n, .slice B c.length m, .int .i64 f, .bool x], .int .u32 (k : Nat)] w (GivesD s2 c2 f2 x2 e3 w) := by
  have HN := Lib.hid hn; clear hn
  have HG := Lib.hid hg; clear hg
  have H0 := Lib.hid (((Held.refl w).own [.slice A s.length n, .slice B c.length m, .int .i64 f, .bool x] 30 (n := 4) rfl).own [.slice none 0 0, .slice none 0 0, .int .i64 0, .bool false] 30 (n := 4) rfl)
  have BD := Lib.hid ((Box.new w [.slice A s.length n, .slice B c.length m, .int .i64 f, .bool x] 30).alloc (.cells #[.slice none 0 0, .slice none 0 0, .int .i64 0, .bool false] 30))
  have BR := Lib.hid (Box.new (w.alloc (.cells #[.slice A s.length n, .slice B c.length m, .int .i64 f, .bool x] 30)) [.slice none 0 0, .slice none 0 0, .int .i64 0, .bool false] 30)
  go_enter Tryz.func217, Tryz.ntmps217
  have kd := BD.out.cell
  have fd := BD.out.frozen
  go_wp2_with fail
  clear kd fd
  refine (HN.out _ H0.out.below).mono ?_
  rintro e w1 ⟨A1, B1, n1, m1, rfl, hm1, hb⟩
  have H1 := Lib.hid (H0.out.up hb)
  have BD1 := Lib.hid (BD.out.below hb)
  have BR1 := Lib.hid (BR.out.below hb)
  have HM1 := Lib.hid hm1
  clear hb hm1 H0 BD BR
  have kd := BD1.out.cell
  have fd := BD1.out.frozen
  have kr := BR1.out.cell
  have fr := BR1.out.frozen
  simp only [World.size_alloc] at kr fr
  go_wp2_with fail
  clear kd fd kr fr
  have H2 := Lib.hid (H1.out.set4 (b := w.heap.size) ⟨4, by simp⟩ (.slice A1 s1.length n1) (.slice B1 c1.length m1) (.int .i64 f1) (.bool x1))
  have HM2 := Lib.hid (HM1.out.four BD1.out A1 B1 s1.length n1 c1.length m1 f1 x1)
  have BR2 := Lib.hid (BR1.out.past4 (b := w.heap.size) (by simp; try omega) (.slice A1 s1.length n1) (.slice B1 c1.length m1) (.int .i64 f1) (.bool x1))
  clear H1 HM1 BD1 BR1
  refine (HG.out A1 B1 n1 m1 _ HM2.out).mono ?_
  rintro e w5 ⟨A2, B2, n2, m2, rfl, hm5, hb⟩
  have H5 := Lib.hid (H2.out.up hb)
  have BR5 := Lib.hid (BR2.out.below hb)
  have HM5 := Lib.hid hm5
  clear hb hm5 H2 BR2 HM2
  have kr := BR5.out.cell
  have fr := BR5.out.frozen
  simp only [World.size_alloc] at kr fr
  go_wp2_with fail
  refine bodyPost_ret (v := .tuple #[.agg #[.slice A2 s2.length n2, .slice B2 c2.length m2, .int .i64 f2, .bool x2], .int .i64 e3]) (by simp [results, Tryz.results217, go_sem, kr]) rfl ⟨A2, B2, n2, m2, rfl, ?_, ?_⟩
  · exact HM5.out.four (by simpa using BR5.out) _ _ _ _ _ _ _ _
  · exact (H5.out.set4 (b := w.heap.size + 1) ⟨4, by simp⟩ _ _ _ _).below
set_option maxRecDepth 100000 in
set_option maxHeartbeats 4000000 in
theorem rbnote_misfit (A B : Option Addr) (n m : Nat) (s : List ByteArray) (c : List Wr) (f : Int) (x : Bool) (k : Nat) (w : World) (hm : Mem w A n B m s c) (hl : (s.length : Int) ≤ 1000000) (hk : k < 4294967296) (hn : mrightB k ((s.length : Int) - 2) = false) :
    Calls Tryz.prog 262 #[.agg #[.slice A s.length n, .slice B c.length m, .int .i64 f, .bool x], .int .u32 (k : Nat)] w (GivesD s c f x 1 w) := by
  have hq := fun w => mrright_any k ((s.length : Int) - 2) w hk
  rw [hn] at hq
  clear hn hk
  have HM := Lib.hid hm; clear hm
  have HQ := Lib.hid hq; clear hq
  have H0 := Lib.hid (((Held.refl w).lay [.slice A s.length n, .slice B c.length m, .int .i64 f, .bool x] 30).lay [.slice none 0 0, .slice none 0 0, .int .i64 0, .bool false] 30)
  go_enter Tryz.func262, Tryz.ntmps262
  have kd := H0.out.b1.cell
  go_wp2_with fail
  refine (HQ.out _).mono ?_
  rintro e w1 ⟨rfl, rfl⟩
  have H1 := Lib.hid (H0.out)
  clear H0 kd
  have kd := H1.out.b1.cell
  have kr := H1.out.b0.cell
  have fr := H1.out.b0.frozen
  simp only [World.size_alloc] at kr fr
  go_wp2_with fail
  refine bodyPost_ret (v := .tuple #[.agg #[.slice A s.length n, .slice B c.length m, .int .i64 f, .bool x], .int .i64 1]) (by simp [results, Tryz.results262, go_sem]) rfl ⟨A, B, n, m, rfl, ?_, ?_⟩
  · exact HM.out.up (ext_alloc (ext_alloc (Below.refl _ _) _) _)
  · exact ext_alloc (ext_alloc (Below.refl _ _) _) _
set_option maxRecDepth 100000 in
set_option maxHeartbeats 4000000 in
theorem rbnote_goes (A B : Option Addr) (n m : Nat) (s : List ByteArray) (c : List Wr) (f : Int) (x : Bool) (k : Nat) (w : World) (hl : (s.length : Int) ≤ 1000000) (hk : k < 4294967296) (hn : mrightB k ((s.length : Int) - 2) = true) (t y : ByteArray) (hp : ∀ v, Calls Tryz.prog 84 #[.int .u32 (k : Nat)] v fun e v' => e = .returned (.string t) ∧ Below v.heap.size v v') (hs : ∀ v, Calls Tryz.prog 54 #[.string t] v fun e v' => e = .returned (.string y) ∧ Below v.heap.size v v') (s1 : List ByteArray) (c1 : List Wr) (f1 : Int) (x1 : Bool) (e1 : Int) (hw : ∀ v, Below w.heap.size w v → Calls Tryz.prog 252 #[.agg #[.slice A s.length n, .slice B c.length m, .int .i64 f, .bool x], .int .i64 1, .string y] v (GivesD s1 c1 f1 x1 e1 v)) :
    Calls Tryz.prog 262 #[.agg #[.slice A s.length n, .slice B c.length m, .int .i64 f, .bool x], .int .u32 (k : Nat)] w (GivesD s1 c1 f1 x1 e1 w) := by
  have hq := fun w => mrright_any k ((s.length : Int) - 2) w hk
  rw [hn] at hq
  clear hn hk
  have HP := Lib.hid hp; clear hp
  have HS := Lib.hid hs; clear hs
  have HW := Lib.hid hw; clear hw
  have HQ := Lib.hid hq; clear hq
  have H0 := Lib.hid (((Held.refl w).lay [.slice A s.length n, .slice B c.length m, .int .i64 f, .bool x] 30).lay [.slice none 0 0, .slice none 0 0, .int .i64 0, .bool false] 30)
  go_enter Tryz.func262, Tryz.ntmps262
  have kd := H0.out.b1.cell
  go_wp2_with fail
  refine (HQ.out _).mono ?_
  rintro e w1 ⟨rfl, rfl⟩
  have H1 := Lib.hid (H0.out)
  clear H0 kd
  go_wp2_with fail
  refine held_begin2 (by kernel_rfl) H1.out (fun v0 y0 => ?_)
  have Y0 := Lib.hid y0
  clear y0 H1
  refine wpAnyH_take (i := 0) (v := ?_) rfl (by kernel_rfl) (by kernel_rfl) (by kernel_rfl) (fun _ _ _ h => h) (Or.inl ⟨by rfl, ?_⟩) Y0.out.less ?_
  rotate_left
  · (intro v hSw; have k := hSw.b0.cell; go_simp; try with_reducible rfl)
  simp only [Act.put, List.setIfInBounds_toArray, List.set_cons_zero, List.set_cons_succ, List.getElem_toArray, List.getElem_cons_zero]
  refine wpAnyH_take (i := 1) (v := ?_) rfl (by kernel_rfl) (by kernel_rfl) (by kernel_rfl) (fun _ _ _ h => h) (Or.inl ⟨by rfl, ?_⟩) Y0.out.less ?_
  rotate_left
  · (intro v hSw; go_simp; try with_reducible rfl)
  simp only [Act.put, List.setIfInBounds_toArray, List.set_cons_zero, List.set_cons_succ, List.getElem_toArray, List.getElem_cons_zero, List.getElem_cons_succ]
  refine wpAnyH_ready (rs := [2]) (by kernel_rfl) (by simp) ?_
  refine AllReadyH.cons rfl (fun K hK => ?_) AllReadyH.nil
  go_simp
  refine (HP.out _).mono ?_
  rintro e v1 ⟨rfl, hb⟩
  go_wp2_with fail
  have Y1 := Lib.hid (Y0.out.up hb)
  refine hK.out _ _ Y1.out.less (fun _ => ?_)
  clear hK K Y0
  refine wpAnyH_ready (rs := [3]) (by kernel_rfl) (by simp) ?_
  refine AllReadyH.cons rfl (fun K hK => ?_) AllReadyH.nil
  go_simp
  refine (HS.out _).mono ?_
  rintro e v2 ⟨rfl, hb⟩
  go_wp2_with fail
  have Y2 := Lib.hid (Y1.out.up hb)
  refine hK.out _ _ Y2.out.less (fun _ => ?_)
  clear hK K Y1
  refine wpAnyH_ready (rs := [4]) (by kernel_rfl) (by simp) ?_
  refine AllReadyH.cons rfl (fun K hK => ?_) AllReadyH.nil
  go_simp
  refine (HW.out _ Y2.out.below).mono ?_
  rintro e v3 ⟨A1, B1, n1, m1, rfl, hm1, hb⟩
  go_wp2_with fail
  have Y3 := Lib.hid (Y2.out.up hb)
  refine hK.out _ _ Y3.out.less (fun _ => ?_)
  clear hK K Y2
  refine wpAnyH_take (i := 5) (v := ?_) rfl (by kernel_rfl) (by kernel_rfl) (by kernel_rfl) (fun _ _ _ h => h) (Or.inl ⟨by rfl, ?_⟩) Y3.out.less ?_
  rotate_left
  · (intro v hSw; go_simp; try with_reducible rfl)
  simp only [Act.put, List.setIfInBounds_toArray, List.set_cons_zero, List.set_cons_succ, List.getElem_toArray, List.getElem_cons_zero, List.getElem_cons_succ]
  refine wpAnyH_take (i := 6) (v := ?_) rfl (by kernel_rfl) (by kernel_rfl) (by kernel_rfl) (fun _ _ _ h => h) (Or.inl ⟨by rfl, ?_⟩) Y3.out.less ?_
  rotate_left
  · (intro v hSw; go_simp; try with_reducible rfl)
  simp only [Act.put, List.setIfInBounds_toArray, List.set_cons_zero, List.set_cons_succ, List.getElem_toArray, List.getElem_cons_zero, List.getElem_cons_succ]
  refine wpAnyH_ready (rs := [7]) (by kernel_rfl) (by simp) ?_
  refine AllReadyH.cons rfl (fun K hK => ?_) AllReadyH.nil
  have HM1 := Lib.hid hm1
  clear hm1
  have kr := Y3.out.b0.cell
  have fr := Y3.out.b0.frozen
  simp only [World.size_alloc] at kr fr
  go_simp
  have HF := Lib.hid ((Y3.out.free (n := 4) (by simp; try omega) (by simp; try omega) rfl).set4 (b := w.heap.size + 1) ⟨4, by simp⟩ (.slice A1 s1.length n1) (.slice B1 c1.length m1) (.int .i64 f1) (.bool x1)).done
  refine hK.out _ _ HF.out (fun _ => ?_)
  clear hK K
  refine wpAnyH_take (i := 8) (v := ?_) rfl (by kernel_rfl) (by kernel_rfl) (by kernel_rfl) (fun _ _ _ h => h) (Or.inl ⟨by rfl, ?_⟩) HF.out ?_
  rotate_left
  · (intro v hSw; go_simp; try with_reducible rfl)
  simp only [Act.put, List.setIfInBounds_toArray, List.set_cons_zero, List.set_cons_succ, List.getElem_toArray, List.getElem_cons_zero, List.getElem_cons_succ]
  refine wpAnyH_done (by kernel_rfl) ?_ _
  go_wp2_with fail
  refine bodyPost_ret (v := .tuple #[.agg #[.slice A1 s1.length n1, .slice B1 c1.length m1, .int .i64 f1, .bool x1], .int .i64 e1]) (by simp [results, Tryz.results262, go_sem, kr]) rfl ⟨A1, B1, n1, m1, rfl, ?_, ?_⟩
  · exact HM1.out.four (by simpa using Y3.out.b0) _ _ _ _ _ _ _ _
  · exact HF.out.below
set_option maxRecDepth 100000 in
set_option maxHeartbeats 4000000 in
theorem rbsave_stops (A B : Option Addr) (n m : Nat) (s : List ByteArray) (c : List Wr) (f : Int) (x : Bool) (k : Nat) (w : World) (s1 : List ByteArray) (c1 : List Wr) (f1 : Int) (x1 : Bool) (e1 : Int) (hn : ∀ v, Below w.heap.size w v → Calls Tryz.prog 262 #[.agg #[.slice A s.length n, .slice B c.length m, .int .i64 f, .bool x], .int .u32 (k : Nat)] v (GivesD s1 c1 f1 x1 e1 v)) (h1 : e1 ≠ 0) :
    Calls Tryz.prog 254 #[.agg #[.slice A s.length n, .slice B c.length m, .int .i64 f, .bool x], .int .u32 (k : Nat)] w (GivesD s1 c1 f1 x1 e1 w) := by
  have hnb : ((e1 : Int) != 0) = true := by simp [bne, beq_eq_false_iff_ne.2 h1]
  have hne : ((e1 : Int) == 0) = false := beq_eq_false_iff_ne.2 h1
  clear h1
  have HN := Lib.hid hn; clear hn
  have H0 := Lib.hid (((Held.refl w).lay [.slice A s.length n, .slice B c.length m, .int .i64 f, .bool x] 30).own [.slice none 0 0, .slice none 0 0, .int .i64 0, .bool false] 30 (n := 4) rfl)
  have BR := Lib.hid (Box.new (w.alloc (.cells #[.slice A s.length n, .slice B c.length m, .int .i64 f, .bool x] 30)) [.slice none 0 0, .slice none 0 0, .int .i64 0, .bool false] 30)
  go_enter Tryz.func254, Tryz.ntmps254
  have kd := H0.out.b0.cell
  go_wp2_with fail
  clear kd
  refine (HN.out _ H0.out.below).mono ?_
  rintro e w1 ⟨A1, B1, n1, m1, rfl, hm1, hb⟩
  have H1 := Lib.hid ((H0.out.up hb).lay [.slice A1 s1.length n1, .slice B1 c1.length m1, .int .i64 f1, .bool x1] 30)
  have BR1 := Lib.hid ((BR.out.below hb).alloc (.cells #[.slice A1 s1.length n1, .slice B1 c1.length m1, .int .i64 f1, .bool x1] 30))
  have HM1 := Lib.hid (hm1.up (below1 (o := .cells #[.slice A1 s1.length n1, .slice B1 c1.length m1, .int .i64 f1, .bool x1] 30)))
  clear hb hm1 H0 BR
  have kx := H1.out.b0.cell
  have kr := BR1.out.cell
  have fr := BR1.out.frozen
  simp only [World.size_alloc] at kr fr
  go_wp2_with fail
  refine bodyPost_ret (v := .tuple #[.agg #[.slice A1 s1.length n1, .slice B1 c1.length m1, .int .i64 f1, .bool x1], .int .i64 e1]) (by simp [results, Tryz.results254, go_sem, kr]) rfl ⟨A1, B1, n1, m1, rfl, ?_, ?_⟩
  · exact HM1.out.four (by simpa using BR1.out) _ _ _ _ _ _ _ _
  · exact (H1.out.set4 (b := w.heap.size + 1) ⟨4, by simp⟩ _ _ _ _).below
set_option maxRecDepth 100000 in
set_option maxHeartbeats 4000000 in
theorem rbsave_goes (A B : Option Addr) (n m : Nat) (s : List ByteArray) (c : List Wr) (f : Int) (x : Bool) (k : Nat) (w : World) (s1 : List ByteArray) (c1 : List Wr) (f1 : Int) (x1 : Bool) (hn : ∀ v, Below w.heap.size w v → Calls Tryz.prog 262 #[.agg #[.slice A s.length n, .slice B c.length m, .int .i64 f, .bool x], .int .u32 (k : Nat)] v (GivesD s1 c1 f1 x1 0 v)) (s2 : List ByteArray) (c2 : List Wr) (f2 : Int) (x2 : Bool) (e3 : Int) (hg : ∀ (A1 B1 : Option Addr) (n1 m1 : Nat) (v : World), Mem v A1 n1 B1 m1 s1 c1 → Calls Tryz.prog 253 #[.agg #[.slice A1 s1.length n1, .slice B1 c1.length m1, .int .i64 f1, .bool x1]] v (GivesD s2 c2 f2 x2 e3 v)) :
    Calls Tryz.prog 254 #[.agg #[.slice A s.length n, .slice B c.length m, .int .i64 f, .bool x], .int .u32 (k : Nat)] w (GivesD s2 c2 f2 x2 e3 w) := by
  have HN := Lib.hid hn; clear hn
  have HG := Lib.hid hg; clear hg
  have H0 := Lib.hid (((Held.refl w).lay [.slice A s.length n, .slice B c.length m, .int .i64 f, .bool x] 30).own [.slice none 0 0, .slice none 0 0, .int .i64 0, .bool false] 30 (n := 4) rfl)
  have BR := Lib.hid (Box.new (w.alloc (.cells #[.slice A s.length n, .slice B c.length m, .int .i64 f, .bool x] 30)) [.slice none 0 0, .slice none 0 0, .int .i64 0, .bool false] 30)
  go_enter Tryz.func254, Tryz.ntmps254
  have kd := H0.out.b0.cell
  go_wp2_with fail
  clear kd
  refine (HN.out _ H0.out.below).mono ?_
  rintro e w1 ⟨A1, B1, n1, m1, rfl, hm1, hb⟩
  have H1 := Lib.hid ((H0.out.up hb).lay [.slice A1 s1.length n1, .slice B1 c1.length m1, .int .i64 f1, .bool x1] 30)
  have BR1 := Lib.hid ((BR.out.below hb).alloc (.cells #[.slice A1 s1.length n1, .slice B1 c1.length m1, .int .i64 f1, .bool x1] 30))
  have HM1 := Lib.hid (hm1.up (below1 (o := .cells #[.slice A1 s1.length n1, .slice B1 c1.length m1, .int .i64 f1, .bool x1] 30)))
  clear hb hm1 H0 BR
  have kx := H1.out.b0.cell
  have kr := BR1.out.cell
  have fr := BR1.out.frozen
  simp only [World.size_alloc] at kr fr
  go_wp2_with fail
  clear kx kr fr
  refine (HG.out A1 B1 n1 m1 _ HM1.out).mono ?_
  rintro e w5 ⟨A2, B2, n2, m2, rfl, hm5, hb⟩
  have H5 := Lib.hid (H1.out.up hb)
  have BR5 := Lib.hid (BR1.out.below hb)
  have HM5 := Lib.hid hm5
  clear hb hm5 H1 BR1 HM1
  have kr := BR5.out.cell
  have fr := BR5.out.frozen
  simp only [World.size_alloc] at kr fr
  go_wp2_with fail
  refine bodyPost_ret (v := .tuple #[.agg #[.slice A2 s2.length n2, .slice B2 c2.length m2, .int .i64 f2, .bool x2], .int .i64 e3]) (by simp [results, Tryz.results254, go_sem, kr]) rfl ⟨A2, B2, n2, m2, rfl, ?_, ?_⟩
  · exact HM5.out.four (by simpa using BR5.out) _ _ _ _ _ _ _ _
  · exact (H5.out.set4 (b := w.heap.size + 1) ⟨4, by simp⟩ _ _ _ _).below
end Go.Proofs.YtkjikigimmchlaaGreatDoor
namespace Go.Proofs.YtkjikigimmchlaaGreatDoor
open Go.RowKit
def loadT (n : Nat) (b : ByteArray) : Nat × Int :=
  if openE b = 0 then (if (numL (openT b)).2 = true then (if mrightB (numL (openT b)).1 ((n : Int) - 2) = true then ((numL (openT b)).1, 0) else (0, 2)) else (0, 2)) else (0, openE b)
def loadB (s : List ByteArray) (c : List Wr) (x : Bool) : Nat × Int := if reachE s.length 1 x = 0 then loadT s.length (holdsL c 1 (s.getD 1 e0)) else (0, reachE s.length 1 x)
def bytesM (k : Nat) : ByteArray := txt (sealed (be 4 k))
theorem bytesM_size (k : Nat) : (bytesM k).size = 8 := by
  unfold bytesM
  rw [txt_size, seal_length, be_length]
def noteB (s : List ByteArray) (c : List Wr) (f : Int) (x : Bool) (k : Nat) : Ans :=
  if mrightB k ((s.length : Int) - 2) = true then (if x = true then ⟨s, c, f, true, 6⟩ else if f = 1 then ⟨s, c, 0, true, 6⟩ else ⟨s, c ++ [(1, bytesM k)], burnF f, false, 0⟩) else ⟨s, c, f, x, 1⟩
def saveB (s : List ByteArray) (c : List Wr) (f : Int) (x : Bool) (k : Nat) : Ans :=
  if mrightB k ((s.length : Int) - 2) = true then (if x = true then ⟨s, c, f, true, 6⟩ else if f = 1 then ⟨s, c, 0, true, 6⟩ else if f = 2 then ⟨s, c ++ [(1, bytesM k)], 0, true, 6⟩ else ⟨layL s (c ++ [(1, bytesM k)]), [], burnF (burnF f), false, 0⟩) else ⟨s, c, f, x, 1⟩
theorem mright_len {k n : Nat} (h : mrightB k ((n : Int) - 2) = true) : 3 ≤ n := by
  unfold mrightB at h
  simp only [Bool.and_eq_true, decide_eq_true_eq] at h
  omega
theorem bput_mask (k : Nat) (hk : k < 4294967296) (w : World) : Calls Tryz.prog 208 #[.int .u32 (k : Nat)] w fun e w' => e = .returned (.string (txt (be 4 k))) ∧ Below w.heap.size w w' := by
  have := put32_any (k : Int) w (by omega) (by omega)
  rw [Int.toNat_natCast] at this
  exact this
theorem bseal_mask (k : Nat) (w : World) : Calls Tryz.prog 162 #[.string (txt (be 4 k))] w fun e w' => e = .returned (.string (bytesM k)) ∧ Below w.heap.size w w' :=
  seal_any (txt (be 4 k)) w (by rw [txt_size, be_length]; decide)
set_option maxRecDepth 100000 in
theorem bnote_any (A B : Option Addr) (n m : Nat) (s : List ByteArray) (c : List Wr) (f : Int) (x : Bool) (k : Nat) (w : World) (hm : Mem w A n B m s c) (hk : k < 4294967296) (hl : s.length ≤ 64) (hc : c.length ≤ 900) (hf : f < 9223372036854775808) :
    Calls Tryz.prog 182 #[.agg #[.slice A s.length n, .slice B c.length m, .int .i64 f, .bool x], .int .u32 (k : Nat)] w (GivesD (noteB s c f x k).s (noteB s c f x k).c (noteB s c f x k).f (noteB s c f x k).x (noteB s c f x k).e w) := by
  have hp := fun v => bput_mask k hk v
  have hs := fun v => bseal_mask k v
  have hz : ¬ 64 < ((bytesM k).size : Int) := by rw [bytesM_size]; decide
  unfold noteB
  generalize bytesM k = y at *
  generalize txt (be 4 k) = t at *
  cases hn : mrightB k ((s.length : Int) - 2) with
  | false =>
    rw [if_neg (by simp)]
    exact bnote_misfit A B n m s c f x k w hm (by omega) hk hn
  | true =>
    have h3 := mright_len hn
    have hrf : reachE s.length 1 false = 0 := reach_in (by omega) (by omega)
    rw [if_pos rfl]
    cases x with
    | true =>
      rw [if_pos rfl]
      exact bnote_goes A B n m s c f true k w (by omega) hk hn t y hp hs s c f true 6 (fun v hb => write_stops A B n m s c f 1 true y v (hm.up hb) (by rw [reach_dead]; decide))
    | false =>
      rw [if_neg (by simp)]
      by_cases hf1 : f = 1
      · subst hf1
        rw [if_pos rfl]
        exact bnote_goes A B n m s c 1 false k w (by omega) hk hn t y hp hs s c 0 true 6 (fun v hb => write_dies A B n m s c 1 1 false y v (hm.up hb) hrf hz (by decide) rfl)
      · rw [if_neg hf1]
        have hbd : burnD f false = false := by unfold burnD; rw [if_neg hf1]
        exact bnote_goes A B n m s c f false k w (by omega) hk hn t y hp hs s (c ++ [(1, y)]) (burnF f) false 0 (fun v hb => write_any A B n m s c f 1 false y v (hm.up hb) hrf hz hf hbd (by omega))
set_option maxRecDepth 100000 in
theorem bsave_any (A B : Option Addr) (n m : Nat) (s : List ByteArray) (c : List Wr) (f : Int) (x : Bool) (k : Nat) (w : World) (hm : Mem w A n B m s c) (hk : k < 4294967296) (hl : s.length ≤ 64) (hc : c.length ≤ 900) (hf : f < 9223372036854775808) (hx : c.any (misfitW s.length) = false) :
    Calls Tryz.prog 217 #[.agg #[.slice A s.length n, .slice B c.length m, .int .i64 f, .bool x], .int .u32 (k : Nat)] w (GivesD (saveB s c f x k).s (saveB s c f x k).c (saveB s c f x k).f (saveB s c f x k).x (saveB s c f x k).e w) := by
  have hno := fun v (hb : Below w.heap.size w v) => bnote_any A B n m s c f x k v (hm.up hb) hk hl hc hf
  unfold noteB at hno
  unfold saveB
  have hz := bytesM_size k
  generalize bytesM k = y at *
  cases hn : mrightB k ((s.length : Int) - 2) with
  | false =>
    simp only [hn, Bool.false_eq_true, if_false] at hno ⊢
    exact bsave_stops A B n m s c f x k w s c f x 1 hno (by decide)
  | true =>
    have h3 := mright_len hn
    simp only [hn, if_true] at hno ⊢
    cases x with
    | true =>
      simp only [if_true] at hno ⊢
      exact bsave_stops A B n m s c f true k w s c f true 6 hno (by decide)
    | false =>
      simp only [Bool.false_eq_true, if_false] at hno ⊢
      by_cases hf1 : f = 1
      · subst hf1
        simp only [if_true] at hno ⊢
        exact bsave_stops A B n m s c 1 false k w s c 0 true 6 hno (by decide)
      · rw [if_neg hf1] at hno ⊢
        have hx2 := fit_add (i := 1) (b := y) (by omega) (by omega) hx (by omega)
        have hlen : (c ++ [((1 : Int), y)]).length ≤ 1000 := by rw [List.length_append]; simp; omega
        generalize c ++ [((1 : Int), y)] = z at *
        by_cases hf2 : f = 2
        · subst hf2
          rw [if_pos rfl]
          refine bsave_goes A B n m s c 2 false k w s z 1 false hno s z 0 true 6 (fun A1 B1 n1 m1 v hv => ?_)
          refine (flush_dies A1 B1 s.length n1 z.length m1 v).mono ?_
          rintro e v' ⟨rfl, hb⟩
          exact ⟨A1, B1, n1, m1, rfl, hv.up hb, hb⟩
        · rw [if_neg hf2]
          have hb1 : burnF f ≠ 1 := by unfold burnF; split <;> (try split) <;> omega
          have hb2 : burnF f < 9223372036854775808 := by unfold burnF; split <;> (try split) <;> omega
          exact bsave_goes A B n m s c f false k w s z (burnF f) false hno (layL s z) [] (burnF (burnF f)) false 0 (fun A1 B1 n1 m1 v hv =>
            flush_any A1 B1 n1 m1 s z (burnF f) v hv hl (by unfold maxLen; omega) hb2 hb1 hx2)
set_option maxRecDepth 100000 in
theorem rbload_any (A B : Option Addr) (n m : Nat) (s : List ByteArray) (c : List Wr) (f : Int) (x : Bool) (w : World) (hm : Mem w A n B m s c) (hl : s.length ≤ 64) (hc : c.length ≤ 1000) (hz : ((holdsL c 1 (s.getD 1 e0)).size : Int) ≤ 3000) :
    Calls Tryz.prog 131 #[.agg #[.slice A s.length n, .slice B c.length m, .int .i64 f, .bool x]] w fun e w' => e = .returned (.tuple #[.int .u32 ((loadB s c x).1 : Nat), .int .i64 (loadB s c x).2]) ∧ Below w.heap.size w w' := by
  unfold loadB
  by_cases h0 : reachE s.length 1 x = 0
  · rw [if_pos h0]
    obtain ⟨hx, _, h1⟩ := reach_zero h0
    subst hx
    have hi : s[1]? = some (s.getD 1 e0) := by rw [List.getD_eq_getElem?_getD, List.getElem?_eq_getElem (by omega)]; rfl
    generalize s.getD 1 e0 = t at *
    have hr : ∀ v, Below w.heap.size w v → Calls Tryz.prog 189 #[.agg #[.slice A s.length n, .slice B c.length m, .int .i64 f, .bool false], .int .i64 1] v fun e v' => e = .returned (.tuple #[.string (holdsL c 1 t), .int .i64 0]) ∧ Below v.heap.size v v' :=
      fun v hb => rread_any A B n m s c f 1 t v (hm.up hb) hi (by unfold maxLen; omega)
    have ho := fun v => ropen_any (holdsL c 1 t) v hz
    generalize holdsL c 1 t = y at *
    unfold loadT
    by_cases he : openE y = 0
    · rw [if_pos he]
      rw [he] at ho
      have hg := fun v => rget32_any (openT y) v
      have hk := numL_lt (openT y)
      generalize openT y = u at *
      generalize numL u = q at *
      obtain ⟨k, b⟩ := q
      dsimp only at *
      cases b with
      | false =>
        rw [if_neg (by simp)]
        exact rbload_none A B n m s c f false w y u k hr ho hg
      | true =>
        rw [if_pos rfl]
        cases hn : mrightB k ((s.length : Int) - 2) with
        | true =>
          rw [if_pos rfl]
          exact rbload_yes A B n m s c f false w y u k hr ho hg (by omega) hk hn
        | false =>
          rw [if_neg (by simp)]
          exact rbload_misfit A B n m s c f false w y u k hr ho hg (by omega) hk hn
    · rw [if_neg he]
      exact rbload_bad A B n m s c f false w y (openT y) (openE y) hr ho he
  · rw [if_neg h0]
    exact rbload_stops A B n m s c f x w ⟨#[]⟩ (reachE s.length 1 x) (fun v _ => rread_stops A B n m s c f 1 x v h0) h0
theorem rbput_mask (k : Nat) (hk : k < 4294967296) (w : World) : Calls Tryz.prog 84 #[.int .u32 (k : Nat)] w fun e w' => e = .returned (.string (txt (be 4 k))) ∧ Below w.heap.size w w' := by
  have := rput32_any (k : Int) w (by omega) (by omega)
  rw [Int.toNat_natCast] at this
  exact this
theorem rbseal_mask (k : Nat) (w : World) : Calls Tryz.prog 54 #[.string (txt (be 4 k))] w fun e w' => e = .returned (.string (bytesM k)) ∧ Below w.heap.size w w' :=
  rseal_any (txt (be 4 k)) w (by rw [txt_size, be_length]; decide)
set_option maxRecDepth 100000 in
theorem rbnote_any (A B : Option Addr) (n m : Nat) (s : List ByteArray) (c : List Wr) (f : Int) (x : Bool) (k : Nat) (w : World) (hm : Mem w A n B m s c) (hk : k < 4294967296) (hl : s.length ≤ 64) (hc : c.length ≤ 900) (hf : f < 9223372036854775808) :
    Calls Tryz.prog 262 #[.agg #[.slice A s.length n, .slice B c.length m, .int .i64 f, .bool x], .int .u32 (k : Nat)] w (GivesD (noteB s c f x k).s (noteB s c f x k).c (noteB s c f x k).f (noteB s c f x k).x (noteB s c f x k).e w) := by
  have hp := fun v => rbput_mask k hk v
  have hs := fun v => rbseal_mask k v
  have hz : ¬ 64 < ((bytesM k).size : Int) := by rw [bytesM_size]; decide
  unfold noteB
  generalize bytesM k = y at *
  generalize txt (be 4 k) = t at *
  cases hn : mrightB k ((s.length : Int) - 2) with
  | false =>
    rw [if_neg (by simp)]
    exact rbnote_misfit A B n m s c f x k w hm (by omega) hk hn
  | true =>
    have h3 := mright_len hn
    have hrf : reachE s.length 1 false = 0 := reach_in (by omega) (by omega)
    rw [if_pos rfl]
    cases x with
    | true =>
      rw [if_pos rfl]
      exact rbnote_goes A B n m s c f true k w (by omega) hk hn t y hp hs s c f true 6 (fun v hb => rwrite_stops A B n m s c f 1 true y v (hm.up hb) (by rw [reach_dead]; decide))
    | false =>
      rw [if_neg (by simp)]
      by_cases hf1 : f = 1
      · subst hf1
        rw [if_pos rfl]
        exact rbnote_goes A B n m s c 1 false k w (by omega) hk hn t y hp hs s c 0 true 6 (fun v hb => rwrite_dies A B n m s c 1 1 false y v (hm.up hb) hrf hz (by decide) rfl)
      · rw [if_neg hf1]
        have hbd : burnD f false = false := by unfold burnD; rw [if_neg hf1]
        exact rbnote_goes A B n m s c f false k w (by omega) hk hn t y hp hs s (c ++ [(1, y)]) (burnF f) false 0 (fun v hb => rwrite_any A B n m s c f 1 false y v (hm.up hb) hrf hz hf hbd (by omega))
set_option maxRecDepth 100000 in
theorem rbsave_any (A B : Option Addr) (n m : Nat) (s : List ByteArray) (c : List Wr) (f : Int) (x : Bool) (k : Nat) (w : World) (hm : Mem w A n B m s c) (hk : k < 4294967296) (hl : s.length ≤ 64) (hc : c.length ≤ 900) (hf : f < 9223372036854775808) (hx : c.any (misfitW s.length) = false) :
    Calls Tryz.prog 254 #[.agg #[.slice A s.length n, .slice B c.length m, .int .i64 f, .bool x], .int .u32 (k : Nat)] w (GivesD (saveB s c f x k).s (saveB s c f x k).c (saveB s c f x k).f (saveB s c f x k).x (saveB s c f x k).e w) := by
  have hno := fun v (hb : Below w.heap.size w v) => rbnote_any A B n m s c f x k v (hm.up hb) hk hl hc hf
  unfold noteB at hno
  unfold saveB
  have hz := bytesM_size k
  generalize bytesM k = y at *
  cases hn : mrightB k ((s.length : Int) - 2) with
  | false =>
    simp only [hn, Bool.false_eq_true, if_false] at hno ⊢
    exact rbsave_stops A B n m s c f x k w s c f x 1 hno (by decide)
  | true =>
    have h3 := mright_len hn
    simp only [hn, if_true] at hno ⊢
    cases x with
    | true =>
      simp only [if_true] at hno ⊢
      exact rbsave_stops A B n m s c f true k w s c f true 6 hno (by decide)
    | false =>
      simp only [Bool.false_eq_true, if_false] at hno ⊢
      by_cases hf1 : f = 1
      · subst hf1
        simp only [if_true] at hno ⊢
        exact rbsave_stops A B n m s c 1 false k w s c 0 true 6 hno (by decide)
      · rw [if_neg hf1] at hno ⊢
        have hx2 := fit_add (i := 1) (b := y) (by omega) (by omega) hx (by omega)
        have hlen : (c ++ [((1 : Int), y)]).length ≤ 1000 := by rw [List.length_append]; simp; omega
        generalize c ++ [((1 : Int), y)] = z at *
        by_cases hf2 : f = 2
        · subst hf2
          rw [if_pos rfl]
          refine rbsave_goes A B n m s c 2 false k w s z 1 false hno s z 0 true 6 (fun A1 B1 n1 m1 v hv => ?_)
          refine (rflush_dies A1 B1 s.length n1 z.length m1 v).mono ?_
          rintro e v' ⟨rfl, hb⟩
          exact ⟨A1, B1, n1, m1, rfl, hv.up hb, hb⟩
        · rw [if_neg hf2]
          have hb1 : burnF f ≠ 1 := by unfold burnF; split <;> (try split) <;> omega
          have hb2 : burnF f < 9223372036854775808 := by unfold burnF; split <;> (try split) <;> omega
          exact rbsave_goes A B n m s c f false k w s z (burnF f) false hno (layL s z) [] (burnF (burnF f)) false 0 (fun A1 B1 n1 m1 v hv =>
            rflush_any A1 B1 n1 m1 s z (burnF f) v hv hl (by unfold maxLen; omega) hb2 hb1 hx2)
end Go.Proofs.YtkjikigimmchlaaGreatDoor
namespace Go.Proofs.YtkjikigimmchlaaGreatDoor
open Go.RowKit
theorem num_bytes (k : Nat) (hk : k < 4294967296) : numL (txt (be 4 k)) = (k, true) := by
  unfold numL
  rw [if_pos (by rw [txt_size, be_length]), txt_data, val_be, Nat.mod_eq_of_lt (by omega)]
theorem load_mask {n k : Nat} (hk : k < 4294967296) (h : mrightB k ((n : Int) - 2) = true) : loadT n (bytesM k) = (k, 0) := by
  obtain ⟨h1, h2⟩ := open_sealed (be 4 k)
  unfold loadT bytesM
  rw [h1, h2, num_bytes k hk]
  dsimp only
  rw [if_pos rfl, if_pos rfl, if_pos h]
end Go.Proofs.YtkjikigimmchlaaGreatDoor
