/- The superblock on a disk, layer 7: whether it fits; what both Loads and both Commits answer, over what the calls that they make answer. No other condition but that the lists lie in memory. -/
import Derived.Test.YtkjikigimmchlaaGreatDoorS7d
import Derived.Test.YtkjikigimmchlaaGreatDoorKA
import Derived.Test.YtkjikigimmchlaaGreatDoorKG
namespace Go.Proofs.YtkjikigimmchlaaGreatDoor
open Go.RowKit
set_option maxRecDepth 100000 in
set_option maxHeartbeats 1000000 in
theorem fits_any (A B : Option Addr) (n1 n2 m1 m2 : Nat) (f : Int) (x : Bool) (b : Sup) (w : World) (hl : (n1 : Int) ≤ 1000000) :
    Calls Tryz.prog 227 #[.agg #[.slice A n1 n2, .slice B m1 m2, .int .i64 f, .bool x], supV b] w fun e w' => e = .returned (.bool ((n1 : Int) - 2 == b.n)) ∧ Below w.heap.size w w' := by
  obtain ⟨bn, bc, bb, bo, bp, bi, br, bd⟩ := b
  dsimp only [supV]
  go_enter Tryz.func227, Tryz.ntmps227
  go_wp2
  go_ret
  exact ⟨rfl, below2⟩
set_option maxRecDepth 100000 in
set_option maxHeartbeats 1000000 in
theorem rfits_any (A B : Option Addr) (n1 n2 m1 m2 : Nat) (f : Int) (x : Bool) (b : Sup) (w : World) (hl : (n1 : Int) ≤ 1000000) :
    Calls Tryz.prog 191 #[.agg #[.slice A n1 n2, .slice B m1 m2, .int .i64 f, .bool x], supV b] w fun e w' => e = .returned (.bool ((n1 : Int) - 2 == b.n)) ∧ Below w.heap.size w w' := by
  obtain ⟨bn, bc, bb, bo, bp, bi, br, bd⟩ := b
  dsimp only [supV]
  go_enter Tryz.func191, Tryz.ntmps191
  go_wp2
  go_ret
  exact ⟨rfl, below2⟩
set_option maxRecDepth 100000 in
set_option maxHeartbeats 2000000 in
theorem rload_stops (A B : Option Addr) (n m : Nat) (s : List ByteArray) (c : List Wr) (f : Int) (x : Bool) (w : World) (y : ByteArray) (e1 : Int) (hr : ∀ v, Below w.heap.size w v → Calls Tryz.prog 189 #[.agg #[.slice A s.length n, .slice B c.length m, .int .i64 f, .bool x], .int .i64 0] v fun e v' => e = .returned (.tuple #[.string y, .int .i64 e1]) ∧ Below v.heap.size v v') (h1 : e1 ≠ 0) :
    Calls Tryz.prog 130 #[.agg #[.slice A s.length n, .slice B c.length m, .int .i64 f, .bool x]] w fun e w' => e = .returned (.tuple #[.agg #[.int .i64 0, .int .u64 0, .int .u64 0, .int .u64 0, .int .u64 0, .bool false, .bool false, .bool false], .int .i64 e1]) ∧ Below w.heap.size w w' := by
  have hne : (e1 == 0) = false := beq_eq_false_iff_ne.2 h1
  have hnb : (e1 != 0) = true := by simp [bne, hne]
  clear h1
  have HR := Lib.hid hr; clear hr
  have H0 := Lib.hid (((Held.refl w).lay [.slice A s.length n, .slice B c.length m, .int .i64 f, .bool x] 30).own [.int .i64 0, .int .u64 0, .int .u64 0, .int .u64 0, .int .u64 0, .bool false, .bool false, .bool false] 36 (n := 8) rfl)
  go_enter Tryz.func130, Tryz.ntmps130
  go_wp2_with fail
  refine (HR.out _ H0.out.below).mono ?_
  rintro e w1 ⟨rfl, hb⟩
  have H1 := Lib.hid (H0.out.up hb)
  clear hb H0
  obtain ⟨u0, u1, u2, u3, u4, u5, u6, u7, hx⟩ := H1.out.o0.eight
  simp only [World.size_alloc] at hx
  have kx := hx.cell
  have fx := hx.frozen
  go_wp2_with fail
  refine bodyPost_ret (v := .tuple #[.agg #[.int .i64 0, .int .u64 0, .int .u64 0, .int .u64 0, .int .u64 0, .bool false, .bool false, .bool false], .int .i64 e1]) (by simp [results, Tryz.results130, go_sem, kx]) rfl ⟨rfl, (H1.out.set8 ⟨8, by simp⟩ _ _ _ _ _ _ _ _).below⟩
set_option maxRecDepth 100000 in
set_option maxHeartbeats 2000000 in
theorem rload_bad (A B : Option Addr) (n m : Nat) (s : List ByteArray) (c : List Wr) (f : Int) (x : Bool) (w : World) (y : ByteArray) (b : Sup) (e2 : Int) (hr : ∀ v, Below w.heap.size w v → Calls Tryz.prog 189 #[.agg #[.slice A s.length n, .slice B c.length m, .int .i64 f, .bool x], .int .i64 0] v fun e v' => e = .returned (.tuple #[.string y, .int .i64 0]) ∧ Below v.heap.size v v') (hd : ∀ v, Below w.heap.size w v → Calls Tryz.prog 190 #[.string y] v fun e v' => e = .returned (.tuple #[supV b, .int .i64 e2]) ∧ Below v.heap.size v v') (h2 : e2 ≠ 0) :
    Calls Tryz.prog 130 #[.agg #[.slice A s.length n, .slice B c.length m, .int .i64 f, .bool x]] w fun e w' => e = .returned (.tuple #[.agg #[.int .i64 0, .int .u64 0, .int .u64 0, .int .u64 0, .int .u64 0, .bool false, .bool false, .bool false], .int .i64 e2]) ∧ Below w.heap.size w w' := by
  obtain ⟨bn, bc, bb, bo, bp, bi, br, bd⟩ := b
  dsimp only [supV] at *
  have hne : (e2 == 0) = false := beq_eq_false_iff_ne.2 h2
  have hnb : (e2 != 0) = true := by simp [bne, hne]
  clear h2
  have HR := Lib.hid hr; clear hr
  have HD := Lib.hid hd; clear hd
  have H0 := Lib.hid (((Held.refl w).lay [.slice A s.length n, .slice B c.length m, .int .i64 f, .bool x] 30).own [.int .i64 0, .int .u64 0, .int .u64 0, .int .u64 0, .int .u64 0, .bool false, .bool false, .bool false] 36 (n := 8) rfl)
  go_enter Tryz.func130, Tryz.ntmps130
  go_wp2_with fail
  refine (HR.out _ H0.out.below).mono ?_
  rintro e w1 ⟨rfl, hb⟩
  have H1 := Lib.hid (H0.out.up hb)
  clear hb H0
  obtain ⟨u0, u1, u2, u3, u4, u5, u6, u7, hx⟩ := H1.out.o0.eight
  simp only [World.size_alloc] at hx
  go_wp2_with fail
  refine (HD.out _ H1.out.below).mono ?_
  rintro e w2 ⟨rfl, hb⟩
  have H2 := Lib.hid ((H1.out.up hb).lay [.int .i64 bn, .int .u64 bc, .int .u64 bb, .int .u64 bo, .int .u64 bp, .bool bi, .bool br, .bool bd] 36)
  have hx2 := (hx.below hb).alloc (.cells #[.int .i64 bn, .int .u64 bc, .int .u64 bb, .int .u64 bo, .int .u64 bp, .bool bi, .bool br, .bool bd] 36)
  have hb1 := (H1.out.b0.below hb).alloc (.cells #[.int .i64 bn, .int .u64 bc, .int .u64 bb, .int .u64 bo, .int .u64 bp, .bool bi, .bool br, .bool bd] 36)
  clear hb hx H1
  have kx := hx2.cell
  have fx := hx2.frozen
  go_wp2_with fail
  refine bodyPost_ret (v := .tuple #[.agg #[.int .i64 0, .int .u64 0, .int .u64 0, .int .u64 0, .int .u64 0, .bool false, .bool false, .bool false], .int .i64 e2]) (by simp [results, Tryz.results130, go_sem, kx]) rfl ⟨rfl, (H2.out.set8 ⟨8, by simp⟩ _ _ _ _ _ _ _ _).below⟩
set_option maxRecDepth 100000 in
set_option maxHeartbeats 2000000 in
theorem rload_misfit (A B : Option Addr) (n m : Nat) (s : List ByteArray) (c : List Wr) (f : Int) (x : Bool) (w : World) (y : ByteArray) (b : Sup) (hr : ∀ v, Below w.heap.size w v → Calls Tryz.prog 189 #[.agg #[.slice A s.length n, .slice B c.length m, .int .i64 f, .bool x], .int .i64 0] v fun e v' => e = .returned (.tuple #[.string y, .int .i64 0]) ∧ Below v.heap.size v v') (hd : ∀ v, Below w.heap.size w v → Calls Tryz.prog 190 #[.string y] v fun e v' => e = .returned (.tuple #[supV b, .int .i64 0]) ∧ Below v.heap.size v v') (hl : (s.length : Int) ≤ 1000000) (hn : ((s.length : Int) - 2 == b.n) = false) :
    Calls Tryz.prog 130 #[.agg #[.slice A s.length n, .slice B c.length m, .int .i64 f, .bool x]] w fun e w' => e = .returned (.tuple #[.agg #[.int .i64 0, .int .u64 0, .int .u64 0, .int .u64 0, .int .u64 0, .bool false, .bool false, .bool false], .int .i64 2]) ∧ Below w.heap.size w w' := by
  have hf := fun w => rfits_any A B s.length n c.length m f x b w hl
  rw [hn] at hf
  clear hn hl
  obtain ⟨bn, bc, bb, bo, bp, bi, br, bd⟩ := b
  dsimp only [supV] at *
  have HR := Lib.hid hr; clear hr
  have HD := Lib.hid hd; clear hd
  have H0 := Lib.hid (((Held.refl w).lay [.slice A s.length n, .slice B c.length m, .int .i64 f, .bool x] 30).own [.int .i64 0, .int .u64 0, .int .u64 0, .int .u64 0, .int .u64 0, .bool false, .bool false, .bool false] 36 (n := 8) rfl)
  go_enter Tryz.func130, Tryz.ntmps130
  go_wp2_with fail
  refine (HR.out _ H0.out.below).mono ?_
  rintro e w1 ⟨rfl, hb⟩
  have H1 := Lib.hid (H0.out.up hb)
  clear hb H0
  obtain ⟨u0, u1, u2, u3, u4, u5, u6, u7, hx⟩ := H1.out.o0.eight
  simp only [World.size_alloc] at hx
  go_wp2_with fail
  refine (HD.out _ H1.out.below).mono ?_
  rintro e w2 ⟨rfl, hb⟩
  have H2 := Lib.hid ((H1.out.up hb).lay [.int .i64 bn, .int .u64 bc, .int .u64 bb, .int .u64 bo, .int .u64 bp, .bool bi, .bool br, .bool bd] 36)
  have hx2 := (hx.below hb).alloc (.cells #[.int .i64 bn, .int .u64 bc, .int .u64 bb, .int .u64 bo, .int .u64 bp, .bool bi, .bool br, .bool bd] 36)
  have hb1 := (H1.out.b0.below hb).alloc (.cells #[.int .i64 bn, .int .u64 bc, .int .u64 bb, .int .u64 bo, .int .u64 bp, .bool bi, .bool br, .bool bd] 36)
  clear hb hx H1
  have kx := hx2.cell
  have fx := hx2.frozen
  have kd := hb1.cell
  have ks := H2.out.b0.cell
  go_wp2_with fail
  refine (hf _).mono ?_
  rintro e w3 ⟨rfl, hb⟩
  have H3 := Lib.hid (H2.out.up hb)
  have hx3 := hx2.below hb
  clear hb hx2 H2 kx fx kd ks
  have kx := hx3.cell
  have fx := hx3.frozen
  have ks := H3.out.b0.cell
  go_wp2_with fail
  refine bodyPost_ret (v := .tuple #[.agg #[.int .i64 0, .int .u64 0, .int .u64 0, .int .u64 0, .int .u64 0, .bool false, .bool false, .bool false], .int .i64 2]) (by simp [results, Tryz.results130, go_sem, kx]) rfl ⟨rfl, (H3.out.set8 ⟨8, by simp⟩ _ _ _ _ _ _ _ _).below⟩
set_option maxRecDepth 100000 in
set_option maxHeartbeats 2000000 in
theorem rload_yes (A B : Option Addr) (n m : Nat) (s : List ByteArray) (c : List Wr) (f : Int) (x : Bool) (w : World) (y : ByteArray) (b : Sup) (hr : ∀ v, Below w.heap.size w v → Calls Tryz.prog 189 #[.agg #[.slice A s.length n, .slice B c.length m, .int .i64 f, .bool x], .int .i64 0] v fun e v' => e = .returned (.tuple #[.string y, .int .i64 0]) ∧ Below v.heap.size v v') (hd : ∀ v, Below w.heap.size w v → Calls Tryz.prog 190 #[.string y] v fun e v' => e = .returned (.tuple #[supV b, .int .i64 0]) ∧ Below v.heap.size v v') (hl : (s.length : Int) ≤ 1000000) (hn : ((s.length : Int) - 2 == b.n) = true) :
    Calls Tryz.prog 130 #[.agg #[.slice A s.length n, .slice B c.length m, .int .i64 f, .bool x]] w fun e w' => e = .returned (.tuple #[supV b, .int .i64 0]) ∧ Below w.heap.size w w' := by
  have hf := fun w => rfits_any A B s.length n c.length m f x b w hl
  rw [hn] at hf
  clear hn hl
  obtain ⟨bn, bc, bb, bo, bp, bi, br, bd⟩ := b
  dsimp only [supV] at *
  have HR := Lib.hid hr; clear hr
  have HD := Lib.hid hd; clear hd
  have H0 := Lib.hid (((Held.refl w).lay [.slice A s.length n, .slice B c.length m, .int .i64 f, .bool x] 30).own [.int .i64 0, .int .u64 0, .int .u64 0, .int .u64 0, .int .u64 0, .bool false, .bool false, .bool false] 36 (n := 8) rfl)
  go_enter Tryz.func130, Tryz.ntmps130
  go_wp2_with fail
  refine (HR.out _ H0.out.below).mono ?_
  rintro e w1 ⟨rfl, hb⟩
  have H1 := Lib.hid (H0.out.up hb)
  clear hb H0
  obtain ⟨u0, u1, u2, u3, u4, u5, u6, u7, hx⟩ := H1.out.o0.eight
  simp only [World.size_alloc] at hx
  go_wp2_with fail
  refine (HD.out _ H1.out.below).mono ?_
  rintro e w2 ⟨rfl, hb⟩
  have H2 := Lib.hid ((H1.out.up hb).lay [.int .i64 bn, .int .u64 bc, .int .u64 bb, .int .u64 bo, .int .u64 bp, .bool bi, .bool br, .bool bd] 36)
  have hx2 := (hx.below hb).alloc (.cells #[.int .i64 bn, .int .u64 bc, .int .u64 bb, .int .u64 bo, .int .u64 bp, .bool bi, .bool br, .bool bd] 36)
  have hb1 := (H1.out.b0.below hb).alloc (.cells #[.int .i64 bn, .int .u64 bc, .int .u64 bb, .int .u64 bo, .int .u64 bp, .bool bi, .bool br, .bool bd] 36)
  clear hb hx H1
  have kx := hx2.cell
  have fx := hx2.frozen
  have kd := hb1.cell
  have ks := H2.out.b0.cell
  go_wp2_with fail
  refine (hf _).mono ?_
  rintro e w3 ⟨rfl, hb⟩
  have H3 := Lib.hid (H2.out.up hb)
  have hx3 := hx2.below hb
  clear hb hx2 H2 kx fx kd ks
  have kx := hx3.cell
  have fx := hx3.frozen
  have ks := H3.out.b0.cell
  go_wp2_with fail
  refine bodyPost_ret (v := .tuple #[.agg #[.int .i64 bn, .int .u64 bc, .int .u64 bb, .int .u64 bo, .int .u64 bp, .bool bi, .bool br, .bool bd], .int .i64 0]) (by simp [results, Tryz.results130, go_sem, kx]) rfl ⟨rfl, (H3.out.set8 ⟨8, by simp⟩ _ _ _ _ _ _ _ _).below⟩
end Go.Proofs.YtkjikigimmchlaaGreatDoor
namespace Go.Proofs.YtkjikigimmchlaaGreatDoor
open Go.RowKit
set_option maxRecDepth 100000 in
set_option maxHeartbeats 4000000 in
theorem commit_misfit (A B : Option Addr) (n m : Nat) (s : List ByteArray) (c : List Wr) (f : Int) (x : Bool) (b : Sup) (w : World) (hm : Mem w A n B m s c) (hl : (s.length : Int) ≤ 1000000) (hn : ((s.length : Int) - 2 == b.n) = false) :
    Calls Tryz.prog 188 #[.agg #[.slice A s.length n, .slice B c.length m, .int .i64 f, .bool x], supV b] w (GivesD s c f x 1 w) := by
  have hf := fun w => fits_any A B s.length n c.length m f x b w hl
  rw [hn] at hf
  clear hn hl
  obtain ⟨bn, bc, bb, bo, bp, bi, br, bd⟩ := b
  dsimp only [supV] at *
  have HM := Lib.hid hm; clear hm
  have HF := Lib.hid hf; clear hf
  have H0 := Lib.hid ((((Held.refl w).own [.slice A s.length n, .slice B c.length m, .int .i64 f, .bool x] 30 (n := 4) rfl).lay [.int .i64 bn, .int .u64 bc, .int .u64 bb, .int .u64 bo, .int .u64 bp, .bool bi, .bool br, .bool bd] 36).own [.slice none 0 0, .slice none 0 0, .int .i64 0, .bool false] 30 (n := 4) rfl)
  have BD := Lib.hid (((Box.new w [.slice A s.length n, .slice B c.length m, .int .i64 f, .bool x] 30).alloc (.cells #[.int .i64 bn, .int .u64 bc, .int .u64 bb, .int .u64 bo, .int .u64 bp, .bool bi, .bool br, .bool bd] 36)).alloc (.cells #[.slice none 0 0, .slice none 0 0, .int .i64 0, .bool false] 30))
  have BR := Lib.hid (Box.new ((w.alloc (.cells #[.slice A s.length n, .slice B c.length m, .int .i64 f, .bool x] 30)).alloc (.cells #[.int .i64 bn, .int .u64 bc, .int .u64 bb, .int .u64 bo, .int .u64 bp, .bool bi, .bool br, .bool bd] 36)) [.slice none 0 0, .slice none 0 0, .int .i64 0, .bool false] 30)
  go_enter Tryz.func188, Tryz.ntmps188
  go_wp2_with fail
  refine (HF.out _).mono ?_
  rintro e w1 ⟨rfl, hb⟩
  have H1 := Lib.hid (H0.out.up hb)
  have BD1 := Lib.hid (BD.out.below hb)
  have BR1 := Lib.hid (BR.out.below hb)
  clear hb H0 BD BR
  have kd := BD1.out.cell
  have ks := H1.out.b0.cell
  have kr := BR1.out.cell
  have fr := BR1.out.frozen
  have fd := BD1.out.frozen
  simp only [World.size_alloc] at ks kr fr
  go_wp2_with fail
  refine bodyPost_ret (v := .tuple #[.agg #[.slice A s.length n, .slice B c.length m, .int .i64 f, .bool x], .int .i64 1]) (by simp [results, Tryz.results188, go_sem, kr]) rfl ⟨A, B, n, m, rfl, ?_, ?_⟩
  · exact (HM.out.up H1.out.below).four (by simpa using BR1.out) _ _ _ _ _ _ _ _
  · exact (H1.out.set4 (b := w.heap.size + 1 + 1) ⟨4, by simp⟩ _ _ _ _).below
set_option maxRecDepth 100000 in
set_option maxHeartbeats 4000000 in
theorem commit_wrong (A B : Option Addr) (n m : Nat) (s : List ByteArray) (c : List Wr) (f : Int) (x : Bool) (b : Sup) (w : World) (hm : Mem w A n B m s c) (hl : (s.length : Int) ≤ 1000000) (hn : ((s.length : Int) - 2 == b.n) = true) (e1 : Int) (t : ByteArray) (he : ∀ v, Calls Tryz.prog 228 #[supV b] v fun e v' => e = .returned (.tuple #[.string t, .int .i64 e1]) ∧ Below v.heap.size v v') (h1 : e1 ≠ 0) :
    Calls Tryz.prog 188 #[.agg #[.slice A s.length n, .slice B c.length m, .int .i64 f, .bool x], supV b] w (GivesD s c f x e1 w) := by
  have hf := fun w => fits_any A B s.length n c.length m f x b w hl
  rw [hn] at hf
  clear hn hl
  obtain ⟨bn, bc, bb, bo, bp, bi, br, bd⟩ := b
  dsimp only [supV] at *
  have hne : (e1 == 0) = false := beq_eq_false_iff_ne.2 h1
  have hnb : (e1 != 0) = true := by simp [bne, hne]
  clear h1
  have HM := Lib.hid hm; clear hm
  have HF := Lib.hid hf; clear hf
  have HE := Lib.hid he; clear he
  have H0 := Lib.hid ((((Held.refl w).own [.slice A s.length n, .slice B c.length m, .int .i64 f, .bool x] 30 (n := 4) rfl).lay [.int .i64 bn, .int .u64 bc, .int .u64 bb, .int .u64 bo, .int .u64 bp, .bool bi, .bool br, .bool bd] 36).own [.slice none 0 0, .slice none 0 0, .int .i64 0, .bool false] 30 (n := 4) rfl)
  have BD := Lib.hid (((Box.new w [.slice A s.length n, .slice B c.length m, .int .i64 f, .bool x] 30).alloc (.cells #[.int .i64 bn, .int .u64 bc, .int .u64 bb, .int .u64 bo, .int .u64 bp, .bool bi, .bool br, .bool bd] 36)).alloc (.cells #[.slice none 0 0, .slice none 0 0, .int .i64 0, .bool false] 30))
  have BR := Lib.hid (Box.new ((w.alloc (.cells #[.slice A s.length n, .slice B c.length m, .int .i64 f, .bool x] 30)).alloc (.cells #[.int .i64 bn, .int .u64 bc, .int .u64 bb, .int .u64 bo, .int .u64 bp, .bool bi, .bool br, .bool bd] 36)) [.slice none 0 0, .slice none 0 0, .int .i64 0, .bool false] 30)
  go_enter Tryz.func188, Tryz.ntmps188
  go_wp2_with fail
  refine (HF.out _).mono ?_
  rintro e w1 ⟨rfl, hb⟩
  have H1 := Lib.hid (H0.out.up hb)
  have BD1 := Lib.hid (BD.out.below hb)
  have BR1 := Lib.hid (BR.out.below hb)
  clear hb H0 BD BR
  have kd := BD1.out.cell
  have ks := H1.out.b0.cell
  have kr := BR1.out.cell
  have fr := BR1.out.frozen
  have fd := BD1.out.frozen
  simp only [World.size_alloc] at ks kr fr
  go_wp2_with fail
  clear kd ks kr fr fd
  refine (HE.out _).mono ?_
  rintro e w2 ⟨rfl, hb⟩
  have H2 := Lib.hid (H1.out.up hb)
  have BD2 := Lib.hid (BD1.out.below hb)
  have BR2 := Lib.hid (BR1.out.below hb)
  clear hb H1 BD1 BR1
  have kd := BD2.out.cell
  have ks := H2.out.b0.cell
  have kr := BR2.out.cell
  have fr := BR2.out.frozen
  have fd := BD2.out.frozen
  simp only [World.size_alloc] at ks kr fr
  go_wp2_with fail
  refine bodyPost_ret (v := .tuple #[.agg #[.slice A s.length n, .slice B c.length m, .int .i64 f, .bool x], .int .i64 e1]) (by simp [results, Tryz.results188, go_sem, kr]) rfl ⟨A, B, n, m, rfl, ?_, ?_⟩
  · exact (HM.out.up H2.out.below).four (by simpa using BR2.out) _ _ _ _ _ _ _ _
  · exact (H2.out.set4 (b := w.heap.size + 1 + 1) ⟨4, by simp⟩ _ _ _ _).below
set_option maxRecDepth 100000 in
set_option maxHeartbeats 4000000 in
theorem commit_stops (A B : Option Addr) (n m : Nat) (s : List ByteArray) (c : List Wr) (f : Int) (x : Bool) (b : Sup) (w : World) (_hm : Mem w A n B m s c) (hl : (s.length : Int) ≤ 1000000) (hn : ((s.length : Int) - 2 == b.n) = true) (t : ByteArray) (he : ∀ v, Calls Tryz.prog 228 #[supV b] v fun e v' => e = .returned (.tuple #[.string t, .int .i64 0]) ∧ Below v.heap.size v v') (e2 : Int) (s1 : List ByteArray) (c1 : List Wr) (f1 : Int) (x1 : Bool) (hw : ∀ v, Below w.heap.size w v → Calls Tryz.prog 222 #[.agg #[.slice A s.length n, .slice B c.length m, .int .i64 f, .bool x], .int .i64 0, .string t] v (GivesD s1 c1 f1 x1 e2 v)) (h2 : e2 ≠ 0) :
    Calls Tryz.prog 188 #[.agg #[.slice A s.length n, .slice B c.length m, .int .i64 f, .bool x], supV b] w (GivesD s1 c1 f1 x1 e2 w) := by
  have hf := fun w => fits_any A B s.length n c.length m f x b w hl
  rw [hn] at hf
  clear hn hl
  obtain ⟨bn, bc, bb, bo, bp, bi, br, bd⟩ := b
  dsimp only [supV] at *
  have hne : (e2 == 0) = false := beq_eq_false_iff_ne.2 h2
  have hnb : (e2 != 0) = true := by simp [bne, hne]
  clear h2
  have HF := Lib.hid hf; clear hf
  have HE := Lib.hid he; clear he
  have HW := Lib.hid hw; clear hw
  have H0 := Lib.hid ((((Held.refl w).own [.slice A s.length n, .slice B c.length m, .int .i64 f, .bool x] 30 (n := 4) rfl).lay [.int .i64 bn, .int .u64 bc, .int .u64 bb, .int .u64 bo, .int .u64 bp, .bool bi, .bool br, .bool bd] 36).own [.slice none 0 0, .slice none 0 0, .int .i64 0, .bool false] 30 (n := 4) rfl)
  have BD := Lib.hid (((Box.new w [.slice A s.length n, .slice B c.length m, .int .i64 f, .bool x] 30).alloc (.cells #[.int .i64 bn, .int .u64 bc, .int .u64 bb, .int .u64 bo, .int .u64 bp, .bool bi, .bool br, .bool bd] 36)).alloc (.cells #[.slice none 0 0, .slice none 0 0, .int .i64 0, .bool false] 30))
  have BR := Lib.hid (Box.new ((w.alloc (.cells #[.slice A s.length n, .slice B c.length m, .int .i64 f, .bool x] 30)).alloc (.cells #[.int .i64 bn, .int .u64 bc, .int .u64 bb, .int .u64 bo, .int .u64 bp, .bool bi, .bool br, .bool bd] 36)) [.slice none 0 0, .slice none 0 0, .int .i64 0, .bool false] 30)
  go_enter Tryz.func188, Tryz.ntmps188
  go_wp2_with fail
  refine (HF.out _).mono ?_
  rintro e w1 ⟨rfl, hb⟩
  have H1 := Lib.hid (H0.out.up hb)
  have BD1 := Lib.hid (BD.out.below hb)
  have BR1 := Lib.hid (BR.out.below hb)
  clear hb H0 BD BR
  have kd := BD1.out.cell
  have ks := H1.out.b0.cell
  have kr := BR1.out.cell
  have fr := BR1.out.frozen
  have fd := BD1.out.frozen
  simp only [World.size_alloc] at ks kr fr
  go_wp2_with fail
  clear kd ks kr fr fd
  refine (HE.out _).mono ?_
  rintro e w2 ⟨rfl, hb⟩
  have H2 := Lib.hid (H1.out.up hb)
  have BD2 := Lib.hid (BD1.out.below hb)
  have BR2 := Lib.hid (BR1.out.below hb)
  clear hb H1 BD1 BR1
  have kd := BD2.out.cell
  have ks := H2.out.b0.cell
  have kr := BR2.out.cell
  have fr := BR2.out.frozen
  have fd := BD2.out.frozen
  simp only [World.size_alloc] at ks kr fr
  go_wp2_with fail
  clear kd ks kr fr fd
  refine (HW.out _ H2.out.below).mono ?_
  rintro e w3 ⟨A1, B1, n1, m1, rfl, hm1, hb⟩
  have H3 := Lib.hid (H2.out.up hb)
  have BD3 := Lib.hid (BD2.out.below hb)
  have BR3 := Lib.hid (BR2.out.below hb)
  have HM1 := Lib.hid hm1
  clear hb H2 BD2 BR2 hm1 _hm
  have kd := BD3.out.cell
  have ks := H3.out.b0.cell
  have kr := BR3.out.cell
  have fr := BR3.out.frozen
  have fd := BD3.out.frozen
  simp only [World.size_alloc] at ks kr fr
  go_wp2_with fail
  refine bodyPost_ret (v := .tuple #[.agg #[.slice A1 s1.length n1, .slice B1 c1.length m1, .int .i64 f1, .bool x1], .int .i64 e2]) (by simp [results, Tryz.results188, go_sem, kr]) rfl ⟨A1, B1, n1, m1, rfl, ?_, ?_⟩
  · exact (HM1.out.four BD3.out _ _ _ _ _ _ _ _).four (by simpa using BR3.out.past4 (b := w.heap.size) (by simp; omega) (.slice A1 s1.length n1) (.slice B1 c1.length m1) (.int .i64 f1) (.bool x1)) _ _ _ _ _ _ _ _
  · exact ((H3.out.set4 (b := w.heap.size) ⟨4, by simp⟩ _ _ _ _).set4 (b := w.heap.size + 1 + 1) ⟨4, by simp⟩ _ _ _ _).below
set_option maxRecDepth 100000 in
set_option maxHeartbeats 4000000 in
theorem commit_goes (A B : Option Addr) (n m : Nat) (s : List ByteArray) (c : List Wr) (f : Int) (x : Bool) (b : Sup) (w : World) (_hm : Mem w A n B m s c) (hl : (s.length : Int) ≤ 1000000) (hn : ((s.length : Int) - 2 == b.n) = true) (t : ByteArray) (he : ∀ v, Calls Tryz.prog 228 #[supV b] v fun e v' => e = .returned (.tuple #[.string t, .int .i64 0]) ∧ Below v.heap.size v v') (s1 : List ByteArray) (c1 : List Wr) (f1 : Int) (x1 : Bool) (hw : ∀ v, Below w.heap.size w v → Calls Tryz.prog 222 #[.agg #[.slice A s.length n, .slice B c.length m, .int .i64 f, .bool x], .int .i64 0, .string t] v (GivesD s1 c1 f1 x1 0 v)) (s2 : List ByteArray) (c2 : List Wr) (f2 : Int) (x2 : Bool) (e3 : Int) (hg : ∀ A1 B1 n1 m1 v, Mem v A1 n1 B1 m1 s1 c1 → Calls Tryz.prog 226 #[.agg #[.slice A1 s1.length n1, .slice B1 c1.length m1, .int .i64 f1, .bool x1]] v (GivesD s2 c2 f2 x2 e3 v)) :
    Calls Tryz.prog 188 #[.agg #[.slice A s.length n, .slice B c.length m, .int .i64 f, .bool x], supV b] w (GivesD s2 c2 f2 x2 e3 w) := by
  have hf := fun w => fits_any A B s.length n c.length m f x b w hl
  rw [hn] at hf
  clear hn hl
  obtain ⟨bn, bc, bb, bo, bp, bi, br, bd⟩ := b
  dsimp only [supV] at *
  have HF := Lib.hid hf; clear hf
  have HE := Lib.hid he; clear he
  have HW := Lib.hid hw; clear hw
  have HG := Lib.hid hg; clear hg
  have H0 := Lib.hid ((((Held.refl w).own [.slice A s.length n, .slice B c.length m, .int .i64 f, .bool x] 30 (n := 4) rfl).lay [.int .i64 bn, .int .u64 bc, .int .u64 bb, .int .u64 bo, .int .u64 bp, .bool bi, .bool br, .bool bd] 36).own [.slice none 0 0, .slice none 0 0, .int .i64 0, .bool false] 30 (n := 4) rfl)
  have BD := Lib.hid (((Box.new w [.slice A s.length n, .slice B c.length m, .int .i64 f, .bool x] 30).alloc (.cells #[.int .i64 bn, .int .u64 bc, .int .u64 bb, .int .u64 bo, .int .u64 bp, .bool bi, .bool br, .bool bd] 36)).alloc (.cells #[.slice none 0 0, .slice none 0 0, .int .i64 0, .bool false] 30))
  have BR := Lib.hid (Box.new ((w.alloc (.cells #[.slice A s.length n, .slice B c.length m, .int .i64 f, .bool x] 30)).alloc (.cells #[.int .i64 bn, .int .u64 bc, .int .u64 bb, .int .u64 bo, .int .u64 bp, .bool bi, .bool br, .bool bd] 36)) [.slice none 0 0, .slice none 0 0, .int .i64 0, .bool false] 30)
  go_enter Tryz.func188, Tryz.ntmps188
  go_wp2_with fail
  refine (HF.out _).mono ?_
  rintro e w1 ⟨rfl, hb⟩
  have H1 := Lib.hid (H0.out.up hb)
  have BD1 := Lib.hid (BD.out.below hb)
  have BR1 := Lib.hid (BR.out.below hb)
  clear hb H0 BD BR
  have kd := BD1.out.cell
  have ks := H1.out.b0.cell
  have kr := BR1.out.cell
  have fr := BR1.out.frozen
  have fd := BD1.out.frozen
  simp only [World.size_alloc] at ks kr fr
  go_wp2_with fail
  clear kd ks kr fr fd
  refine (HE.out _).mono ?_
  rintro e w2 ⟨rfl, hb⟩
  have H2 := Lib.hid (H1.out.up hb)
  have BD2 := Lib.hid (BD1.out.below hb)
  have BR2 := Lib.hid (BR1.out.below hb)
  clear hb H1 BD1 BR1
  have kd := BD2.out.cell
  have ks := H2.out.b0.cell
  have kr := BR2.out.cell
  have fr := BR2.out.frozen
  have fd := BD2.out.frozen
  simp only [World.size_alloc] at ks kr fr
  go_wp2_with fail
  clear kd ks kr fr fd
  refine (HW.out _ H2.out.below).mono ?_
  rintro e w3 ⟨A1, B1, n1, m1, rfl, hm1, hb⟩
  have H3 := Lib.hid (H2.out.up hb)
  have BD3 := Lib.hid (BD2.out.below hb)
  have BR3 := Lib.hid (BR2.out.below hb)
  have HM1 := Lib.hid hm1
  clear hb H2 BD2 BR2 hm1 _hm
  have kd := BD3.out.cell
  have ks := H3.out.b0.cell
  have kr := BR3.out.cell
  have fr := BR3.out.frozen
  have fd := BD3.out.frozen
  simp only [World.size_alloc] at ks kr fr
  have hm2 := HM1.out.four BD3.out A1 B1 s1.length n1 c1.length m1 f1 x1
  have br2 := BR3.out.past4 (b := w.heap.size) (by simp; omega) (.slice A1 s1.length n1) (.slice B1 c1.length m1) (.int .i64 f1) (.bool x1)
  have hh2 := H3.out.set4 (b := w.heap.size) ⟨4, by simp⟩ (.slice A1 s1.length n1) (.slice B1 c1.length m1) (.int .i64 f1) (.bool x1)
  simp only [World.size_alloc] at br2 hh2
  go_wp2_with fail
  generalize (((w3.setCell ⟨w.heap.size, 0, none⟩ (.slice A1 s1.length n1)).setCell ⟨w.heap.size, 1, none⟩ (.slice B1 c1.length m1)).setCell ⟨w.heap.size, 2, none⟩ (.int .i64 f1)).setCell ⟨w.heap.size, 3, none⟩ (.bool x1) = w4 at *
  clear kd ks kr fr fd
  have BR4 := Lib.hid br2
  have HM4 := Lib.hid hm2
  have H4 := Lib.hid hh2
  clear br2 hm2 hh2 H3 BD3 BR3 HM1
  refine (HG.out A1 B1 n1 m1 _ HM4.out).mono ?_
  rintro e w5 ⟨A2, B2, n2, m2, rfl, hm5, hb⟩
  have H5 := Lib.hid (H4.out.up hb)
  have BR5 := Lib.hid (BR4.out.below hb)
  have HM5 := Lib.hid hm5
  clear hb hm5 H4 BR4 HM4
  have kr := BR5.out.cell
  have fr := BR5.out.frozen
  go_wp2_with fail
  refine bodyPost_ret (v := .tuple #[.agg #[.slice A2 s2.length n2, .slice B2 c2.length m2, .int .i64 f2, .bool x2], .int .i64 e3]) (by simp [results, Tryz.results188, go_sem, kr]) rfl ⟨A2, B2, n2, m2, rfl, ?_, ?_⟩
  · exact HM5.out.four BR5.out _ _ _ _ _ _ _ _
  · exact (H5.out.set4 (b := w.heap.size + 1 + 1) ⟨4, by simp⟩ _ _ _ _).below
set_option maxRecDepth 100000 in
set_option maxHeartbeats 4000000 in
theorem rcommit_wrong (A B : Option Addr) (n m : Nat) (s : List ByteArray) (c : List Wr) (f : Int) (x : Bool) (b : Sup) (w : World) (hm : Mem w A n B m s c) (e1 : Int) (t : ByteArray) (he : ∀ v, Calls Tryz.prog 83 #[supV b] v fun e v' => e = .returned (.tuple #[.string t, .int .i64 e1]) ∧ Below v.heap.size v v') (h1 : e1 ≠ 0) :
    Calls Tryz.prog 232 #[.agg #[.slice A s.length n, .slice B c.length m, .int .i64 f, .bool x], supV b] w (GivesD s c f x 1 w) := by
  obtain ⟨bn, bc, bb, bo, bp, bi, br, bd⟩ := b
  dsimp only [supV] at *
  have hne : (e1 == 0) = false := beq_eq_false_iff_ne.2 h1
  have hnb : (e1 != 0) = true := by simp [bne, hne]
  clear h1
  have HM := Lib.hid hm; clear hm
  have HE := Lib.hid he; clear he
  have H0 := Lib.hid ((((Held.refl w).own [.slice A s.length n, .slice B c.length m, .int .i64 f, .bool x] 30 (n := 4) rfl).lay [.int .i64 bn, .int .u64 bc, .int .u64 bb, .int .u64 bo, .int .u64 bp, .bool bi, .bool br, .bool bd] 36).own [.slice none 0 0, .slice none 0 0, .int .i64 0, .bool false] 30 (n := 4) rfl)
  have BD := Lib.hid (((Box.new w [.slice A s.length n, .slice B c.length m, .int .i64 f, .bool x] 30).alloc (.cells #[.int .i64 bn, .int .u64 bc, .int .u64 bb, .int .u64 bo, .int .u64 bp, .bool bi, .bool br, .bool bd] 36)).alloc (.cells #[.slice none 0 0, .slice none 0 0, .int .i64 0, .bool false] 30))
  have BR := Lib.hid (Box.new ((w.alloc (.cells #[.slice A s.length n, .slice B c.length m, .int .i64 f, .bool x] 30)).alloc (.cells #[.int .i64 bn, .int .u64 bc, .int .u64 bb, .int .u64 bo, .int .u64 bp, .bool bi, .bool br, .bool bd] 36)) [.slice none 0 0, .slice none 0 0, .int .i64 0, .bool false] 30)
  go_enter Tryz.func232, Tryz.ntmps232
  go_wp2_with fail
  refine (HE.out _).mono ?_
  rintro e w1 ⟨rfl, hb⟩
  have H1 := Lib.hid (H0.out.up hb)
  have BD1 := Lib.hid (BD.out.below hb)
  have BR1 := Lib.hid (BR.out.below hb)
  clear hb H0 BD BR
  have kd := BD1.out.cell
  have ks := H1.out.b0.cell
  have kr := BR1.out.cell
  have fr := BR1.out.frozen
  have fd := BD1.out.frozen
  simp only [World.size_alloc] at ks kr fr
  go_wp2_with fail
  refine bodyPost_ret (v := .tuple #[.agg #[.slice A s.length n, .slice B c.length m, .int .i64 f, .bool x], .int .i64 1]) (by simp [results, Tryz.results232, go_sem, kr]) rfl ⟨A, B, n, m, rfl, ?_, ?_⟩
  · exact (HM.out.up H1.out.below).four (by simpa using BR1.out) _ _ _ _ _ _ _ _
  · exact (H1.out.set4 (b := w.heap.size + 1 + 1) ⟨4, by simp⟩ _ _ _ _).below
set_option maxRecDepth 100000 in
set_option maxHeartbeats 4000000 in
theorem rcommit_misfit (A B : Option Addr) (n m : Nat) (s : List ByteArray) (c : List Wr) (f : Int) (x : Bool) (b : Sup) (w : World) (hm : Mem w A n B m s c) (hl : (s.length : Int) ≤ 1000000) (hn : ((s.length : Int) - 2 == b.n) = false) (t : ByteArray) (he : ∀ v, Calls Tryz.prog 83 #[supV b] v fun e v' => e = .returned (.tuple #[.string t, .int .i64 0]) ∧ Below v.heap.size v v') :
    Calls Tryz.prog 232 #[.agg #[.slice A s.length n, .slice B c.length m, .int .i64 f, .bool x], supV b] w (GivesD s c f x 1 w) := by
  have hf := fun w => rfits_any A B s.length n c.length m f x b w hl
  rw [hn] at hf
  clear hn hl
  obtain ⟨bn, bc, bb, bo, bp, bi, br, bd⟩ := b
  dsimp only [supV] at *
  have HM := Lib.hid hm; clear hm
  have HF := Lib.hid hf; clear hf
  have HE := Lib.hid he; clear he
  have H0 := Lib.hid ((((Held.refl w).own [.slice A s.length n, .slice B c.length m, .int .i64 f, .bool x] 30 (n := 4) rfl).lay [.int .i64 bn, .int .u64 bc, .int .u64 bb, .int .u64 bo, .int .u64 bp, .bool bi, .bool br, .bool bd] 36).own [.slice none 0 0, .slice none 0 0, .int .i64 0, .bool false] 30 (n := 4) rfl)
  have BD := Lib.hid (((Box.new w [.slice A s.length n, .slice B c.length m, .int .i64 f, .bool x] 30).alloc (.cells #[.int .i64 bn, .int .u64 bc, .int .u64 bb, .int .u64 bo, .int .u64 bp, .bool bi, .bool br, .bool bd] 36)).alloc (.cells #[.slice none 0 0, .slice none 0 0, .int .i64 0, .bool false] 30))
  have BR := Lib.hid (Box.new ((w.alloc (.cells #[.slice A s.length n, .slice B c.length m, .int .i64 f, .bool x] 30)).alloc (.cells #[.int .i64 bn, .int .u64 bc, .int .u64 bb, .int .u64 bo, .int .u64 bp, .bool bi, .bool br, .bool bd] 36)) [.slice none 0 0, .slice none 0 0, .int .i64 0, .bool false] 30)
  go_enter Tryz.func232, Tryz.ntmps232
  go_wp2_with fail
  refine (HE.out _).mono ?_
  rintro e w1 ⟨rfl, hb⟩
  have H1 := Lib.hid (H0.out.up hb)
  have BD1 := Lib.hid (BD.out.below hb)
  have BR1 := Lib.hid (BR.out.below hb)
  clear hb H0 BD BR
  have kd := BD1.out.cell
  have ks := H1.out.b0.cell
  have kr := BR1.out.cell
  have fr := BR1.out.frozen
  have fd := BD1.out.frozen
  simp only [World.size_alloc] at ks kr fr
  go_wp2_with fail
  clear kd ks kr fr fd
  refine (HF.out _).mono ?_
  rintro e w2 ⟨rfl, hb⟩
  have H2 := Lib.hid (H1.out.up hb)
  have BD2 := Lib.hid (BD1.out.below hb)
  have BR2 := Lib.hid (BR1.out.below hb)
  clear hb H1 BD1 BR1
  have kd := BD2.out.cell
  have ks := H2.out.b0.cell
  have kr := BR2.out.cell
  have fr := BR2.out.frozen
  have fd := BD2.out.frozen
  simp only [World.size_alloc] at ks kr fr
  go_wp2_with fail
  refine bodyPost_ret (v := .tuple #[.agg #[.slice A s.length n, .slice B c.length m, .int .i64 f, .bool x], .int .i64 1]) (by simp [results, Tryz.results232, go_sem, kr]) rfl ⟨A, B, n, m, rfl, ?_, ?_⟩
  · exact (HM.out.up H2.out.below).four (by simpa using BR2.out) _ _ _ _ _ _ _ _
  · exact (H2.out.set4 (b := w.heap.size + 1 + 1) ⟨4, by simp⟩ _ _ _ _).below
set_option maxRecDepth 100000 in
set_option maxHeartbeats 4000000 in
theorem rcommit_stops (A B : Option Addr) (n m : Nat) (s : List ByteArray) (c : List Wr) (f : Int) (x : Bool) (b : Sup) (w : World) (_hm : Mem w A n B m s c) (hl : (s.length : Int) ≤ 1000000) (hn : ((s.length : Int) - 2 == b.n) = true) (t : ByteArray) (he : ∀ v, Calls Tryz.prog 83 #[supV b] v fun e v' => e = .returned (.tuple #[.string t, .int .i64 0]) ∧ Below v.heap.size v v') (e2 : Int) (s1 : List ByteArray) (c1 : List Wr) (f1 : Int) (x1 : Bool) (hw : ∀ v, Below w.heap.size w v → Calls Tryz.prog 252 #[.agg #[.slice A s.length n, .slice B c.length m, .int .i64 f, .bool x], .int .i64 0, .string t] v (GivesD s1 c1 f1 x1 e2 v)) (h2 : e2 ≠ 0) :
    Calls Tryz.prog 232 #[.agg #[.slice A s.length n, .slice B c.length m, .int .i64 f, .bool x], supV b] w (GivesD s1 c1 f1 x1 e2 w) := by
  have hf := fun w => rfits_any A B s.length n c.length m f x b w hl
  rw [hn] at hf
  clear hn hl
  obtain ⟨bn, bc, bb, bo, bp, bi, br, bd⟩ := b
  dsimp only [supV] at *
  have hne : (e2 == 0) = false := beq_eq_false_iff_ne.2 h2
  have hnb : (e2 != 0) = true := by simp [bne, hne]
  clear h2
  have HF := Lib.hid hf; clear hf
  have HE := Lib.hid he; clear he
  have HW := Lib.hid hw; clear hw
  have H0 := Lib.hid ((((Held.refl w).own [.slice A s.length n, .slice B c.length m, .int .i64 f, .bool x] 30 (n := 4) rfl).lay [.int .i64 bn, .int .u64 bc, .int .u64 bb, .int .u64 bo, .int .u64 bp, .bool bi, .bool br, .bool bd] 36).own [.slice none 0 0, .slice none 0 0, .int .i64 0, .bool false] 30 (n := 4) rfl)
  have BD := Lib.hid (((Box.new w [.slice A s.length n, .slice B c.length m, .int .i64 f, .bool x] 30).alloc (.cells #[.int .i64 bn, .int .u64 bc, .int .u64 bb, .int .u64 bo, .int .u64 bp, .bool bi, .bool br, .bool bd] 36)).alloc (.cells #[.slice none 0 0, .slice none 0 0, .int .i64 0, .bool false] 30))
  have BR := Lib.hid (Box.new ((w.alloc (.cells #[.slice A s.length n, .slice B c.length m, .int .i64 f, .bool x] 30)).alloc (.cells #[.int .i64 bn, .int .u64 bc, .int .u64 bb, .int .u64 bo, .int .u64 bp, .bool bi, .bool br, .bool bd] 36)) [.slice none 0 0, .slice none 0 0, .int .i64 0, .bool false] 30)
  go_enter Tryz.func232, Tryz.ntmps232
  go_wp2_with fail
  refine (HE.out _).mono ?_
  rintro e w1 ⟨rfl, hb⟩
  have H1 := Lib.hid (H0.out.up hb)
  have BD1 := Lib.hid (BD.out.below hb)
  have BR1 := Lib.hid (BR.out.below hb)
  clear hb H0 BD BR
  have kd := BD1.out.cell
  have ks := H1.out.b0.cell
  have kr := BR1.out.cell
  have fr := BR1.out.frozen
  have fd := BD1.out.frozen
  simp only [World.size_alloc] at ks kr fr
  go_wp2_with fail
  clear kd ks kr fr fd
  refine (HF.out _).mono ?_
  rintro e w2 ⟨rfl, hb⟩
  have H2 := Lib.hid (H1.out.up hb)
  have BD2 := Lib.hid (BD1.out.below hb)
  have BR2 := Lib.hid (BR1.out.below hb)
  clear hb H1 BD1 BR1
  have kd := BD2.out.cell
  have ks := H2.out.b0.cell
  have kr := BR2.out.cell
  have fr := BR2.out.frozen
  have fd := BD2.out.frozen
  simp only [World.size_alloc] at ks kr fr
  go_wp2_with fail
  clear kd ks kr fr fd
  refine (HW.out _ H2.out.below).mono ?_
  rintro e w3 ⟨A1, B1, n1, m1, rfl, hm1, hb⟩
  have H3 := Lib.hid ((H2.out.up hb).lay [.slice A1 s1.length n1, .slice B1 c1.length m1, .int .i64 f1, .bool x1] 30)
  have BR3 := Lib.hid ((BR2.out.below hb).alloc (.cells #[.slice A1 s1.length n1, .slice B1 c1.length m1, .int .i64 f1, .bool x1] 30))
  have HM1 := Lib.hid (hm1.up (below1 (o := .cells #[.slice A1 s1.length n1, .slice B1 c1.length m1, .int .i64 f1, .bool x1] 30)))
  clear hb H2 BD2 BR2 hm1 _hm
  have kx := H3.out.b0.cell
  have kr := BR3.out.cell
  have fr := BR3.out.frozen
  simp only [World.size_alloc] at kr fr
  go_wp2_with fail
  refine bodyPost_ret (v := .tuple #[.agg #[.slice A1 s1.length n1, .slice B1 c1.length m1, .int .i64 f1, .bool x1], .int .i64 e2]) (by simp [results, Tryz.results232, go_sem, kr]) rfl ⟨A1, B1, n1, m1, rfl, ?_, ?_⟩
  · exact HM1.out.four (by simpa using BR3.out) _ _ _ _ _ _ _ _
  · exact (H3.out.set4 (b := w.heap.size + 1 + 1) ⟨4, by simp⟩ _ _ _ _).below
set_option maxRecDepth 100000 in
set_option maxHeartbeats 4000000 in
theorem rcommit_goes (A B : Option Addr) (n m : Nat) (s : List ByteArray) (c : List Wr) (f : Int) (x : Bool) (b : Sup) (w : World) (_hm : Mem w A n B m s c) (hl : (s.length : Int) ≤ 1000000) (hn : ((s.length : Int) - 2 == b.n) = true) (t : ByteArray) (he : ∀ v, Calls Tryz.prog 83 #[supV b] v fun e v' => e = .returned (.tuple #[.string t, .int .i64 0]) ∧ Below v.heap.size v v') (s1 : List ByteArray) (c1 : List Wr) (f1 : Int) (x1 : Bool) (hw : ∀ v, Below w.heap.size w v → Calls Tryz.prog 252 #[.agg #[.slice A s.length n, .slice B c.length m, .int .i64 f, .bool x], .int .i64 0, .string t] v (GivesD s1 c1 f1 x1 0 v)) (s2 : List ByteArray) (c2 : List Wr) (f2 : Int) (x2 : Bool) (e3 : Int) (hg : ∀ A1 B1 n1 m1 v, Mem v A1 n1 B1 m1 s1 c1 → Calls Tryz.prog 253 #[.agg #[.slice A1 s1.length n1, .slice B1 c1.length m1, .int .i64 f1, .bool x1]] v (GivesD s2 c2 f2 x2 e3 v)) :
    Calls Tryz.prog 232 #[.agg #[.slice A s.length n, .slice B c.length m, .int .i64 f, .bool x], supV b] w (GivesD s2 c2 f2 x2 e3 w) := by
  have hf := fun w => rfits_any A B s.length n c.length m f x b w hl
  rw [hn] at hf
  clear hn hl
  obtain ⟨bn, bc, bb, bo, bp, bi, br, bd⟩ := b
  dsimp only [supV] at *
  have HF := Lib.hid hf; clear hf
  have HE := Lib.hid he; clear he
  have HW := Lib.hid hw; clear hw
  have HG := Lib.hid hg; clear hg
  have H0 := Lib.hid ((((Held.refl w).own [.slice A s.length n, .slice B c.length m, .int .i64 f, .bool x] 30 (n := 4) rfl).lay [.int .i64 bn, .int .u64 bc, .int .u64 bb, .int .u64 bo, .int .u64 bp, .bool bi, .bool br, .bool bd] 36).own [.slice none 0 0, .slice none 0 0, .int .i64 0, .bool false] 30 (n := 4) rfl)
  have BD := Lib.hid (((Box.new w [.slice A s.length n, .slice B c.length m, .int .i64 f, .bool x] 30).alloc (.cells #[.int .i64 bn, .int .u64 bc, .int .u64 bb, .int .u64 bo, .int .u64 bp, .bool bi, .bool br, .bool bd] 36)).alloc (.cells #[.slice none 0 0, .slice none 0 0, .int .i64 0, .bool false] 30))
  have BR := Lib.hid (Box.new ((w.alloc (.cells #[.slice A s.length n, .slice B c.length m, .int .i64 f, .bool x] 30)).alloc (.cells #[.int .i64 bn, .int .u64 bc, .int .u64 bb, .int .u64 bo, .int .u64 bp, .bool bi, .bool br, .bool bd] 36)) [.slice none 0 0, .slice none 0 0, .int .i64 0, .bool false] 30)
  go_enter Tryz.func232, Tryz.ntmps232
  go_wp2_with fail
  refine (HE.out _).mono ?_
  rintro e w1 ⟨rfl, hb⟩
  have H1 := Lib.hid (H0.out.up hb)
  have BD1 := Lib.hid (BD.out.below hb)
  have BR1 := Lib.hid (BR.out.below hb)
  clear hb H0 BD BR
  have kd := BD1.out.cell
  have ks := H1.out.b0.cell
  have kr := BR1.out.cell
  have fr := BR1.out.frozen
  have fd := BD1.out.frozen
  simp only [World.size_alloc] at ks kr fr
  go_wp2_with fail
  clear kd ks kr fr fd
  refine (HF.out _).mono ?_
  rintro e w2 ⟨rfl, hb⟩
  have H2 := Lib.hid (H1.out.up hb)
  have BD2 := Lib.hid (BD1.out.below hb)
  have BR2 := Lib.hid (BR1.out.below hb)
  clear hb H1 BD1 BR1
  have kd := BD2.out.cell
  have ks := H2.out.b0.cell
  have kr := BR2.out.cell
  have fr := BR2.out.frozen
  have fd := BD2.out.frozen
  simp only [World.size_alloc] at ks kr fr
  go_wp2_with fail
  clear kd ks kr fr fd
  refine (HW.out _ H2.out.below).mono ?_
  rintro e w3 ⟨A1, B1, n1, m1, rfl, hm1, hb⟩
  have H3 := Lib.hid ((H2.out.up hb).lay [.slice A1 s1.length n1, .slice B1 c1.length m1, .int .i64 f1, .bool x1] 30)
  have BR3 := Lib.hid ((BR2.out.below hb).alloc (.cells #[.slice A1 s1.length n1, .slice B1 c1.length m1, .int .i64 f1, .bool x1] 30))
  have HM1 := Lib.hid (hm1.up (below1 (o := .cells #[.slice A1 s1.length n1, .slice B1 c1.length m1, .int .i64 f1, .bool x1] 30)))
  clear hb H2 BD2 BR2 hm1 _hm
  have kx := H3.out.b0.cell
  have kr := BR3.out.cell
  have fr := BR3.out.frozen
  simp only [World.size_alloc] at kr fr
  go_wp2_with fail
  clear kx kr fr
  refine (HG.out A1 B1 n1 m1 _ HM1.out).mono ?_
  rintro e w5 ⟨A2, B2, n2, m2, rfl, hm5, hb⟩
  have H5 := Lib.hid (H3.out.up hb)
  have BR5 := Lib.hid (BR3.out.below hb)
  have HM5 := Lib.hid hm5
  clear hb hm5 H3 BR3 HM1
  have kr := BR5.out.cell
  have fr := BR5.out.frozen
  simp only [World.size_alloc] at kr fr
  go_wp2_with fail
  refine bodyPost_ret (v := .tuple #[.agg #[.slice A2 s2.length n2, .slice B2 c2.length m2, .int .i64 f2, .bool x2], .int .i64 e3]) (by simp [results, Tryz.results232, go_sem, kr]) rfl ⟨A2, B2, n2, m2, rfl, ?_, ?_⟩
  · exact HM5.out.four (by simpa using BR5.out) _ _ _ _ _ _ _ _
  · exact (H5.out.set4 (b := w.heap.size + 1 + 1) ⟨4, by simp⟩ _ _ _ _).below
end Go.Proofs.YtkjikigimmchlaaGreatDoor
