/- The superblock on a disk, layer 7: whether it fits; what both Loads and both Commits answer, over what the calls that they make answer. No other condition but that the lists lie in memory. -/
import Derived.Test.YtlgfinomkpingaaS1
import Derived.Test.YtlgfinomkpingaaR0
import Derived.Test.YtlgfinomkpingaaGA
namespace Go.Proofs.Ytlgfinomkpingaa
open Go.RowKit

/-! ### The code -/
set_option maxRecDepth 100000 in
set_option maxHeartbeats 1000000 in
theorem fits_any (A B : Option Addr) (n1 n2 m1 m2 : Nat) (f : Int) (x : Bool) (b : Sup) (w : World) (hl : (n1 : Int) ≤ 1000000) :
    Calls Try.prog 57 #[.agg #[.slice A n1 n2, .slice B m1 m2, .int .i64 f, .bool x], supV b] w fun e w' => e = .returned (.bool ((n1 : Int) - 2 == b.n)) ∧ Below w.heap.size w w' := by
  obtain ⟨bn, bc, bb, bo, bp, bi, br, bd⟩ := b
  dsimp only [supV]
  go_enter Try.func57, Try.ntmps57
  go_wp2
  go_ret
  exact ⟨rfl, below2⟩


/-! ### The document -/
set_option maxRecDepth 100000 in
set_option maxHeartbeats 1000000 in
theorem rfits_any (A B : Option Addr) (n1 n2 m1 m2 : Nat) (f : Int) (x : Bool) (b : Sup) (w : World) (hl : (n1 : Int) ≤ 1000000) :
    Calls Try.prog 44 #[.agg #[.slice A n1 n2, .slice B m1 m2, .int .i64 f, .bool x], supV b] w fun e w' => e = .returned (.bool ((n1 : Int) - 2 == b.n)) ∧ Below w.heap.size w w' := by
  obtain ⟨bn, bc, bb, bo, bp, bi, br, bd⟩ := b
  dsimp only [supV]
  go_enter Try.func44, Try.ntmps44
  go_wp2
  go_ret
  exact ⟨rfl, below2⟩


set_option maxRecDepth 100000 in
set_option maxHeartbeats 2000000 in
theorem rload_stops (A B : Option Addr) (n m : Nat) (s : List ByteArray) (c : List Wr) (f : Int) (x : Bool) (w : World) (y : ByteArray) (e1 : Int) (hr : ∀ v, Below w.heap.size w v → Calls Try.prog 29 #[.agg #[.slice A s.length n, .slice B c.length m, .int .i64 f, .bool x], .int .i64 0] v fun e v' => e = .returned (.tuple #[.string y, .int .i64 e1]) ∧ Below v.heap.size v v') (h1 : e1 ≠ 0) :
    Calls Try.prog 22 #[.agg #[.slice A s.length n, .slice B c.length m, .int .i64 f, .bool x]] w fun e w' => e = .returned (.tuple #[.agg #[.int .i64 0, .int .u64 0, .int .u64 0, .int .u64 0, .int .u64 0, .bool false, .bool false, .bool false], .int .i64 e1]) ∧ Below w.heap.size w w' := by
  have hne : (e1 == 0) = false := beq_eq_false_iff_ne.2 h1
  have hnb : (e1 != 0) = true := by simp [bne, hne]
  clear h1
  have HR := Lib.hid hr; clear hr
  have H0 := Lib.hid (((Held.refl w).lay [.slice A s.length n, .slice B c.length m, .int .i64 f, .bool x] 25).own [.int .i64 0, .int .u64 0, .int .u64 0, .int .u64 0, .int .u64 0, .bool false, .bool false, .bool false] 52 (n := 8) rfl)
  go_enter Try.func22, Try.ntmps22
  go_wp2_with fail
  refine (HR.out _ H0.out.below).mono ?_
  rintro e w1 ⟨rfl, hb⟩
  have H1 := Lib.hid (H0.out.up hb)
  clear hb H0
  obtain ⟨u0, u1, u2, u3, u4, u5, u6, u7, hx⟩ := H1.out.o0.eight
  simp only [World.size_alloc] at hx
  have kx := hx.cell
  have fx := hx.frozen
  go_wp2_with fail
  refine bodyPost_ret (v := .tuple #[.agg #[.int .i64 0, .int .u64 0, .int .u64 0, .int .u64 0, .int .u64 0, .bool false, .bool false, .bool false], .int .i64 e1]) (by simp [results, Try.results22, go_sem, kx]) rfl ⟨rfl, (H1.out.set8 ⟨8, by simp⟩ _ _ _ _ _ _ _ _).below⟩


set_option maxRecDepth 100000 in
set_option maxHeartbeats 2000000 in
theorem rload_bad (A B : Option Addr) (n m : Nat) (s : List ByteArray) (c : List Wr) (f : Int) (x : Bool) (w : World) (y : ByteArray) (b : Sup) (e2 : Int) (hr : ∀ v, Below w.heap.size w v → Calls Try.prog 29 #[.agg #[.slice A s.length n, .slice B c.length m, .int .i64 f, .bool x], .int .i64 0] v fun e v' => e = .returned (.tuple #[.string y, .int .i64 0]) ∧ Below v.heap.size v v') (hd : ∀ v, Below w.heap.size w v → Calls Try.prog 43 #[.string y] v fun e v' => e = .returned (.tuple #[supV b, .int .i64 e2]) ∧ Below v.heap.size v v') (h2 : e2 ≠ 0) :
    Calls Try.prog 22 #[.agg #[.slice A s.length n, .slice B c.length m, .int .i64 f, .bool x]] w fun e w' => e = .returned (.tuple #[.agg #[.int .i64 0, .int .u64 0, .int .u64 0, .int .u64 0, .int .u64 0, .bool false, .bool false, .bool false], .int .i64 e2]) ∧ Below w.heap.size w w' := by
  obtain ⟨bn, bc, bb, bo, bp, bi, br, bd⟩ := b
  dsimp only [supV] at *
  have hne : (e2 == 0) = false := beq_eq_false_iff_ne.2 h2
  have hnb : (e2 != 0) = true := by simp [bne, hne]
  clear h2
  have HR := Lib.hid hr; clear hr
  have HD := Lib.hid hd; clear hd
  have H0 := Lib.hid (((Held.refl w).lay [.slice A s.length n, .slice B c.length m, .int .i64 f, .bool x] 25).own [.int .i64 0, .int .u64 0, .int .u64 0, .int .u64 0, .int .u64 0, .bool false, .bool false, .bool false] 52 (n := 8) rfl)
  go_enter Try.func22, Try.ntmps22
  go_wp2_with fail
  refine (HR.out _ H0.out.below).mono ?_
  rintro e w1 ⟨rfl, hb⟩
  have H1 := Lib.hid (H0.out.up hb)
  clear hb H0
  obtain ⟨u0, u1, u2, u3, u4, u5, u6, u7, hx⟩ := H1.out.o0.eight
  simp only [World.size_alloc] at hx
  go_wp2_with fail
  refine (HD.out _ H1.out.below).mono ?_
  rintro e w2 ⟨rfl, hb⟩
  have H2 := Lib.hid ((H1.out.up hb).lay [.int .i64 bn, .int .u64 bc, .int .u64 bb, .int .u64 bo, .int .u64 bp, .bool bi, .bool br, .bool bd] 52)
  have hx2 := (hx.below hb).alloc (.cells #[.int .i64 bn, .int .u64 bc, .int .u64 bb, .int .u64 bo, .int .u64 bp, .bool bi, .bool br, .bool bd] 52)
  have hb1 := (H1.out.b0.below hb).alloc (.cells #[.int .i64 bn, .int .u64 bc, .int .u64 bb, .int .u64 bo, .int .u64 bp, .bool bi, .bool br, .bool bd] 52)
  clear hb hx H1
  have kx := hx2.cell
  have fx := hx2.frozen
  go_wp2_with fail
  refine bodyPost_ret (v := .tuple #[.agg #[.int .i64 0, .int .u64 0, .int .u64 0, .int .u64 0, .int .u64 0, .bool false, .bool false, .bool false], .int .i64 e2]) (by simp [results, Try.results22, go_sem, kx]) rfl ⟨rfl, (H2.out.set8 ⟨8, by simp⟩ _ _ _ _ _ _ _ _).below⟩


set_option maxRecDepth 100000 in
set_option maxHeartbeats 2000000 in
theorem rload_misfit (A B : Option Addr) (n m : Nat) (s : List ByteArray) (c : List Wr) (f : Int) (x : Bool) (w : World) (y : ByteArray) (b : Sup) (hr : ∀ v, Below w.heap.size w v → Calls Try.prog 29 #[.agg #[.slice A s.length n, .slice B c.length m, .int .i64 f, .bool x], .int .i64 0] v fun e v' => e = .returned (.tuple #[.string y, .int .i64 0]) ∧ Below v.heap.size v v') (hd : ∀ v, Below w.heap.size w v → Calls Try.prog 43 #[.string y] v fun e v' => e = .returned (.tuple #[supV b, .int .i64 0]) ∧ Below v.heap.size v v') (hl : (s.length : Int) ≤ 1000000) (hn : ((s.length : Int) - 2 == b.n) = false) :
    Calls Try.prog 22 #[.agg #[.slice A s.length n, .slice B c.length m, .int .i64 f, .bool x]] w fun e w' => e = .returned (.tuple #[.agg #[.int .i64 0, .int .u64 0, .int .u64 0, .int .u64 0, .int .u64 0, .bool false, .bool false, .bool false], .int .i64 2]) ∧ Below w.heap.size w w' := by
  have hf := fun w => rfits_any A B s.length n c.length m f x b w hl
  rw [hn] at hf
  clear hn hl
  obtain ⟨bn, bc, bb, bo, bp, bi, br, bd⟩ := b
  dsimp only [supV] at *
  have HR := Lib.hid hr; clear hr
  have HD := Lib.hid hd; clear hd
  have H0 := Lib.hid (((Held.refl w).lay [.slice A s.length n, .slice B c.length m, .int .i64 f, .bool x] 25).own [.int .i64 0, .int .u64 0, .int .u64 0, .int .u64 0, .int .u64 0, .bool false, .bool false, .bool false] 52 (n := 8) rfl)
  go_enter Try.func22, Try.ntmps22
  go_wp2_with fail
  refine (HR.out _ H0.out.below).mono ?_
  rintro e w1 ⟨rfl, hb⟩
  have H1 := Lib.hid (H0.out.up hb)
  clear hb H0
  obtain ⟨u0, u1, u2, u3, u4, u5, u6, u7, hx⟩ := H1.out.o0.eight
  simp only [World.size_alloc] at hx
  go_wp2_with fail
  refine (HD.out _ H1.out.below).mono ?_
  rintro e w2 ⟨rfl, hb⟩
  have H2 := Lib.hid ((H1.out.up hb).lay [.int .i64 bn, .int .u64 bc, .int .u64 bb, .int .u64 bo, .int .u64 bp, .bool bi, .bool br, .bool bd] 52)
  have hx2 := (hx.below hb).alloc (.cells #[.int .i64 bn, .int .u64 bc, .int .u64 bb, .int .u64 bo, .int .u64 bp, .bool bi, .bool br, .bool bd] 52)
  have hb1 := (H1.out.b0.below hb).alloc (.cells #[.int .i64 bn, .int .u64 bc, .int .u64 bb, .int .u64 bo, .int .u64 bp, .bool bi, .bool br, .bool bd] 52)
  clear hb hx H1
  have kx := hx2.cell
  have fx := hx2.frozen
  have kd := hb1.cell
  have ks := H2.out.b0.cell
  go_wp2_with fail
  refine (hf _).mono ?_
  rintro e w3 ⟨rfl, hb⟩
  have H3 := Lib.hid (H2.out.up hb)
  have hx3 := hx2.below hb
  clear hb hx2 H2 kx fx kd ks
  have kx := hx3.cell
  have fx := hx3.frozen
  have ks := H3.out.b0.cell
  go_wp2_with fail
  refine bodyPost_ret (v := .tuple #[.agg #[.int .i64 0, .int .u64 0, .int .u64 0, .int .u64 0, .int .u64 0, .bool false, .bool false, .bool false], .int .i64 2]) (by simp [results, Try.results22, go_sem, kx]) rfl ⟨rfl, (H3.out.set8 ⟨8, by simp⟩ _ _ _ _ _ _ _ _).below⟩


set_option maxRecDepth 100000 in
set_option maxHeartbeats 2000000 in
theorem rload_yes (A B : Option Addr) (n m : Nat) (s : List ByteArray) (c : List Wr) (f : Int) (x : Bool) (w : World) (y : ByteArray) (b : Sup) (hr : ∀ v, Below w.heap.size w v → Calls Try.prog 29 #[.agg #[.slice A s.length n, .slice B c.length m, .int .i64 f, .bool x], .int .i64 0] v fun e v' => e = .returned (.tuple #[.string y, .int .i64 0]) ∧ Below v.heap.size v v') (hd : ∀ v, Below w.heap.size w v → Calls Try.prog 43 #[.string y] v fun e v' => e = .returned (.tuple #[supV b, .int .i64 0]) ∧ Below v.heap.size v v') (hl : (s.length : Int) ≤ 1000000) (hn : ((s.length : Int) - 2 == b.n) = true) :
    Calls Try.prog 22 #[.agg #[.slice A s.length n, .slice B c.length m, .int .i64 f, .bool x]] w fun e w' => e = .returned (.tuple #[supV b, .int .i64 0]) ∧ Below w.heap.size w w' := by
  have hf := fun w => rfits_any A B s.length n c.length m f x b w hl
  rw [hn] at hf
  clear hn hl
  obtain ⟨bn, bc, bb, bo, bp, bi, br, bd⟩ := b
  dsimp only [supV] at *
  have HR := Lib.hid hr; clear hr
  have HD := Lib.hid hd; clear hd
  have H0 := Lib.hid (((Held.refl w).lay [.slice A s.length n, .slice B c.length m, .int .i64 f, .bool x] 25).own [.int .i64 0, .int .u64 0, .int .u64 0, .int .u64 0, .int .u64 0, .bool false, .bool false, .bool false] 52 (n := 8) rfl)
  go_enter Try.func22, Try.ntmps22
  go_wp2_with fail
  refine (HR.out _ H0.out.below).mono ?_
  rintro e w1 ⟨rfl, hb⟩
  have H1 := Lib.hid (H0.out.up hb)
  clear hb H0
  obtain ⟨u0, u1, u2, u3, u4, u5, u6, u7, hx⟩ := H1.out.o0.eight
  simp only [World.size_alloc] at hx
  go_wp2_with fail
  refine (HD.out _ H1.out.below).mono ?_
  rintro e w2 ⟨rfl, hb⟩
  have H2 := Lib.hid ((H1.out.up hb).lay [.int .i64 bn, .int .u64 bc, .int .u64 bb, .int .u64 bo, .int .u64 bp, .bool bi, .bool br, .bool bd] 52)
  have hx2 := (hx.below hb).alloc (.cells #[.int .i64 bn, .int .u64 bc, .int .u64 bb, .int .u64 bo, .int .u64 bp, .bool bi, .bool br, .bool bd] 52)
  have hb1 := (H1.out.b0.below hb).alloc (.cells #[.int .i64 bn, .int .u64 bc, .int .u64 bb, .int .u64 bo, .int .u64 bp, .bool bi, .bool br, .bool bd] 52)
  clear hb hx H1
  have kx := hx2.cell
  have fx := hx2.frozen
  have kd := hb1.cell
  have ks := H2.out.b0.cell
  go_wp2_with fail
  refine (hf _).mono ?_
  rintro e w3 ⟨rfl, hb⟩
  have H3 := Lib.hid (H2.out.up hb)
  have hx3 := hx2.below hb
  clear hb hx2 H2 kx fx kd ks
  have kx := hx3.cell
  have fx := hx3.frozen
  have ks := H3.out.b0.cell
  go_wp2_with fail
  refine bodyPost_ret (v := .tuple #[.agg #[.int .i64 bn, .int .u64 bc, .int .u64 bb, .int .u64 bo, .int .u64 bp, .bool bi, .bool br, .bool bd], .int .i64 0]) (by simp [results, Try.results22, go_sem, kx]) rfl ⟨rfl, (H3.out.set8 ⟨8, by simp⟩ _ _ _ _ _ _ _ _).below⟩

end Go.Proofs.Ytlgfinomkpingaa
