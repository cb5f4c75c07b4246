/- What Decode answers to any text, case by case. No condition. -/
import Derived.Test.YtbbcncofdhhflaaDoorQ2
namespace Go.Proofs.YtbbcncofdhhflaaDoor
open Go.RowKit

/-- What a row of bytes tells, field by field. -/
def helOf (l : List UInt8) : Hel :=
  ⟨((l.getD 0 0).toNat : Int), num8 l 2, num8 l 10, num8 l 18, num8 l 26, decide ((l.getD 1 0).toNat % 2 = 1), decide ((l.getD 1 0).toNat / 2 % 2 = 1), decide ((l.getD 1 0).toNat / 2 / 2 % 2 = 1), decide ((l.getD 1 0).toNat / 2 / 2 / 2 % 2 = 1), val (l.drop 34)⟩

/-- Are they the bytes of a hello that may be? -/
def hformed (l : List UInt8) : Bool := decide (l.length = 38) && decide ((l.getD 1 0).toNat < 16) && (helOf l).right

/-- What bytes are, and their number. -/
def hdec (s : ByteArray) : Hel × Int := if hformed s.data.toList then (helOf s.data.toList, 0) else (Hel.zero, 2)

theorem unfl4 (x : Nat) : unfl 4 x = [decide (x % 2 = 1), decide (x / 2 % 2 = 1), decide (x / 2 / 2 % 2 = 1), decide (x / 2 / 2 / 2 % 2 = 1)] := rfl

/-- Four flags of a byte. -/
theorem bits4 {w : World} {A : Option Addr} {b0 b1 b2 b3 : Bool} (h : Bs w w.heap.size A [b0, b1, b2, b3]) : ∃ g, A = some g ∧ g.block < w.heap.size ∧ w.cell? g = some (.bool b0) ∧ w.cell? ⟨g.block, g.off + 1, none⟩ = some (.bool b1) ∧ w.cell? ⟨g.block, g.off + 2, none⟩ = some (.bool b2) ∧ w.cell? ⟨g.block, g.off + 3, none⟩ = some (.bool b3) := by
  obtain ⟨g, rfl, hl, h0⟩ := h 0 b0 rfl
  obtain ⟨g1, e1, _, h1⟩ := h 1 b1 rfl
  obtain ⟨g2, e2, _, h2⟩ := h 2 b2 rfl
  obtain ⟨g3, e3, _, h3⟩ := h 3 b3 rfl
  injection e1 with e1
  injection e2 with e2
  injection e3 with e3
  subst e1; subst e2; subst e3
  have a0 : g.add 0 = g := by unfold Addr.add; rw [if_pos rfl]
  have a1 := add_succ g 0
  have a2 := add_succ g 1
  have a3 := add_succ g 2
  have x1 : (g.add 1).off = g.off + 1 := by unfold Addr.add; rw [if_neg (by decide)]
  have x2 : (g.add 2).off = g.off + 2 := by unfold Addr.add; rw [if_neg (by decide)]
  rw [add_block, x1] at a2
  rw [add_block, x2] at a3
  rw [a0] at a1 h0
  exact ⟨g, rfl, hl, h0, by rw [a1]; exact h1, by rw [a2]; exact h2, by rw [a3]; exact h3⟩

theorem unflag4 (x : Nat) (w : World) (h : x < 16) : Calls Tryd.prog 61 #[.int .u8 (x : Int), .int .i64 4] w fun e w' =>
    ∃ g c, e = .returned (.tuple #[.slice (some g) 4 c, .bool true]) ∧ 4 ≤ c ∧ g.block < w'.heap.size ∧ w'.cell? g = some (.bool (decide (x % 2 = 1))) ∧ w'.cell? ⟨g.block, g.off + 1, none⟩ = some (.bool (decide (x / 2 % 2 = 1))) ∧ w'.cell? ⟨g.block, g.off + 2, none⟩ = some (.bool (decide (x / 2 / 2 % 2 = 1))) ∧ w'.cell? ⟨g.block, g.off + 3, none⟩ = some (.bool (decide (x / 2 / 2 / 2 % 2 = 1))) ∧ Below w.heap.size w w' := by
  refine (unflag_yes (x : Int) 4 w (by omega) (by omega) (by decide) (by simpa using h)).mono ?_
  rintro e w' ⟨A, c, rfl, hc, _, hbs, hb⟩
  rw [Int.toNat_natCast, unfl4] at *
  obtain ⟨g, rfl, hl, h0, h1, h2, h3⟩ := bits4 hbs
  exact ⟨g, c, rfl, hc, hl, h0, h1, h2, h3, hb⟩

theorem runflag4 (x : Nat) (w : World) (h : x < 16) : Calls Tryd.prog 47 #[.int .u8 (x : Int), .int .i64 4] w fun e w' =>
    ∃ g c, e = .returned (.tuple #[.slice (some g) 4 c, .bool true]) ∧ 4 ≤ c ∧ g.block < w'.heap.size ∧ w'.cell? g = some (.bool (decide (x % 2 = 1))) ∧ w'.cell? ⟨g.block, g.off + 1, none⟩ = some (.bool (decide (x / 2 % 2 = 1))) ∧ w'.cell? ⟨g.block, g.off + 2, none⟩ = some (.bool (decide (x / 2 / 2 % 2 = 1))) ∧ w'.cell? ⟨g.block, g.off + 3, none⟩ = some (.bool (decide (x / 2 / 2 / 2 % 2 = 1))) ∧ Below w.heap.size w w' := by
  refine (runflag_any (x : Int) 4 w (by omega) (by omega) (by decide)).mono ?_
  rintro e w' (⟨_, A, c, rfl, hc, _, hbs, hb⟩ | ⟨hn, _⟩)
  · rw [Int.toNat_natCast, unfl4] at *
    obtain ⟨g, rfl, hl, h0, h1, h2, h3⟩ := bits4 hbs
    exact ⟨g, c, rfl, hc, hl, h0, h1, h2, h3, hb⟩
  · exact absurd (by simpa using h) hn

theorem tail_val (t : ByteArray) (hl : (t.size : Int) = 38) : val (t.extract 34 t.size).data.toList = val (t.data.toList.drop 34) := by
  obtain ⟨⟨l⟩⟩ := t
  have h : l.length = 38 := by have : ((l.length : Nat) : Int) = 38 := hl; omega
  have e : ((⟨⟨l⟩⟩ : ByteArray).extract 34 (⟨⟨l⟩⟩ : ByteArray).size).data.toList = l.drop 34 := by
    have : (⟨⟨l⟩⟩ : ByteArray).size = 38 := h
    rw [this]
    simp [List.extract]
    rw [List.take_of_length_le (by rw [List.length_drop, h]; decide)]
  rw [e]

theorem tail_lt (t : ByteArray) (hl : (t.size : Int) = 38) : val (t.data.toList.drop 34) < 4294967296 := by
  have h := val_lt (t.data.toList.drop 34)
  have e : (t.data.toList.drop 34).length = 4 := by
    have : t.data.toList.length = t.size := rfl
    rw [List.length_drop, this]; omega
  rw [e] at h
  have : (256 : Nat) ^ 4 = 4294967296 := by decide
  omega

theorem get32_b (t : ByteArray) (w : World) (hl : (t.size : Int) = 38) :
    Calls Tryd.prog 54 #[.string (t.extract 34 t.size)] w fun e w' => e = .returned (.tuple #[.int .u32 ((val (t.data.toList.drop 34) : Nat) : Int), .bool true]) ∧ Below w.heap.size w w' := by
  rw [← tail_val t hl]
  refine (get32_yes _ w (by simp; omega)).mono ?_
  rintro e w' ⟨rfl, n, rfl⟩
  exact ⟨rfl, below_drewN (Below.refl _ _) n⟩

theorem rget32_b (t : ByteArray) (w : World) (hl : (t.size : Int) = 38) :
    Calls Tryd.prog 48 #[.string (t.extract 34 t.size)] w fun e w' => e = .returned (.tuple #[.int .u32 ((val (t.data.toList.drop 34) : Nat) : Int), .bool true]) ∧ Below w.heap.size w w' := by
  rw [← tail_val t hl]
  refine (rget32_yes _ w (by simp; omega)).mono ?_
  rintro e w' ⟨rfl, rfl⟩
  exact ⟨rfl, Below.refl _ _⟩

theorem Held.join {W0 w v : World} {M M' : List (Nat × Nat)} (h : Held W0 [] M w) (k : Held w [] M' v) : Held W0 [] (M' ++ M) v := by
  refine ⟨ext h.below k.below, Boxs.nil _, fun y hy => ?_, fun y hy => ?_, fun x hx => by cases hx⟩
  · rcases List.mem_append.1 hy with hy | hy
    · exact k.owns y hy
    · exact (h.owns y hy).below k.below
  · rcases List.mem_append.1 hy with hy | hy
    · exact Nat.le_trans h.below.size (k.high y hy)
    · exact h.high y hy

set_option maxHeartbeats 1000000 in
theorem gen0 (t : ByteArray) (w : World) (hl : (t.size : Int) = 38) :
    Calls Tryd.prog 62 #[.string t, .int .i64 0] w fun e w' => e = .returned (.int .u64 (num8 t.data.toList 2)) ∧ Below w.heap.size w w' := by
  have g := extract_num8 t 2
  have z := extract8 t 2 (by omega)
  have G := Lib.hid g; clear g
  have Z := Lib.hid z; clear z
  generalize num8 t.data.toList 2 = x at *
  go_enter Tryd.func62, Tryd.ntmps62
  go_wp2_with fail
  refine (get64_b _ _ Z.out).mono ?_
  rintro e w1 ⟨rfl, hb⟩
  rw [G.out]
  go_wp2_with fail
  go_ret
  exact ⟨rfl, hb⟩

set_option maxHeartbeats 1000000 in
theorem gen1 (t : ByteArray) (w : World) (hl : (t.size : Int) = 38) :
    Calls Tryd.prog 62 #[.string t, .int .i64 1] w fun e w' => e = .returned (.int .u64 (num8 t.data.toList 10)) ∧ Below w.heap.size w w' := by
  have g := extract_num8 t 10
  have z := extract8 t 10 (by omega)
  have G := Lib.hid g; clear g
  have Z := Lib.hid z; clear z
  generalize num8 t.data.toList 10 = x at *
  go_enter Tryd.func62, Tryd.ntmps62
  go_wp2_with fail
  refine (get64_b _ _ Z.out).mono ?_
  rintro e w1 ⟨rfl, hb⟩
  rw [G.out]
  go_wp2_with fail
  go_ret
  exact ⟨rfl, hb⟩

set_option maxHeartbeats 1000000 in
theorem gen2 (t : ByteArray) (w : World) (hl : (t.size : Int) = 38) :
    Calls Tryd.prog 62 #[.string t, .int .i64 2] w fun e w' => e = .returned (.int .u64 (num8 t.data.toList 18)) ∧ Below w.heap.size w w' := by
  have g := extract_num8 t 18
  have z := extract8 t 18 (by omega)
  have G := Lib.hid g; clear g
  have Z := Lib.hid z; clear z
  generalize num8 t.data.toList 18 = x at *
  go_enter Tryd.func62, Tryd.ntmps62
  go_wp2_with fail
  refine (get64_b _ _ Z.out).mono ?_
  rintro e w1 ⟨rfl, hb⟩
  rw [G.out]
  go_wp2_with fail
  go_ret
  exact ⟨rfl, hb⟩

set_option maxHeartbeats 1000000 in
theorem gen3 (t : ByteArray) (w : World) (hl : (t.size : Int) = 38) :
    Calls Tryd.prog 62 #[.string t, .int .i64 3] w fun e w' => e = .returned (.int .u64 (num8 t.data.toList 26)) ∧ Below w.heap.size w w' := by
  have g := extract_num8 t 26
  have z := extract8 t 26 (by omega)
  have G := Lib.hid g; clear g
  have Z := Lib.hid z; clear z
  generalize num8 t.data.toList 26 = x at *
  go_enter Tryd.func62, Tryd.ntmps62
  go_wp2_with fail
  refine (get64_b _ _ Z.out).mono ?_
  rintro e w1 ⟨rfl, hb⟩
  rw [G.out]
  go_wp2_with fail
  go_ret
  exact ⟨rfl, hb⟩

section
variable (t : ByteArray) (w : World)

set_option maxRecDepth 100000 in
set_option maxHeartbeats 8000000 in
theorem hdec_len (hl : t.size ≠ 38) :
    Calls Tryd.prog 55 #[.string t] w fun e w' => e = .returned (.tuple #[helV Hel.zero, .int .i64 2]) ∧ Below w.heap.size w w' := by
  have hl' : ((t.size : Int) != 38) = true := by rw [bne_iff_ne]; omega
  clear hl
  go_enter Tryd.func55, Tryd.ntmps55
  go_wp2_with fail
  refine bodyPost_ret (v := .tuple #[.agg #[.int .i64 0, .int .u64 0, .int .u64 0, .int .u64 0, .int .u64 0, .bool false, .bool false, .bool false, .bool false, .int .u32 0], .int .i64 2]) (by simp [results, Tryd.results55, go_sem]) rfl ⟨rfl, below1⟩

set_option maxRecDepth 100000 in
set_option maxHeartbeats 8000000 in
theorem hdec_flags (hl : (t.size : Int) = 38) (h8 : 16 ≤ (t[1]'(by omega)).toNat) :
    Calls Tryd.prog 55 #[.string t] w fun e w' => e = .returned (.tuple #[helV Hel.zero, .int .i64 2]) ∧ Below w.heap.size w w' := by
  have hl' : ((t.size : Int) != 38) = false := by rw [bne_eq_false_iff_eq]; exact hl
  have hun := fun w => unflag_more (t[1].toNat : Int) 4 w (by omega) (byte_lt _) (by decide) (by simpa using h8)
  have HU := Lib.hid hun; clear hun h8
  go_enter Tryd.func55, Tryd.ntmps55
  go_wp2_with fail
  refine (HU.out _).mono ?_
  rintro e w1 ⟨rfl, rfl⟩
  go_wp2_with fail
  refine bodyPost_ret (v := .tuple #[.agg #[.int .i64 0, .int .u64 0, .int .u64 0, .int .u64 0, .int .u64 0, .bool false, .bool false, .bool false, .bool false, .int .u32 0], .int .i64 2]) (by simp [results, Tryd.results55, go_sem]) rfl ⟨rfl, below1⟩

set_option maxRecDepth 100000 in
set_option maxHeartbeats 8000000 in
theorem hdec_wrong (hl : (t.size : Int) = 38) (h8 : (t[1]'(by omega)).toNat < 16)
    (hr : (⟨((t[0]'(by omega)).toNat : Int), num8 t.data.toList 2, num8 t.data.toList 10, num8 t.data.toList 18, num8 t.data.toList 26, decide ((t[1]'(by omega)).toNat % 2 = 1), decide ((t[1]'(by omega)).toNat / 2 % 2 = 1), decide ((t[1]'(by omega)).toNat / 2 / 2 % 2 = 1), decide ((t[1]'(by omega)).toNat / 2 / 2 / 2 % 2 = 1), val (t.data.toList.drop 34)⟩ : Hel).right = false) :
    Calls Tryd.prog 55 #[.string t] w fun e w' => e = .returned (.tuple #[helV Hel.zero, .int .i64 2]) ∧ Below w.heap.size w w' := by
  have hl' : ((t.size : Int) != 38) = false := by rw [bne_eq_false_iff_eq]; exact hl
  have hun := fun w => unflag4 t[1].toNat w h8
  have hgm := fun w => get32_b t w hl
  have hg0 := fun w => gen0 t w hl
  have hg1 := fun w => gen1 t w hl
  have hg2 := fun w => gen2 t w hl
  have hg3 := fun w => gen3 t w hl
  have hsr := fun w => hright_any (⟨((t[0]'(by omega)).toNat : Int), num8 t.data.toList 2, num8 t.data.toList 10, num8 t.data.toList 18, num8 t.data.toList 26, decide ((t[1]'(by omega)).toNat % 2 = 1), decide ((t[1]'(by omega)).toNat / 2 % 2 = 1), decide ((t[1]'(by omega)).toNat / 2 / 2 % 2 = 1), decide ((t[1]'(by omega)).toNat / 2 / 2 / 2 % 2 = 1), val (t.data.toList.drop 34)⟩ : Hel) w (tail_lt t hl)
  rw [hr] at hsr
  clear hr h8
  dsimp only [helV] at *
  generalize num8 t.data.toList 2 = c at *
  generalize num8 t.data.toList 10 = b at *
  generalize num8 t.data.toList 18 = o at *
  generalize num8 t.data.toList 26 = p at *
  generalize decide (t[1].toNat % 2 = 1) = b0 at *
  generalize decide (t[1].toNat / 2 % 2 = 1) = b1 at *
  generalize decide (t[1].toNat / 2 / 2 % 2 = 1) = b2 at *
  generalize decide (t[1].toNat / 2 / 2 / 2 % 2 = 1) = b3 at *
  generalize val (t.data.toList.drop 34) = m at *
  have HU := Lib.hid hun; clear hun
  have HM := Lib.hid hgm; clear hgm
  have HSR := Lib.hid hsr; clear hsr
  have HG0 := Lib.hid hg0; clear hg0
  have HG1 := Lib.hid hg1; clear hg1
  have HG2 := Lib.hid hg2; clear hg2
  have HG3 := Lib.hid hg3; clear hg3
  have H0 := Lib.hid ((Held.refl w).own (helC Hel.zero) 28 (n := 10) rfl)
  go_enter Tryd.func55, Tryd.ntmps55
  go_wp2_with fail
  refine (HU.out _).mono ?_
  rintro e w2 ⟨g, cp, rfl, hcp, hg0, hk0, hk1, hk2, hk3, hb⟩
  have H2 := Lib.hid (H0.out.up hb)
  clear hb H0
  have hkeep : ∀ w', Below w2.heap.size w2 w' → w'.cell? g = some (.bool b0) ∧ w'.cell? ⟨g.block, g.off + 1, none⟩ = some (.bool b1) ∧ w'.cell? ⟨g.block, g.off + 2, none⟩ = some (.bool b2) ∧ w'.cell? ⟨g.block, g.off + 3, none⟩ = some (.bool b3) := fun w' hb =>
    ⟨(hb.cell (p := g) hg0).trans hk0, (hb.cell (p := ⟨g.block, g.off + 1, none⟩) hg0).trans hk1, (hb.cell (p := ⟨g.block, g.off + 2, none⟩) hg0).trans hk2, (hb.cell (p := ⟨g.block, g.off + 3, none⟩) hg0).trans hk3⟩
  have HK := Lib.hid hkeep; clear hkeep hk0 hk1 hk2 hk3 hg0
  go_wp2_with fail
  refine (HM.out _).mono ?_
  rintro e w3 ⟨rfl, hb⟩
  have G3 := Lib.hid ((Held.refl w2).up hb)
  clear hb
  go_wp2_with fail
  refine (HG0.out _).mono ?_
  rintro e w4 ⟨rfl, hb⟩
  have G4 := Lib.hid (G3.out.up hb)
  clear hb G3
  go_wp2_with fail
  refine (HG1.out _).mono ?_
  rintro e w5 ⟨rfl, hb⟩
  have G5 := Lib.hid (G4.out.up hb)
  clear hb G4
  go_wp2_with fail
  refine (HG2.out _).mono ?_
  rintro e w6 ⟨rfl, hb⟩
  have G6 := Lib.hid (G5.out.up hb)
  clear hb G5
  go_wp2_with fail
  refine (HG3.out _).mono ?_
  rintro e w7 ⟨rfl, hb⟩
  have G7 := Lib.hid (G6.out.up hb)
  clear hb G6
  have G8 := Lib.hid (G7.out.lay [.int .u64 c, .int .u64 b, .int .u64 o, .int .u64 p] 25)
  clear G7
  go_wp2_with fail
  have hw0 : IntKind.i64.wrap ((t[0].toNat : Nat) : Int) = ((t[0].toNat : Nat) : Int) := IntWalk.i64_in _ (by have := byte_lt t[0]; omega)
  refine held_begin (by kernel_rfl) G8.out (fun v0 hH0 => ?_)
  refine wpAnyH_take (i := 0) (v := ?_) rfl (by kernel_rfl) (by kernel_rfl) (by kernel_rfl) (fun _ _ _ h => h) (Or.inl ⟨by rfl, ?_⟩) hH0 ?_
  rotate_left
  · (intro v hSw; go_simp; try with_reducible rfl)
  simp only [Act.put, List.setIfInBounds_toArray, List.set_cons_zero, List.set_cons_succ, List.getElem_toArray, List.getElem_cons_zero]
  refine wpAnyH_take (i := 1) (v := ?_) rfl (by kernel_rfl) (by kernel_rfl) (by kernel_rfl) (fun _ _ _ h => h) (Or.inl ⟨by rfl, ?_⟩) hH0 ?_
  rotate_left
  · (intro v hSw; go_simp; try with_reducible rfl)
  simp only [Act.put, List.setIfInBounds_toArray, List.set_cons_zero, List.set_cons_succ, List.getElem_toArray, List.getElem_cons_zero, List.getElem_cons_succ]
  refine wpAnyH_take (i := 2) (v := ?_) rfl (by kernel_rfl) (by kernel_rfl) (by kernel_rfl) (fun _ _ _ h => h) (Or.inl ⟨by rfl, ?_⟩) hH0 ?_
  rotate_left
  · (intro v hSw; go_simp; try with_reducible rfl)
  simp only [Act.put, List.setIfInBounds_toArray, List.set_cons_zero, List.set_cons_succ, List.getElem_toArray, List.getElem_cons_zero, List.getElem_cons_succ]
  refine wpAnyH_take (i := 3) (v := ?_) rfl (by kernel_rfl) (by kernel_rfl) (by kernel_rfl) (fun _ _ _ h => h) (Or.inl ⟨by rfl, ?_⟩) hH0 ?_
  rotate_left
  · (intro v hSw; have k := hSw.b0.cell; go_simp; try with_reducible rfl)
  simp only [Act.put, List.setIfInBounds_toArray, List.set_cons_zero, List.set_cons_succ, List.getElem_toArray, List.getElem_cons_zero, List.getElem_cons_succ]
  refine wpAnyH_take (i := 4) (v := ?_) rfl (by kernel_rfl) (by kernel_rfl) (by kernel_rfl) (fun _ _ _ h => h) (Or.inl ⟨by rfl, ?_⟩) hH0 ?_
  rotate_left
  · (intro v hSw; go_simp; try with_reducible rfl)
  simp only [Act.put, List.setIfInBounds_toArray, List.set_cons_zero, List.set_cons_succ, List.getElem_toArray, List.getElem_cons_zero, List.getElem_cons_succ]
  refine wpAnyH_take (i := 5) (v := ?_) rfl (by kernel_rfl) (by kernel_rfl) (by kernel_rfl) (fun _ _ _ h => h) (Or.inl ⟨by rfl, ?_⟩) hH0 ?_
  rotate_left
  · (intro v hSw; go_simp; try with_reducible rfl)
  simp only [Act.put, List.setIfInBounds_toArray, List.set_cons_zero, List.set_cons_succ, List.getElem_toArray, List.getElem_cons_zero, List.getElem_cons_succ]
  refine wpAnyH_take (i := 6) (v := ?_) rfl (by kernel_rfl) (by kernel_rfl) (by kernel_rfl) (fun _ _ _ h => h) (Or.inl ⟨by rfl, ?_⟩) hH0 ?_
  rotate_left
  · (intro v hSw; obtain ⟨k0, k1, k2, k3⟩ := HK.out _ hSw.below; go_simp; try with_reducible rfl)
  simp only [Act.put, List.setIfInBounds_toArray, List.set_cons_zero, List.set_cons_succ, List.getElem_toArray, List.getElem_cons_zero, List.getElem_cons_succ]
  refine wpAnyH_take (i := 7) (v := ?_) rfl (by kernel_rfl) (by kernel_rfl) (by kernel_rfl) (fun _ _ _ h => h) (Or.inl ⟨by rfl, ?_⟩) hH0 ?_
  rotate_left
  · (intro v hSw; go_simp; try with_reducible rfl)
  simp only [Act.put, List.setIfInBounds_toArray, List.set_cons_zero, List.set_cons_succ, List.getElem_toArray, List.getElem_cons_zero, List.getElem_cons_succ]
  refine wpAnyH_take (i := 8) (v := ?_) rfl (by kernel_rfl) (by kernel_rfl) (by kernel_rfl) (fun _ _ _ h => h) (Or.inl ⟨by rfl, ?_⟩) hH0 ?_
  rotate_left
  · (intro v hSw; go_simp; try with_reducible rfl)
  simp only [Act.put, List.setIfInBounds_toArray, List.set_cons_zero, List.set_cons_succ, List.getElem_toArray, List.getElem_cons_zero, List.getElem_cons_succ]
  refine wpAnyH_take (i := 9) (v := ?_) rfl (by kernel_rfl) (by kernel_rfl) (by kernel_rfl) (fun _ _ _ h => h) (Or.inl ⟨by rfl, ?_⟩) hH0 ?_
  rotate_left
  · (intro v hSw; obtain ⟨k0, k1, k2, k3⟩ := HK.out _ hSw.below; go_simp; try with_reducible rfl)
  simp only [Act.put, List.setIfInBounds_toArray, List.set_cons_zero, List.set_cons_succ, List.getElem_toArray, List.getElem_cons_zero, List.getElem_cons_succ]
  refine wpAnyH_take (i := 10) (v := ?_) rfl (by kernel_rfl) (by kernel_rfl) (by kernel_rfl) (fun _ _ _ h => h) (Or.inl ⟨by rfl, ?_⟩) hH0 ?_
  rotate_left
  · (intro v hSw; go_simp; try with_reducible rfl)
  simp only [Act.put, List.setIfInBounds_toArray, List.set_cons_zero, List.set_cons_succ, List.getElem_toArray, List.getElem_cons_zero, List.getElem_cons_succ]
  refine wpAnyH_take (i := 11) (v := ?_) rfl (by kernel_rfl) (by kernel_rfl) (by kernel_rfl) (fun _ _ _ h => h) (Or.inl ⟨by rfl, ?_⟩) hH0 ?_
  rotate_left
  · (intro v hSw; go_simp; try with_reducible rfl)
  simp only [Act.put, List.setIfInBounds_toArray, List.set_cons_zero, List.set_cons_succ, List.getElem_toArray, List.getElem_cons_zero, List.getElem_cons_succ]
  refine wpAnyH_take (i := 12) (v := ?_) rfl (by kernel_rfl) (by kernel_rfl) (by kernel_rfl) (fun _ _ _ h => h) (Or.inl ⟨by rfl, ?_⟩) hH0 ?_
  rotate_left
  · (intro v hSw; obtain ⟨k0, k1, k2, k3⟩ := HK.out _ hSw.below; go_simp; try with_reducible rfl)
  simp only [Act.put, List.setIfInBounds_toArray, List.set_cons_zero, List.set_cons_succ, List.getElem_toArray, List.getElem_cons_zero, List.getElem_cons_succ]
  refine wpAnyH_take (i := 13) (v := ?_) rfl (by kernel_rfl) (by kernel_rfl) (by kernel_rfl) (fun _ _ _ h => h) (Or.inl ⟨by rfl, ?_⟩) hH0 ?_
  rotate_left
  · (intro v hSw; go_simp; try with_reducible rfl)
  simp only [Act.put, List.setIfInBounds_toArray, List.set_cons_zero, List.set_cons_succ, List.getElem_toArray, List.getElem_cons_zero, List.getElem_cons_succ]
  refine wpAnyH_take (i := 14) (v := ?_) rfl (by kernel_rfl) (by kernel_rfl) (by kernel_rfl) (fun _ _ _ h => h) (Or.inl ⟨by rfl, ?_⟩) hH0 ?_
  rotate_left
  · (intro v hSw; go_simp; try with_reducible rfl)
  simp only [Act.put, List.setIfInBounds_toArray, List.set_cons_zero, List.set_cons_succ, List.getElem_toArray, List.getElem_cons_zero, List.getElem_cons_succ]
  refine wpAnyH_take (i := 15) (v := ?_) rfl (by kernel_rfl) (by kernel_rfl) (by kernel_rfl) (fun _ _ _ h => h) (Or.inl ⟨by rfl, ?_⟩) hH0 ?_
  rotate_left
  · (intro v hSw; obtain ⟨k0, k1, k2, k3⟩ := HK.out _ hSw.below; go_simp; try with_reducible rfl)
  simp only [Act.put, List.setIfInBounds_toArray, List.set_cons_zero, List.set_cons_succ, List.getElem_toArray, List.getElem_cons_zero, List.getElem_cons_succ]
  refine wpAnyH_take (i := 16) (v := ?_) rfl (by kernel_rfl) (by kernel_rfl) (by kernel_rfl) (fun _ _ _ h => h) (Or.inl ⟨by rfl, ?_⟩) hH0 ?_
  rotate_left
  · (intro v hSw; go_simp; try with_reducible rfl)
  simp only [Act.put, List.setIfInBounds_toArray, List.set_cons_zero, List.set_cons_succ, List.getElem_toArray, List.getElem_cons_zero, List.getElem_cons_succ]
  refine wpAnyH_take (i := 17) (v := ?_) rfl (by kernel_rfl) (by kernel_rfl) (by kernel_rfl) (fun _ _ _ h => h) (Or.inl ⟨by rfl, ?_⟩) hH0 ?_
  rotate_left
  · (intro v hSw; go_simp; try with_reducible rfl)
  simp only [Act.put, List.setIfInBounds_toArray, List.set_cons_zero, List.set_cons_succ, List.getElem_toArray, List.getElem_cons_zero, List.getElem_cons_succ]
  refine wpAnyH_ready (rs := [18]) (by kernel_rfl) (by simp) ?_
  refine AllReadyH.cons rfl (fun K hK => ?_) AllReadyH.nil
  go_simp
  refine hK.out _ _ (hH0.alloc _) (fun hX => ?_)
  refine laid_own hH0 (n := 10) rfl (fun v1 hH1 => ?_)
  clear hK K hX hH0
  refine wpAnyH_ready (rs := [19]) (by kernel_rfl) (by simp) ?_
  refine AllReadyH.cons rfl (fun K hK => ?_) AllReadyH.nil
  obtain ⟨u0, u1, u2, u3, u4, u5, u6, u7, u8, u9, hx⟩ := hH1.o0.ten
  have kx := hx.cell
  have fx := hx.frozen
  go_simp
  refine hK.out _ _ (hH1.set10 ⟨10, by simp⟩ _ _ _ _ _ _ _ _ _ _) (fun hX => ?_)
  refine stored10 hH1 ⟨10, by simp⟩ hx (fun v2 hH2 hy => ?_)
  clear hK K hX hH1 hx kx fx
  refine wpAnyH_done (by kernel_rfl) ?_ _
  have kz := hy.cell
  have H3 := H2.out.up hH2.below
  clear hH2
  go_wp2_with fail
  refine (HSR.out _).mono ?_
  rintro e w8 ⟨rfl, hb⟩
  have H4 := H3.up hb
  have kq := (hy.below hb).cell
  clear hb H3 hy kz
  clear kq
  obtain ⟨u0, u1, u2, u3, u4, u5, u6, u7, u8, u9, hx⟩ := H4.o0.ten
  have k := hx.cell
  have f := hx.frozen
  have HX := Lib.hid hx; clear hx
  go_wp2_with fail
  have hz := HX.out.ten (.int .i64 0) (.int .u64 0) (.int .u64 0) (.int .u64 0) (.int .u64 0) (.bool false) (.bool false) (.bool false) (.bool false) (.int .u32 0)
  have H9 : Held w [] [(w.heap.size, 10)] ((((((((((w8.setCell ⟨w.heap.size, 0, none⟩ (.int .i64 0)).setCell ⟨w.heap.size, 1, none⟩ (.int .u64 0)).setCell ⟨w.heap.size, 2, none⟩ (.int .u64 0)).setCell ⟨w.heap.size, 3, none⟩ (.int .u64 0)).setCell ⟨w.heap.size, 4, none⟩ (.int .u64 0)).setCell ⟨w.heap.size, 5, none⟩ (.bool false)).setCell ⟨w.heap.size, 6, none⟩ (.bool false)).setCell ⟨w.heap.size, 7, none⟩ (.bool false)).setCell ⟨w.heap.size, 8, none⟩ (.bool false)).setCell ⟨w.heap.size, 9, none⟩ (.int .u32 0)) := H4.set10 ⟨10, by simp⟩ (.int .i64 0) (.int .u64 0) (.int .u64 0) (.int .u64 0) (.int .u64 0) (.bool false) (.bool false) (.bool false) (.bool false) (.int .u32 0)
  generalize ((((((((((w8.setCell ⟨w.heap.size, 0, none⟩ (.int .i64 0)).setCell ⟨w.heap.size, 1, none⟩ (.int .u64 0)).setCell ⟨w.heap.size, 2, none⟩ (.int .u64 0)).setCell ⟨w.heap.size, 3, none⟩ (.int .u64 0)).setCell ⟨w.heap.size, 4, none⟩ (.int .u64 0)).setCell ⟨w.heap.size, 5, none⟩ (.bool false)).setCell ⟨w.heap.size, 6, none⟩ (.bool false)).setCell ⟨w.heap.size, 7, none⟩ (.bool false)).setCell ⟨w.heap.size, 8, none⟩ (.bool false)).setCell ⟨w.heap.size, 9, none⟩ (.int .u32 0)) = w9 at *
  have kz := hz.cell
  refine bodyPost_ret (v := .tuple #[.agg #[.int .i64 0, .int .u64 0, .int .u64 0, .int .u64 0, .int .u64 0, .bool false, .bool false, .bool false, .bool false, .int .u32 0], .int .i64 2]) (by simp [results, Tryd.results55, go_sem, kz]) rfl ⟨rfl, H9.below⟩

set_option maxRecDepth 100000 in
set_option maxHeartbeats 8000000 in
theorem hdec_ok (hl : (t.size : Int) = 38) (h8 : (t[1]'(by omega)).toNat < 16)
    (hr : (⟨((t[0]'(by omega)).toNat : Int), num8 t.data.toList 2, num8 t.data.toList 10, num8 t.data.toList 18, num8 t.data.toList 26, decide ((t[1]'(by omega)).toNat % 2 = 1), decide ((t[1]'(by omega)).toNat / 2 % 2 = 1), decide ((t[1]'(by omega)).toNat / 2 / 2 % 2 = 1), decide ((t[1]'(by omega)).toNat / 2 / 2 / 2 % 2 = 1), val (t.data.toList.drop 34)⟩ : Hel).right = true) :
    Calls Tryd.prog 55 #[.string t] w fun e w' => e = .returned (.tuple #[helV (⟨((t[0]'(by omega)).toNat : Int), num8 t.data.toList 2, num8 t.data.toList 10, num8 t.data.toList 18, num8 t.data.toList 26, decide ((t[1]'(by omega)).toNat % 2 = 1), decide ((t[1]'(by omega)).toNat / 2 % 2 = 1), decide ((t[1]'(by omega)).toNat / 2 / 2 % 2 = 1), decide ((t[1]'(by omega)).toNat / 2 / 2 / 2 % 2 = 1), val (t.data.toList.drop 34)⟩ : Hel), .int .i64 0]) ∧ Below w.heap.size w w' := by
  have hl' : ((t.size : Int) != 38) = false := by rw [bne_eq_false_iff_eq]; exact hl
  have hun := fun w => unflag4 t[1].toNat w h8
  have hgm := fun w => get32_b t w hl
  have hg0 := fun w => gen0 t w hl
  have hg1 := fun w => gen1 t w hl
  have hg2 := fun w => gen2 t w hl
  have hg3 := fun w => gen3 t w hl
  have hsr := fun w => hright_any (⟨((t[0]'(by omega)).toNat : Int), num8 t.data.toList 2, num8 t.data.toList 10, num8 t.data.toList 18, num8 t.data.toList 26, decide ((t[1]'(by omega)).toNat % 2 = 1), decide ((t[1]'(by omega)).toNat / 2 % 2 = 1), decide ((t[1]'(by omega)).toNat / 2 / 2 % 2 = 1), decide ((t[1]'(by omega)).toNat / 2 / 2 / 2 % 2 = 1), val (t.data.toList.drop 34)⟩ : Hel) w (tail_lt t hl)
  rw [hr] at hsr
  clear hr h8
  dsimp only [helV] at *
  generalize num8 t.data.toList 2 = c at *
  generalize num8 t.data.toList 10 = b at *
  generalize num8 t.data.toList 18 = o at *
  generalize num8 t.data.toList 26 = p at *
  generalize decide (t[1].toNat % 2 = 1) = b0 at *
  generalize decide (t[1].toNat / 2 % 2 = 1) = b1 at *
  generalize decide (t[1].toNat / 2 / 2 % 2 = 1) = b2 at *
  generalize decide (t[1].toNat / 2 / 2 / 2 % 2 = 1) = b3 at *
  generalize val (t.data.toList.drop 34) = m at *
  have HU := Lib.hid hun; clear hun
  have HM := Lib.hid hgm; clear hgm
  have HSR := Lib.hid hsr; clear hsr
  have HG0 := Lib.hid hg0; clear hg0
  have HG1 := Lib.hid hg1; clear hg1
  have HG2 := Lib.hid hg2; clear hg2
  have HG3 := Lib.hid hg3; clear hg3
  have H0 := Lib.hid ((Held.refl w).own (helC Hel.zero) 28 (n := 10) rfl)
  go_enter Tryd.func55, Tryd.ntmps55
  go_wp2_with fail
  refine (HU.out _).mono ?_
  rintro e w2 ⟨g, cp, rfl, hcp, hg0, hk0, hk1, hk2, hk3, hb⟩
  have H2 := Lib.hid (H0.out.up hb)
  clear hb H0
  have hkeep : ∀ w', Below w2.heap.size w2 w' → w'.cell? g = some (.bool b0) ∧ w'.cell? ⟨g.block, g.off + 1, none⟩ = some (.bool b1) ∧ w'.cell? ⟨g.block, g.off + 2, none⟩ = some (.bool b2) ∧ w'.cell? ⟨g.block, g.off + 3, none⟩ = some (.bool b3) := fun w' hb =>
    ⟨(hb.cell (p := g) hg0).trans hk0, (hb.cell (p := ⟨g.block, g.off + 1, none⟩) hg0).trans hk1, (hb.cell (p := ⟨g.block, g.off + 2, none⟩) hg0).trans hk2, (hb.cell (p := ⟨g.block, g.off + 3, none⟩) hg0).trans hk3⟩
  have HK := Lib.hid hkeep; clear hkeep hk0 hk1 hk2 hk3 hg0
  go_wp2_with fail
  refine (HM.out _).mono ?_
  rintro e w3 ⟨rfl, hb⟩
  have G3 := Lib.hid ((Held.refl w2).up hb)
  clear hb
  go_wp2_with fail
  refine (HG0.out _).mono ?_
  rintro e w4 ⟨rfl, hb⟩
  have G4 := Lib.hid (G3.out.up hb)
  clear hb G3
  go_wp2_with fail
  refine (HG1.out _).mono ?_
  rintro e w5 ⟨rfl, hb⟩
  have G5 := Lib.hid (G4.out.up hb)
  clear hb G4
  go_wp2_with fail
  refine (HG2.out _).mono ?_
  rintro e w6 ⟨rfl, hb⟩
  have G6 := Lib.hid (G5.out.up hb)
  clear hb G5
  go_wp2_with fail
  refine (HG3.out _).mono ?_
  rintro e w7 ⟨rfl, hb⟩
  have G7 := Lib.hid (G6.out.up hb)
  clear hb G6
  have G8 := Lib.hid (G7.out.lay [.int .u64 c, .int .u64 b, .int .u64 o, .int .u64 p] 25)
  clear G7
  go_wp2_with fail
  have hw0 : IntKind.i64.wrap ((t[0].toNat : Nat) : Int) = ((t[0].toNat : Nat) : Int) := IntWalk.i64_in _ (by have := byte_lt t[0]; omega)
  refine held_begin (by kernel_rfl) G8.out (fun v0 hH0 => ?_)
  refine wpAnyH_take (i := 0) (v := ?_) rfl (by kernel_rfl) (by kernel_rfl) (by kernel_rfl) (fun _ _ _ h => h) (Or.inl ⟨by rfl, ?_⟩) hH0 ?_
  rotate_left
  · (intro v hSw; go_simp; try with_reducible rfl)
  simp only [Act.put, List.setIfInBounds_toArray, List.set_cons_zero, List.set_cons_succ, List.getElem_toArray, List.getElem_cons_zero]
  refine wpAnyH_take (i := 1) (v := ?_) rfl (by kernel_rfl) (by kernel_rfl) (by kernel_rfl) (fun _ _ _ h => h) (Or.inl ⟨by rfl, ?_⟩) hH0 ?_
  rotate_left
  · (intro v hSw; go_simp; try with_reducible rfl)
  simp only [Act.put, List.setIfInBounds_toArray, List.set_cons_zero, List.set_cons_succ, List.getElem_toArray, List.getElem_cons_zero, List.getElem_cons_succ]
  refine wpAnyH_take (i := 2) (v := ?_) rfl (by kernel_rfl) (by kernel_rfl) (by kernel_rfl) (fun _ _ _ h => h) (Or.inl ⟨by rfl, ?_⟩) hH0 ?_
  rotate_left
  · (intro v hSw; go_simp; try with_reducible rfl)
  simp only [Act.put, List.setIfInBounds_toArray, List.set_cons_zero, List.set_cons_succ, List.getElem_toArray, List.getElem_cons_zero, List.getElem_cons_succ]
  refine wpAnyH_take (i := 3) (v := ?_) rfl (by kernel_rfl) (by kernel_rfl) (by kernel_rfl) (fun _ _ _ h => h) (Or.inl ⟨by rfl, ?_⟩) hH0 ?_
  rotate_left
  · (intro v hSw; have k := hSw.b0.cell; go_simp; try with_reducible rfl)
  simp only [Act.put, List.setIfInBounds_toArray, List.set_cons_zero, List.set_cons_succ, List.getElem_toArray, List.getElem_cons_zero, List.getElem_cons_succ]
  refine wpAnyH_take (i := 4) (v := ?_) rfl (by kernel_rfl) (by kernel_rfl) (by kernel_rfl) (fun _ _ _ h => h) (Or.inl ⟨by rfl, ?_⟩) hH0 ?_
  rotate_left
  · (intro v hSw; go_simp; try with_reducible rfl)
  simp only [Act.put, List.setIfInBounds_toArray, List.set_cons_zero, List.set_cons_succ, List.getElem_toArray, List.getElem_cons_zero, List.getElem_cons_succ]
  refine wpAnyH_take (i := 5) (v := ?_) rfl (by kernel_rfl) (by kernel_rfl) (by kernel_rfl) (fun _ _ _ h => h) (Or.inl ⟨by rfl, ?_⟩) hH0 ?_
  rotate_left
  · (intro v hSw; go_simp; try with_reducible rfl)
  simp only [Act.put, List.setIfInBounds_toArray, List.set_cons_zero, List.set_cons_succ, List.getElem_toArray, List.getElem_cons_zero, List.getElem_cons_succ]
  refine wpAnyH_take (i := 6) (v := ?_) rfl (by kernel_rfl) (by kernel_rfl) (by kernel_rfl) (fun _ _ _ h => h) (Or.inl ⟨by rfl, ?_⟩) hH0 ?_
  rotate_left
  · (intro v hSw; obtain ⟨k0, k1, k2, k3⟩ := HK.out _ hSw.below; go_simp; try with_reducible rfl)
  simp only [Act.put, List.setIfInBounds_toArray, List.set_cons_zero, List.set_cons_succ, List.getElem_toArray, List.getElem_cons_zero, List.getElem_cons_succ]
  refine wpAnyH_take (i := 7) (v := ?_) rfl (by kernel_rfl) (by kernel_rfl) (by kernel_rfl) (fun _ _ _ h => h) (Or.inl ⟨by rfl, ?_⟩) hH0 ?_
  rotate_left
  · (intro v hSw; go_simp; try with_reducible rfl)
  simp only [Act.put, List.setIfInBounds_toArray, List.set_cons_zero, List.set_cons_succ, List.getElem_toArray, List.getElem_cons_zero, List.getElem_cons_succ]
  refine wpAnyH_take (i := 8) (v := ?_) rfl (by kernel_rfl) (by kernel_rfl) (by kernel_rfl) (fun _ _ _ h => h) (Or.inl ⟨by rfl, ?_⟩) hH0 ?_
  rotate_left
  · (intro v hSw; go_simp; try with_reducible rfl)
  simp only [Act.put, List.setIfInBounds_toArray, List.set_cons_zero, List.set_cons_succ, List.getElem_toArray, List.getElem_cons_zero, List.getElem_cons_succ]
  refine wpAnyH_take (i := 9) (v := ?_) rfl (by kernel_rfl) (by kernel_rfl) (by kernel_rfl) (fun _ _ _ h => h) (Or.inl ⟨by rfl, ?_⟩) hH0 ?_
  rotate_left
  · (intro v hSw; obtain ⟨k0, k1, k2, k3⟩ := HK.out _ hSw.below; go_simp; try with_reducible rfl)
  simp only [Act.put, List.setIfInBounds_toArray, List.set_cons_zero, List.set_cons_succ, List.getElem_toArray, List.getElem_cons_zero, List.getElem_cons_succ]
  refine wpAnyH_take (i := 10) (v := ?_) rfl (by kernel_rfl) (by kernel_rfl) (by kernel_rfl) (fun _ _ _ h => h) (Or.inl ⟨by rfl, ?_⟩) hH0 ?_
  rotate_left
  · (intro v hSw; go_simp; try with_reducible rfl)
  simp only [Act.put, List.setIfInBounds_toArray, List.set_cons_zero, List.set_cons_succ, List.getElem_toArray, List.getElem_cons_zero, List.getElem_cons_succ]
  refine wpAnyH_take (i := 11) (v := ?_) rfl (by kernel_rfl) (by kernel_rfl) (by kernel_rfl) (fun _ _ _ h => h) (Or.inl ⟨by rfl, ?_⟩) hH0 ?_
  rotate_left
  · (intro v hSw; go_simp; try with_reducible rfl)
  simp only [Act.put, List.setIfInBounds_toArray, List.set_cons_zero, List.set_cons_succ, List.getElem_toArray, List.getElem_cons_zero, List.getElem_cons_succ]
  refine wpAnyH_take (i := 12) (v := ?_) rfl (by kernel_rfl) (by kernel_rfl) (by kernel_rfl) (fun _ _ _ h => h) (Or.inl ⟨by rfl, ?_⟩) hH0 ?_
  rotate_left
  · (intro v hSw; obtain ⟨k0, k1, k2, k3⟩ := HK.out _ hSw.below; go_simp; try with_reducible rfl)
  simp only [Act.put, List.setIfInBounds_toArray, List.set_cons_zero, List.set_cons_succ, List.getElem_toArray, List.getElem_cons_zero, List.getElem_cons_succ]
  refine wpAnyH_take (i := 13) (v := ?_) rfl (by kernel_rfl) (by kernel_rfl) (by kernel_rfl) (fun _ _ _ h => h) (Or.inl ⟨by rfl, ?_⟩) hH0 ?_
  rotate_left
  · (intro v hSw; go_simp; try with_reducible rfl)
  simp only [Act.put, List.setIfInBounds_toArray, List.set_cons_zero, List.set_cons_succ, List.getElem_toArray, List.getElem_cons_zero, List.getElem_cons_succ]
  refine wpAnyH_take (i := 14) (v := ?_) rfl (by kernel_rfl) (by kernel_rfl) (by kernel_rfl) (fun _ _ _ h => h) (Or.inl ⟨by rfl, ?_⟩) hH0 ?_
  rotate_left
  · (intro v hSw; go_simp; try with_reducible rfl)
  simp only [Act.put, List.setIfInBounds_toArray, List.set_cons_zero, List.set_cons_succ, List.getElem_toArray, List.getElem_cons_zero, List.getElem_cons_succ]
  refine wpAnyH_take (i := 15) (v := ?_) rfl (by kernel_rfl) (by kernel_rfl) (by kernel_rfl) (fun _ _ _ h => h) (Or.inl ⟨by rfl, ?_⟩) hH0 ?_
  rotate_left
  · (intro v hSw; obtain ⟨k0, k1, k2, k3⟩ := HK.out _ hSw.below; go_simp; try with_reducible rfl)
  simp only [Act.put, List.setIfInBounds_toArray, List.set_cons_zero, List.set_cons_succ, List.getElem_toArray, List.getElem_cons_zero, List.getElem_cons_succ]
  refine wpAnyH_take (i := 16) (v := ?_) rfl (by kernel_rfl) (by kernel_rfl) (by kernel_rfl) (fun _ _ _ h => h) (Or.inl ⟨by rfl, ?_⟩) hH0 ?_
  rotate_left
  · (intro v hSw; go_simp; try with_reducible rfl)
  simp only [Act.put, List.setIfInBounds_toArray, List.set_cons_zero, List.set_cons_succ, List.getElem_toArray, List.getElem_cons_zero, List.getElem_cons_succ]
  refine wpAnyH_take (i := 17) (v := ?_) rfl (by kernel_rfl) (by kernel_rfl) (by kernel_rfl) (fun _ _ _ h => h) (Or.inl ⟨by rfl, ?_⟩) hH0 ?_
  rotate_left
  · (intro v hSw; go_simp; try with_reducible rfl)
  simp only [Act.put, List.setIfInBounds_toArray, List.set_cons_zero, List.set_cons_succ, List.getElem_toArray, List.getElem_cons_zero, List.getElem_cons_succ]
  refine wpAnyH_ready (rs := [18]) (by kernel_rfl) (by simp) ?_
  refine AllReadyH.cons rfl (fun K hK => ?_) AllReadyH.nil
  go_simp
  refine hK.out _ _ (hH0.alloc _) (fun hX => ?_)
  refine laid_own hH0 (n := 10) rfl (fun v1 hH1 => ?_)
  clear hK K hX hH0
  refine wpAnyH_ready (rs := [19]) (by kernel_rfl) (by simp) ?_
  refine AllReadyH.cons rfl (fun K hK => ?_) AllReadyH.nil
  obtain ⟨u0, u1, u2, u3, u4, u5, u6, u7, u8, u9, hx⟩ := hH1.o0.ten
  have kx := hx.cell
  have fx := hx.frozen
  go_simp
  refine hK.out _ _ (hH1.set10 ⟨10, by simp⟩ _ _ _ _ _ _ _ _ _ _) (fun hX => ?_)
  refine stored10 hH1 ⟨10, by simp⟩ hx (fun v2 hH2 hy => ?_)
  clear hK K hX hH1 hx kx fx
  refine wpAnyH_done (by kernel_rfl) ?_ _
  have kz := hy.cell
  have H3 := H2.out.up hH2.below
  clear hH2
  go_wp2_with fail
  refine (HSR.out _).mono ?_
  rintro e w8 ⟨rfl, hb⟩
  have H4 := H3.up hb
  have kq := (hy.below hb).cell
  clear hb H3 hy kz
  obtain ⟨u0, u1, u2, u3, u4, u5, u6, u7, u8, u9, hx⟩ := H4.o0.ten
  have k := hx.cell
  have f := hx.frozen
  have HX := Lib.hid hx; clear hx
  go_wp2_with fail
  have hz := HX.out.ten (.int .i64 ((t[0].toNat : Nat) : Int)) (.int .u64 c) (.int .u64 b) (.int .u64 o) (.int .u64 p) (.bool b0) (.bool b1) (.bool b2) (.bool b3) (.int .u32 (m : Int))
  have H9 : Held w [] [(w.heap.size, 10)] ((((((((((w8.setCell ⟨w.heap.size, 0, none⟩ (.int .i64 ((t[0].toNat : Nat) : Int))).setCell ⟨w.heap.size, 1, none⟩ (.int .u64 c)).setCell ⟨w.heap.size, 2, none⟩ (.int .u64 b)).setCell ⟨w.heap.size, 3, none⟩ (.int .u64 o)).setCell ⟨w.heap.size, 4, none⟩ (.int .u64 p)).setCell ⟨w.heap.size, 5, none⟩ (.bool b0)).setCell ⟨w.heap.size, 6, none⟩ (.bool b1)).setCell ⟨w.heap.size, 7, none⟩ (.bool b2)).setCell ⟨w.heap.size, 8, none⟩ (.bool b3)).setCell ⟨w.heap.size, 9, none⟩ (.int .u32 (m : Int))) := H4.set10 ⟨10, by simp⟩ (.int .i64 ((t[0].toNat : Nat) : Int)) (.int .u64 c) (.int .u64 b) (.int .u64 o) (.int .u64 p) (.bool b0) (.bool b1) (.bool b2) (.bool b3) (.int .u32 (m : Int))
  generalize ((((((((((w8.setCell ⟨w.heap.size, 0, none⟩ (.int .i64 ((t[0].toNat : Nat) : Int))).setCell ⟨w.heap.size, 1, none⟩ (.int .u64 c)).setCell ⟨w.heap.size, 2, none⟩ (.int .u64 b)).setCell ⟨w.heap.size, 3, none⟩ (.int .u64 o)).setCell ⟨w.heap.size, 4, none⟩ (.int .u64 p)).setCell ⟨w.heap.size, 5, none⟩ (.bool b0)).setCell ⟨w.heap.size, 6, none⟩ (.bool b1)).setCell ⟨w.heap.size, 7, none⟩ (.bool b2)).setCell ⟨w.heap.size, 8, none⟩ (.bool b3)).setCell ⟨w.heap.size, 9, none⟩ (.int .u32 (m : Int))) = w9 at *
  have kz := hz.cell
  refine bodyPost_ret (v := .tuple #[.agg #[.int .i64 ((t[0].toNat : Nat) : Int), .int .u64 c, .int .u64 b, .int .u64 o, .int .u64 p, .bool b0, .bool b1, .bool b2, .bool b3, .int .u32 (m : Int)], .int .i64 0]) (by simp [results, Tryd.results55, go_sem, kz]) rfl ⟨rfl, H9.below⟩

end

end Go.Proofs.YtbbcncofdhhflaaDoor
