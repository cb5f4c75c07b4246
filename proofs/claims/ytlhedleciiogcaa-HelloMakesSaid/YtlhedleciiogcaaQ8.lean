/- Hellos: the walks of the laws: each answers true, for every superblock, every hello and every text. No condition but the width of numbers. -/
import Derived.Test.YtlhedleciiogcaaQ7
namespace Go.Proofs.Ytlhedleciiogcaa
open Go.RowKit

/-- It answers true, and leaves what was there as it was. -/
def Yes (w : World) (e : Ending) (w' : World) : Prop := e = .returned (.bool true) ∧ Below w.heap.size w w'

set_option maxRecDepth 100000 in
set_option maxHeartbeats 8000000 in
theorem makes_law (s : Sup) (x : Bool) (m : Nat) (w : World) (hm : m < 4294967296) : Calls Try.prog 3 #[supV s, .bool x, .int .u32 (m : Int)] w (Yes w) := by
  have he := fun w => hof_any s x m w
  have hf := fun w => rhof_any s x m w
  have h1 := fun w => hright_any (helB s x m) w hm
  have h2 := fun w => rhright_any (helB s x m) w hm
  generalize (helB s x m).right = q at *
  clear hm
  obtain ⟨n, c, b, o, p, i, r, d⟩ := s
  dsimp only [supV, helV, helB] at *
  generalize (r && !x) = y at *
  have HE := Lib.hid he; clear he
  have HF := Lib.hid hf; clear hf
  have HR := Lib.hid h1; clear h1
  have HS := Lib.hid h2; clear h2
  have H0 := Lib.hid ((Held.refl w).lay [.int .i64 n, .int .u64 c, .int .u64 b, .int .u64 o, .int .u64 p, .bool i, .bool r, .bool d] 27)
  go_enter Try.func3, Try.ntmps3
  go_wp2_with fail
  refine (halive_any _).mono ?_
  rintro e w1 ⟨rfl, hb⟩
  have H1 := Lib.hid (H0.out.up hb)
  clear hb H0
  have k := H1.out.b0.cell
  go_wp2_with fail
  refine (HE.out _).mono ?_
  rintro e w2 ⟨rfl, hb⟩
  have H3 := Lib.hid ((H1.out.up hb).lay [.int .i64 n, .int .u64 c, .int .u64 b, .int .u64 o, .int .u64 p, .bool i, .bool y, .bool d, .bool x, .int .u32 (m : Int)] 31)
  clear hb H1 k
  go_wp2_with fail
  refine held_begin (by kernel_rfl) H3.out (fun v0 hH0 => ?_)
  refine wpAnyH_take (i := 0) (v := ?_) rfl (by kernel_rfl) (by kernel_rfl) (by kernel_rfl) (fun _ _ _ h => h) (Or.inl ⟨by rfl, ?_⟩) hH0 ?_
  rotate_left
  · (intro v hSw; have k := hSw.b0.cell; go_simp; try with_reducible rfl)
  simp only [Act.put, List.setIfInBounds_toArray, List.set_cons_zero, List.set_cons_succ, List.getElem_toArray, List.getElem_cons_zero]
  refine wpAnyH_take (i := 1) (v := ?_) rfl (by kernel_rfl) (by kernel_rfl) (by kernel_rfl) (fun _ _ _ h => h) (Or.inl ⟨by rfl, ?_⟩) hH0 ?_
  rotate_left
  · (intro v hSw; have k := hSw.b1.cell; go_simp; try with_reducible rfl)
  simp only [Act.put, List.setIfInBounds_toArray, List.set_cons_zero, List.set_cons_succ, List.getElem_toArray, List.getElem_cons_zero, List.getElem_cons_succ]
  refine wpAnyH_take (i := 2) (v := ?_) rfl (by kernel_rfl) (by kernel_rfl) (by kernel_rfl) (fun _ _ _ h => h) (Or.inl ⟨by rfl, ?_⟩) hH0 ?_
  rotate_left
  · (intro v hSw; go_simp; try with_reducible rfl)
  simp only [Act.put, List.setIfInBounds_toArray, List.set_cons_zero, List.set_cons_succ, List.getElem_toArray, List.getElem_cons_zero, List.getElem_cons_succ]
  refine wpAnyH_take (i := 3) (v := ?_) rfl (by kernel_rfl) (by kernel_rfl) (by kernel_rfl) (fun _ _ _ h => h) (Or.inl ⟨by rfl, ?_⟩) hH0 ?_
  rotate_left
  · (intro v hSw; go_simp; try with_reducible rfl)
  simp only [Act.put, List.setIfInBounds_toArray, List.set_cons_zero, List.set_cons_succ, List.getElem_toArray, List.getElem_cons_zero, List.getElem_cons_succ]
  refine wpAnyH_ready (rs := [4]) (by kernel_rfl) (by simp) ?_
  refine AllReadyH.cons rfl (fun K hK => ?_) AllReadyH.nil
  go_simp
  refine (HF.out _).mono ?_
  rintro e v1 ⟨rfl, hb⟩
  go_wp2_with fail
  refine hK.out _ _ (hH0.up hb) (fun hH1 => ?_)
  clear hK K hH0
  refine wpAnyH_take (i := 5) (v := ?_) rfl (by kernel_rfl) (by kernel_rfl) (by kernel_rfl) (fun _ _ _ h => h) (Or.inl ⟨by rfl, ?_⟩) hH1 ?_
  rotate_left
  · (intro v hSw; go_simp; try with_reducible rfl)
  simp only [Act.put, List.setIfInBounds_toArray, List.set_cons_zero, List.set_cons_succ, List.getElem_toArray, List.getElem_cons_zero, List.getElem_cons_succ]
  refine wpAnyH_take (i := 6) (v := ?_) rfl (by kernel_rfl) (by kernel_rfl) (by kernel_rfl) (fun _ _ _ h => h) (Or.inl ⟨by rfl, ?_⟩) hH1 ?_
  rotate_left
  · (intro v hSw; go_simp; try with_reducible rfl)
  simp only [Act.put, List.setIfInBounds_toArray, List.set_cons_zero, List.set_cons_succ, List.getElem_toArray, List.getElem_cons_zero, List.getElem_cons_succ]
  refine wpAnyH_take (i := 7) (v := ?_) rfl (by kernel_rfl) (by kernel_rfl) (by kernel_rfl) (fun _ _ _ h => h) (Or.inl ⟨by rfl, ?_⟩) hH1 ?_
  rotate_left
  · (intro v hSw; have k := hSw.b0.cell; go_simp; try with_reducible rfl)
  simp only [Act.put, List.setIfInBounds_toArray, List.set_cons_zero, List.set_cons_succ, List.getElem_toArray, List.getElem_cons_zero, List.getElem_cons_succ]
  refine wpAnyH_take (i := 9) (v := ?_) rfl (by kernel_rfl) (by kernel_rfl) (by kernel_rfl) (fun _ _ _ h => h) (Or.inl ⟨by rfl, ?_⟩) hH1 ?_
  rotate_left
  · (intro v hSw; have k := hSw.b0.cell; go_simp; try with_reducible rfl)
  simp only [Act.put, List.setIfInBounds_toArray, List.set_cons_zero, List.set_cons_succ, List.getElem_toArray, List.getElem_cons_zero, List.getElem_cons_succ]
  refine wpAnyH_ready (rs := [8]) (by kernel_rfl) (by simp) ?_
  refine AllReadyH.cons rfl (fun K hK => ?_) AllReadyH.nil
  go_simp
  refine (HR.out _).mono ?_
  rintro e v2 ⟨rfl, hb⟩
  go_wp2_with fail
  refine hK.out _ _ (hH1.up hb) (fun hH2 => ?_)
  clear hK K hH1
  refine wpAnyH_ready (rs := [10]) (by kernel_rfl) (by simp) ?_
  refine AllReadyH.cons rfl (fun K hK => ?_) AllReadyH.nil
  go_simp
  refine (HS.out _).mono ?_
  rintro e v3 ⟨rfl, hb⟩
  go_wp2_with fail
  refine hK.out _ _ (hH2.up hb) (fun hH3 => ?_)
  clear hK K hH2
  refine wpAnyH_take (i := 11) (v := ?_) rfl (by kernel_rfl) (by kernel_rfl) (by kernel_rfl) (fun _ _ _ h => h) (Or.inl ⟨by rfl, ?_⟩) hH3 ?_
  rotate_left
  · (intro v hSw; go_simp; try with_reducible rfl)
  simp only [Act.put, List.setIfInBounds_toArray, List.set_cons_zero, List.set_cons_succ, List.getElem_toArray, List.getElem_cons_zero, List.getElem_cons_succ]
  refine wpAnyH_take (i := 12) (v := ?_) rfl (by kernel_rfl) (by kernel_rfl) (by kernel_rfl) (fun _ _ _ h => h) (Or.inl ⟨by rfl, ?_⟩) hH3 ?_
  rotate_left
  · (intro v hSw; go_simp; try with_reducible rfl)
  simp only [Act.put, List.setIfInBounds_toArray, List.set_cons_zero, List.set_cons_succ, List.getElem_toArray, List.getElem_cons_zero, List.getElem_cons_succ]
  refine wpAnyH_take (i := 13) (v := ?_) rfl (by kernel_rfl) (by kernel_rfl) (by kernel_rfl) (fun _ _ _ h => h) (Or.inl ⟨by rfl, ?_⟩) hH3 ?_
  rotate_left
  · (intro v hSw; go_simp; try with_reducible rfl)
  simp only [Act.put, List.setIfInBounds_toArray, List.set_cons_zero, List.set_cons_succ, List.getElem_toArray, List.getElem_cons_zero, List.getElem_cons_succ]
  refine wpAnyH_done (by kernel_rfl) ?_ _
  go_wp2_with fail
  go_ret
  exact ⟨rfl, hH3.below⟩

set_option maxRecDepth 100000 in
set_option maxHeartbeats 8000000 in
theorem bytes_law (s : Hel) (t : ByteArray) (w : World) (hw : s.wide) : Calls Try.prog 4 #[helV s, .string t] w (Yes w) := by
  have he := fun w => hencode_any s w hw
  have hf := fun w => rhencode_any s w hw
  have h1 := fun w => hright_any s w hw.2.2.2.2
  have h2 := fun w => rhright_any s w hw.2.2.2.2
  have hd := fun w => hdecode_any t w
  have hg := fun w => rhdecode_any t w
  generalize s.encT = z at *
  generalize s.encE = y at *
  generalize s.right = x at *
  generalize hdec t = D at *
  clear hw
  obtain ⟨⟨n2, c2, b2, o2, p2, i2, r2, d2, q2, m2⟩, e2⟩ := D
  obtain ⟨n, c, b, o, p, i, r, d, q, m⟩ := s
  dsimp only [helV] at *
  have HE := Lib.hid he; clear he
  have HF := Lib.hid hf; clear hf
  have HR := Lib.hid h1; clear h1
  have HS := Lib.hid h2; clear h2
  have HD := Lib.hid hd; clear hd
  have HG := Lib.hid hg; clear hg
  by_cases hs : 500 < (t.size : Int)
  · have H0 := Lib.hid ((Held.refl w).lay [.int .i64 n, .int .u64 c, .int .u64 b, .int .u64 o, .int .u64 p, .bool i, .bool r, .bool d, .bool q, .int .u32 (m : Int)] 31)
    go_enter Try.func4, Try.ntmps4
    go_wp2_with fail
    refine (halive_any _).mono ?_
    rintro e w1 ⟨rfl, hb⟩
    have H1 := Lib.hid (H0.out.up hb)
    clear hb H0
    go_wp2_with fail
    go_ret
    exact ⟨rfl, H1.out.below⟩
  · have H0 := Lib.hid ((Held.refl w).lay [.int .i64 n, .int .u64 c, .int .u64 b, .int .u64 o, .int .u64 p, .bool i, .bool r, .bool d, .bool q, .int .u32 (m : Int)] 31)
    go_enter Try.func4, Try.ntmps4
    go_wp2_with fail
    refine (halive_any _).mono ?_
    rintro e w1 ⟨rfl, hb⟩
    have H1 := Lib.hid (H0.out.up hb)
    clear hb H0
    have k := H1.out.b0.cell
    go_wp2_with fail
    refine (HE.out _).mono ?_
    rintro e w2 ⟨rfl, hb⟩
    have H2 := Lib.hid (H1.out.up hb)
    clear hb H1 k
    have k := H2.out.b0.cell
    go_wp2_with fail
    refine (HF.out _).mono ?_
    rintro e w3 ⟨rfl, hb⟩
    have H3 := Lib.hid (H2.out.up hb)
    clear hb H2 k
    go_wp2_with fail
    refine (HD.out _).mono ?_
    rintro e w4 ⟨rfl, hb⟩
    have H4 := Lib.hid ((H3.out.up hb).lay [.int .i64 n2, .int .u64 c2, .int .u64 b2, .int .u64 o2, .int .u64 p2, .bool i2, .bool r2, .bool d2, .bool q2, .int .u32 (m2 : Int)] 31)
    clear hb H3
    go_wp2_with fail
    refine (HG.out _).mono ?_
    rintro e w5 ⟨rfl, hb⟩
    have H6 := Lib.hid ((H4.out.up hb).lay [.int .i64 n2, .int .u64 c2, .int .u64 b2, .int .u64 o2, .int .u64 p2, .bool i2, .bool r2, .bool d2, .bool q2, .int .u32 (m2 : Int)] 31)
    clear hb H4
    go_wp2_with fail
    refine held_begin (by kernel_rfl) H6.out (fun v0 hH0 => ?_)
    refine wpAnyH_take (i := 0) (v := ?_) rfl (by kernel_rfl) (by kernel_rfl) (by kernel_rfl) (fun _ _ _ h => h) (Or.inl ⟨by rfl, ?_⟩) hH0 ?_
    rotate_left
    · (intro v hSw; go_simp; try with_reducible rfl)
    simp only [Act.put, List.setIfInBounds_toArray, List.set_cons_zero, List.set_cons_succ, List.getElem_toArray, List.getElem_cons_zero]
    refine wpAnyH_take (i := 1) (v := ?_) rfl (by kernel_rfl) (by kernel_rfl) (by kernel_rfl) (fun _ _ _ h => h) (Or.inl ⟨by rfl, ?_⟩) hH0 ?_
    rotate_left
    · (intro v hSw; go_simp; try with_reducible rfl)
    simp only [Act.put, List.setIfInBounds_toArray, List.set_cons_zero, List.set_cons_succ, List.getElem_toArray, List.getElem_cons_zero, List.getElem_cons_succ]
    refine wpAnyH_take (i := 2) (v := ?_) rfl (by kernel_rfl) (by kernel_rfl) (by kernel_rfl) (fun _ _ _ h => h) (Or.inl ⟨by rfl, ?_⟩) hH0 ?_
    rotate_left
    · (intro v hSw; go_simp; try with_reducible rfl)
    simp only [Act.put, List.setIfInBounds_toArray, List.set_cons_zero, List.set_cons_succ, List.getElem_toArray, List.getElem_cons_zero, List.getElem_cons_succ]
    refine wpAnyH_take (i := 3) (v := ?_) rfl (by kernel_rfl) (by kernel_rfl) (by kernel_rfl) (fun _ _ _ h => h) (Or.inl ⟨by rfl, ?_⟩) hH0 ?_
    rotate_left
    · (intro v hSw; go_simp; try with_reducible rfl)
    simp only [Act.put, List.setIfInBounds_toArray, List.set_cons_zero, List.set_cons_succ, List.getElem_toArray, List.getElem_cons_zero, List.getElem_cons_succ]
    refine wpAnyH_take (i := 4) (v := ?_) rfl (by kernel_rfl) (by kernel_rfl) (by kernel_rfl) (fun _ _ _ h => h) (Or.inl ⟨by rfl, ?_⟩) hH0 ?_
    rotate_left
    · (intro v hSw; go_simp; try with_reducible rfl)
    simp only [Act.put, List.setIfInBounds_toArray, List.set_cons_zero, List.set_cons_succ, List.getElem_toArray, List.getElem_cons_zero, List.getElem_cons_succ]
    refine wpAnyH_take (i := 5) (v := ?_) rfl (by kernel_rfl) (by kernel_rfl) (by kernel_rfl) (fun _ _ _ h => h) (Or.inl ⟨by rfl, ?_⟩) hH0 ?_
    rotate_left
    · (intro v hSw; go_simp; try with_reducible rfl)
    simp only [Act.put, List.setIfInBounds_toArray, List.set_cons_zero, List.set_cons_succ, List.getElem_toArray, List.getElem_cons_zero, List.getElem_cons_succ]
    refine wpAnyH_take (i := 6) (v := ?_) rfl (by kernel_rfl) (by kernel_rfl) (by kernel_rfl) (fun _ _ _ h => h) (Or.inl ⟨by rfl, ?_⟩) hH0 ?_
    rotate_left
    · (intro v hSw; go_simp; try with_reducible rfl)
    simp only [Act.put, List.setIfInBounds_toArray, List.set_cons_zero, List.set_cons_succ, List.getElem_toArray, List.getElem_cons_zero, List.getElem_cons_succ]
    refine wpAnyH_take (i := 7) (v := ?_) rfl (by kernel_rfl) (by kernel_rfl) (by kernel_rfl) (fun _ _ _ h => h) (Or.inl ⟨by rfl, ?_⟩) hH0 ?_
    rotate_left
    · (intro v hSw; go_simp; try with_reducible rfl)
    simp only [Act.put, List.setIfInBounds_toArray, List.set_cons_zero, List.set_cons_succ, List.getElem_toArray, List.getElem_cons_zero, List.getElem_cons_succ]
    refine wpAnyH_take (i := 8) (v := ?_) rfl (by kernel_rfl) (by kernel_rfl) (by kernel_rfl) (fun _ _ _ h => h) (Or.inl ⟨by rfl, ?_⟩) hH0 ?_
    rotate_left
    · (intro v hSw; go_simp; try with_reducible rfl)
    simp only [Act.put, List.setIfInBounds_toArray, List.set_cons_zero, List.set_cons_succ, List.getElem_toArray, List.getElem_cons_zero, List.getElem_cons_succ]
    refine wpAnyH_take (i := 9) (v := ?_) rfl (by kernel_rfl) (by kernel_rfl) (by kernel_rfl) (fun _ _ _ h => h) (Or.inl ⟨by rfl, ?_⟩) hH0 ?_
    rotate_left
    · (intro v hSw; have k := hSw.b1.cell; go_simp; try with_reducible rfl)
    simp only [Act.put, List.setIfInBounds_toArray, List.set_cons_zero, List.set_cons_succ, List.getElem_toArray, List.getElem_cons_zero, List.getElem_cons_succ]
    refine wpAnyH_take (i := 10) (v := ?_) rfl (by kernel_rfl) (by kernel_rfl) (by kernel_rfl) (fun _ _ _ h => h) (Or.inl ⟨by rfl, ?_⟩) hH0 ?_
    rotate_left
    · (intro v hSw; have k := hSw.b0.cell; go_simp; try with_reducible rfl)
    simp only [Act.put, List.setIfInBounds_toArray, List.set_cons_zero, List.set_cons_succ, List.getElem_toArray, List.getElem_cons_zero, List.getElem_cons_succ]
    refine wpAnyH_take (i := 11) (v := ?_) rfl (by kernel_rfl) (by kernel_rfl) (by kernel_rfl) (fun _ _ _ h => h) (Or.inl ⟨by rfl, ?_⟩) hH0 ?_
    rotate_left
    · (intro v hSw; go_simp; try with_reducible rfl)
    simp only [Act.put, List.setIfInBounds_toArray, List.set_cons_zero, List.set_cons_succ, List.getElem_toArray, List.getElem_cons_zero, List.getElem_cons_succ]
    refine wpAnyH_take (i := 12) (v := ?_) rfl (by kernel_rfl) (by kernel_rfl) (by kernel_rfl) (fun _ _ _ h => h) (Or.inl ⟨by rfl, ?_⟩) hH0 ?_
    rotate_left
    · (intro v hSw; go_simp; try with_reducible rfl)
    simp only [Act.put, List.setIfInBounds_toArray, List.set_cons_zero, List.set_cons_succ, List.getElem_toArray, List.getElem_cons_zero, List.getElem_cons_succ]
    refine wpAnyH_take (i := 13) (v := ?_) rfl (by kernel_rfl) (by kernel_rfl) (by kernel_rfl) (fun _ _ _ h => h) (Or.inl ⟨by rfl, ?_⟩) hH0 ?_
    rotate_left
    · (intro v hSw; go_simp; try with_reducible rfl)
    simp only [Act.put, List.setIfInBounds_toArray, List.set_cons_zero, List.set_cons_succ, List.getElem_toArray, List.getElem_cons_zero, List.getElem_cons_succ]
    refine wpAnyH_take (i := 14) (v := ?_) rfl (by kernel_rfl) (by kernel_rfl) (by kernel_rfl) (fun _ _ _ h => h) (Or.inl ⟨by rfl, ?_⟩) hH0 ?_
    rotate_left
    · (intro v hSw; go_simp; try with_reducible rfl)
    simp only [Act.put, List.setIfInBounds_toArray, List.set_cons_zero, List.set_cons_succ, List.getElem_toArray, List.getElem_cons_zero, List.getElem_cons_succ]
    refine wpAnyH_take (i := 15) (v := ?_) rfl (by kernel_rfl) (by kernel_rfl) (by kernel_rfl) (fun _ _ _ h => h) (Or.inl ⟨by rfl, ?_⟩) hH0 ?_
    rotate_left
    · (intro v hSw; go_simp; try with_reducible rfl)
    simp only [Act.put, List.setIfInBounds_toArray, List.set_cons_zero, List.set_cons_succ, List.getElem_toArray, List.getElem_cons_zero, List.getElem_cons_succ]
    refine wpAnyH_take (i := 16) (v := ?_) rfl (by kernel_rfl) (by kernel_rfl) (by kernel_rfl) (fun _ _ _ h => h) (Or.inl ⟨by rfl, ?_⟩) hH0 ?_
    rotate_left
    · (intro v hSw; go_simp; try with_reducible rfl)
    simp only [Act.put, List.setIfInBounds_toArray, List.set_cons_zero, List.set_cons_succ, List.getElem_toArray, List.getElem_cons_zero, List.getElem_cons_succ]
    refine wpAnyH_take (i := 17) (v := ?_) rfl (by kernel_rfl) (by kernel_rfl) (by kernel_rfl) (fun _ _ _ h => h) (Or.inl ⟨by rfl, ?_⟩) hH0 ?_
    rotate_left
    · (intro v hSw; go_simp; try with_reducible rfl)
    simp only [Act.put, List.setIfInBounds_toArray, List.set_cons_zero, List.set_cons_succ, List.getElem_toArray, List.getElem_cons_zero, List.getElem_cons_succ]
    refine wpAnyH_take (i := 18) (v := ?_) rfl (by kernel_rfl) (by kernel_rfl) (by kernel_rfl) (fun _ _ _ h => h) (Or.inl ⟨by rfl, ?_⟩) hH0 ?_
    rotate_left
    · (intro v hSw; go_simp; try with_reducible rfl)
    simp only [Act.put, List.setIfInBounds_toArray, List.set_cons_zero, List.set_cons_succ, List.getElem_toArray, List.getElem_cons_zero, List.getElem_cons_succ]
    refine wpAnyH_take (i := 19) (v := ?_) rfl (by kernel_rfl) (by kernel_rfl) (by kernel_rfl) (fun _ _ _ h => h) (Or.inl ⟨by rfl, ?_⟩) hH0 ?_
    rotate_left
    · (intro v hSw; have k := hSw.b2.cell; go_simp; try with_reducible rfl)
    simp only [Act.put, List.setIfInBounds_toArray, List.set_cons_zero, List.set_cons_succ, List.getElem_toArray, List.getElem_cons_zero, List.getElem_cons_succ]
    refine wpAnyH_take (i := 21) (v := ?_) rfl (by kernel_rfl) (by kernel_rfl) (by kernel_rfl) (fun _ _ _ h => h) (Or.inl ⟨by rfl, ?_⟩) hH0 ?_
    rotate_left
    · (intro v hSw; have k := hSw.b2.cell; go_simp; try with_reducible rfl)
    simp only [Act.put, List.setIfInBounds_toArray, List.set_cons_zero, List.set_cons_succ, List.getElem_toArray, List.getElem_cons_zero, List.getElem_cons_succ]
    refine wpAnyH_ready (rs := [20]) (by kernel_rfl) (by simp) ?_
    refine AllReadyH.cons rfl (fun K hK => ?_) AllReadyH.nil
    go_simp
    refine (HR.out _).mono ?_
    rintro e v1 ⟨rfl, hb⟩
    go_wp2_with fail
    refine hK.out _ _ (hH0.up hb) (fun hH1 => ?_)
    clear hK K hH0
    refine wpAnyH_ready (rs := [22]) (by kernel_rfl) (by simp) ?_
    refine AllReadyH.cons rfl (fun K hK => ?_) AllReadyH.nil
    go_simp
    refine (HS.out _).mono ?_
    rintro e v2 ⟨rfl, hb⟩
    go_wp2_with fail
    refine hK.out _ _ (hH1.up hb) (fun hH2 => ?_)
    clear hK K hH1
    refine wpAnyH_take (i := 23) (v := ?_) rfl (by kernel_rfl) (by kernel_rfl) (by kernel_rfl) (fun _ _ _ h => h) (Or.inl ⟨by rfl, ?_⟩) hH2 ?_
    rotate_left
    · (intro v hSw; go_simp; try with_reducible rfl)
    simp only [Act.put, List.setIfInBounds_toArray, List.set_cons_zero, List.set_cons_succ, List.getElem_toArray, List.getElem_cons_zero, List.getElem_cons_succ]
    refine wpAnyH_take (i := 24) (v := ?_) rfl (by kernel_rfl) (by kernel_rfl) (by kernel_rfl) (fun _ _ _ h => h) (Or.inl ⟨by rfl, ?_⟩) hH2 ?_
    rotate_left
    · (intro v hSw; go_simp; try with_reducible rfl)
    simp only [Act.put, List.setIfInBounds_toArray, List.set_cons_zero, List.set_cons_succ, List.getElem_toArray, List.getElem_cons_zero, List.getElem_cons_succ]
    refine wpAnyH_take (i := 25) (v := ?_) rfl (by kernel_rfl) (by kernel_rfl) (by kernel_rfl) (fun _ _ _ h => h) (Or.inl ⟨by rfl, ?_⟩) hH2 ?_
    rotate_left
    · (intro v hSw; go_simp; try with_reducible rfl)
    simp only [Act.put, List.setIfInBounds_toArray, List.set_cons_zero, List.set_cons_succ, List.getElem_toArray, List.getElem_cons_zero, List.getElem_cons_succ]
    refine wpAnyH_done (by kernel_rfl) ?_ _
    go_wp2_with fail
    go_ret
    exact ⟨rfl, hH2.below⟩

set_option maxRecDepth 100000 in
set_option maxHeartbeats 8000000 in
theorem hback_yes_good (s : Hel) (x : ByteArray) (w : World) (hw : s.wide) (hx : (x.size : Int) ≤ 500) (hr : s.right = true) (hd : (hdec x).2 = 0) :
    Calls Try.prog 5 #[helV s, .string x] w (Yes w) := by
  have he := fun w => hencode_yes s w hw hr
  have hdb := fun w => hdecode_any s.bytes w
  rw [hdec_bytes s hw hr] at hdb
  generalize s.bytes = y at *
  have hdx := fun w => hdecode_any x w
  obtain ⟨g1, g2, g3⟩ := bytes_hdec x hd
  have he2 := fun w => hencode_yes (hdec x).1 w g2 g1
  rw [g3] at he2
  rw [hd] at hdx
  clear g1 g2 g3 hd
  generalize (hdec x).1 = u at *
  obtain ⟨n2, c2, b2, o2, p2, i2, r2, d2, q2, m2⟩ := u
  clear hw hr
  obtain ⟨n, c, b, o, p, i, r, d, q, m⟩ := s
  dsimp only [helV, Hel.zero] at *
  have HE := Lib.hid he; clear he
  have HDX := Lib.hid hdx; clear hdx
  have HDB := Lib.hid hdb; clear hdb
  have HE2 := Lib.hid he2; clear he2
  have H0 := Lib.hid ((Held.refl w).lay [.int .i64 n, .int .u64 c, .int .u64 b, .int .u64 o, .int .u64 p, .bool i, .bool r, .bool d, .bool q, .int .u32 (m : Int)] 31)
  go_enter Try.func5, Try.ntmps5
  go_wp2_with fail
  refine (halive_any _).mono ?_
  rintro e w1 ⟨rfl, hb⟩
  have H1 := Lib.hid (H0.out.up hb)
  clear hb H0
  have k := H1.out.b0.cell
  go_wp2_with fail
  refine (HE.out _).mono ?_
  rintro e w2 ⟨rfl, hb⟩
  have H2 := Lib.hid (H1.out.up hb)
  clear hb H1 k
  go_wp2_with fail
  refine (HDB.out _).mono ?_
  rintro e w3 ⟨rfl, hb⟩
  have H3 := Lib.hid ((H2.out.up hb).lay [.int .i64 n, .int .u64 c, .int .u64 b, .int .u64 o, .int .u64 p, .bool i, .bool r, .bool d, .bool q, .int .u32 (m : Int)] 31)
  clear hb H2
  have k0 := H3.out.b0.cell
  have k1 := H3.out.b1.cell
  go_wp2_with fail
  refine (HDX.out _).mono ?_
  rintro e w4 ⟨rfl, hb⟩
  have H4 := Lib.hid ((H3.out.up hb).lay [.int .i64 n2, .int .u64 c2, .int .u64 b2, .int .u64 o2, .int .u64 p2, .bool i2, .bool r2, .bool d2, .bool q2, .int .u32 (m2 : Int)] 31)
  clear hb H3 k0 k1
  have k0 := H4.out.b0.cell
  go_wp2_with fail
  refine (HE2.out _).mono ?_
  rintro e w5 ⟨rfl, hb⟩
  have H5 := Lib.hid (H4.out.up hb)
  clear hb H4 k0
  go_wp2_with fail
  go_ret
  exact ⟨rfl, H5.out.below⟩

set_option maxRecDepth 100000 in
set_option maxHeartbeats 8000000 in
theorem hback_yes_bad (s : Hel) (x : ByteArray) (w : World) (hw : s.wide) (hx : (x.size : Int) ≤ 500) (hr : s.right = true) (hd : (hdec x).2 ≠ 0) :
    Calls Try.prog 5 #[helV s, .string x] w (Yes w) := by
  have he := fun w => hencode_yes s w hw hr
  have hdb := fun w => hdecode_any s.bytes w
  rw [hdec_bytes s hw hr] at hdb
  generalize s.bytes = y at *
  have hdx := fun w => hdecode_any x w
  rw [hdec_zero x hd] at hdx
  generalize (hdec x).2 = v at *
  have hv : (v != 0) = true := bne_iff_ne.2 hd
  clear hd
  clear hw hr
  obtain ⟨n, c, b, o, p, i, r, d, q, m⟩ := s
  dsimp only [helV, Hel.zero] at *
  have HE := Lib.hid he; clear he
  have HDX := Lib.hid hdx; clear hdx
  have HDB := Lib.hid hdb; clear hdb
  have H0 := Lib.hid ((Held.refl w).lay [.int .i64 n, .int .u64 c, .int .u64 b, .int .u64 o, .int .u64 p, .bool i, .bool r, .bool d, .bool q, .int .u32 (m : Int)] 31)
  go_enter Try.func5, Try.ntmps5
  go_wp2_with fail
  refine (halive_any _).mono ?_
  rintro e w1 ⟨rfl, hb⟩
  have H1 := Lib.hid (H0.out.up hb)
  clear hb H0
  have k := H1.out.b0.cell
  go_wp2_with fail
  refine (HE.out _).mono ?_
  rintro e w2 ⟨rfl, hb⟩
  have H2 := Lib.hid (H1.out.up hb)
  clear hb H1 k
  go_wp2_with fail
  refine (HDB.out _).mono ?_
  rintro e w3 ⟨rfl, hb⟩
  have H3 := Lib.hid ((H2.out.up hb).lay [.int .i64 n, .int .u64 c, .int .u64 b, .int .u64 o, .int .u64 p, .bool i, .bool r, .bool d, .bool q, .int .u32 (m : Int)] 31)
  clear hb H2
  have k0 := H3.out.b0.cell
  have k1 := H3.out.b1.cell
  go_wp2_with fail
  refine (HDX.out _).mono ?_
  rintro e w4 ⟨rfl, hb⟩
  have H4 := Lib.hid ((H3.out.up hb).lay [.int .i64 0, .int .u64 0, .int .u64 0, .int .u64 0, .int .u64 0, .bool false, .bool false, .bool false, .bool false, .int .u32 0] 31)
  clear hb H3 k0 k1
  have k0 := H4.out.b0.cell
  go_wp2_with fail
  go_ret
  exact ⟨rfl, H4.out.below⟩

set_option maxRecDepth 100000 in
set_option maxHeartbeats 8000000 in
theorem hback_no_good (s : Hel) (x : ByteArray) (w : World) (hw : s.wide) (hx : (x.size : Int) ≤ 500) (hr : s.right = false) (hd : (hdec x).2 = 0) :
    Calls Try.prog 5 #[helV s, .string x] w (Yes w) := by
  have he := fun w => hencode_no s w hw.2.2.2.2 hr
  have hdx := fun w => hdecode_any x w
  obtain ⟨g1, g2, g3⟩ := bytes_hdec x hd
  have he2 := fun w => hencode_yes (hdec x).1 w g2 g1
  rw [g3] at he2
  rw [hd] at hdx
  clear g1 g2 g3 hd
  generalize (hdec x).1 = u at *
  obtain ⟨n2, c2, b2, o2, p2, i2, r2, d2, q2, m2⟩ := u
  clear hw hr
  obtain ⟨n, c, b, o, p, i, r, d, q, m⟩ := s
  dsimp only [helV, Hel.zero] at *
  have HE := Lib.hid he; clear he
  have HDX := Lib.hid hdx; clear hdx
  have HE2 := Lib.hid he2; clear he2
  have H0 := Lib.hid ((Held.refl w).lay [.int .i64 n, .int .u64 c, .int .u64 b, .int .u64 o, .int .u64 p, .bool i, .bool r, .bool d, .bool q, .int .u32 (m : Int)] 31)
  go_enter Try.func5, Try.ntmps5
  go_wp2_with fail
  refine (halive_any _).mono ?_
  rintro e w1 ⟨rfl, hb⟩
  have H1 := Lib.hid (H0.out.up hb)
  clear hb H0
  have k := H1.out.b0.cell
  go_wp2_with fail
  refine (HE.out _).mono ?_
  rintro e w2 ⟨rfl, hb⟩
  have H2 := Lib.hid (H1.out.up hb)
  clear hb H1 k
  go_wp2_with fail
  refine (HDX.out _).mono ?_
  rintro e w4 ⟨rfl, hb⟩
  have H4 := Lib.hid ((H2.out.up hb).lay [.int .i64 n2, .int .u64 c2, .int .u64 b2, .int .u64 o2, .int .u64 p2, .bool i2, .bool r2, .bool d2, .bool q2, .int .u32 (m2 : Int)] 31)
  clear hb H2
  have k0 := H4.out.b0.cell
  go_wp2_with fail
  refine (HE2.out _).mono ?_
  rintro e w5 ⟨rfl, hb⟩
  have H5 := Lib.hid (H4.out.up hb)
  clear hb H4 k0
  go_wp2_with fail
  go_ret
  exact ⟨rfl, H5.out.below⟩

set_option maxRecDepth 100000 in
set_option maxHeartbeats 8000000 in
theorem hback_no_bad (s : Hel) (x : ByteArray) (w : World) (hw : s.wide) (hx : (x.size : Int) ≤ 500) (hr : s.right = false) (hd : (hdec x).2 ≠ 0) :
    Calls Try.prog 5 #[helV s, .string x] w (Yes w) := by
  have he := fun w => hencode_no s w hw.2.2.2.2 hr
  have hdx := fun w => hdecode_any x w
  rw [hdec_zero x hd] at hdx
  generalize (hdec x).2 = v at *
  have hv : (v != 0) = true := bne_iff_ne.2 hd
  clear hd
  clear hw hr
  obtain ⟨n, c, b, o, p, i, r, d, q, m⟩ := s
  dsimp only [helV, Hel.zero] at *
  have HE := Lib.hid he; clear he
  have HDX := Lib.hid hdx; clear hdx
  have H0 := Lib.hid ((Held.refl w).lay [.int .i64 n, .int .u64 c, .int .u64 b, .int .u64 o, .int .u64 p, .bool i, .bool r, .bool d, .bool q, .int .u32 (m : Int)] 31)
  go_enter Try.func5, Try.ntmps5
  go_wp2_with fail
  refine (halive_any _).mono ?_
  rintro e w1 ⟨rfl, hb⟩
  have H1 := Lib.hid (H0.out.up hb)
  clear hb H0
  have k := H1.out.b0.cell
  go_wp2_with fail
  refine (HE.out _).mono ?_
  rintro e w2 ⟨rfl, hb⟩
  have H2 := Lib.hid (H1.out.up hb)
  clear hb H1 k
  go_wp2_with fail
  refine (HDX.out _).mono ?_
  rintro e w4 ⟨rfl, hb⟩
  have H4 := Lib.hid ((H2.out.up hb).lay [.int .i64 0, .int .u64 0, .int .u64 0, .int .u64 0, .int .u64 0, .bool false, .bool false, .bool false, .bool false, .int .u32 0] 31)
  clear hb H2
  have k0 := H4.out.b0.cell
  go_wp2_with fail
  go_ret
  exact ⟨rfl, H4.out.below⟩

set_option maxRecDepth 100000 in
set_option maxHeartbeats 8000000 in
theorem back_law (s : Hel) (t : ByteArray) (w : World) (hw : s.wide) : Calls Try.prog 5 #[helV s, .string t] w (Yes w) := by
  by_cases hs : 500 < (t.size : Int)
  · clear hw
    obtain ⟨n, c, b, o, p, i, r, d, q, m⟩ := s
    dsimp only [helV]
    have H0 := Lib.hid ((Held.refl w).lay [.int .i64 n, .int .u64 c, .int .u64 b, .int .u64 o, .int .u64 p, .bool i, .bool r, .bool d, .bool q, .int .u32 (m : Int)] 31)
    go_enter Try.func5, Try.ntmps5
    go_wp2_with fail
    refine (halive_any _).mono ?_
    rintro e w1 ⟨rfl, hb⟩
    have H1 := Lib.hid (H0.out.up hb)
    clear hb H0
    go_wp2_with fail
    go_ret
    exact ⟨rfl, H1.out.below⟩
  · cases hr : s.right
    · by_cases hd : (hdec t).2 = 0
      · exact hback_no_good s t w hw (by omega) hr hd
      · exact hback_no_bad s t w hw (by omega) hr hd
    · by_cases hd : (hdec t).2 = 0
      · exact hback_yes_good s t w hw (by omega) hr hd
      · exact hback_yes_bad s t w hw (by omega) hr hd

end Go.Proofs.Ytlhedleciiogcaa
