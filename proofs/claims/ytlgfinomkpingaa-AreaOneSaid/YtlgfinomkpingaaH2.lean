/- The mask on a disk, layer 8: what both Notes and both Saves answer, over what the calls that they make answer. No other condition but that the lists lie in memory. -/
import Derived.Test.YtlgfinomkpingaaH1
namespace Go.Proofs.Ytlgfinomkpingaa
open Go.RowKit

/-! ### The code -/
set_option maxRecDepth 100000 in
set_option maxHeartbeats 4000000 in
theorem bnote_misfit (A B : Option Addr) (n m : Nat) (s : List ByteArray) (c : List Wr) (f : Int) (x : Bool) (k : Nat) (w : World) (hm : Mem w A n B m s c) (hl : (s.length : Int) ≤ 1000000) (hk : k < 4294967296) (hn : mrightB k ((s.length : Int) - 2) = false) :
    Calls Try.prog 59 #[.agg #[.slice A s.length n, .slice B c.length m, .int .i64 f, .bool x], .int .u32 (k : Nat)] w (GivesD s c f x 1 w) := by
  have hq := fun w => bright_any A B s.length n c.length m f x k w (by omega) hk
  rw [hn] at hq
  clear hn hk hl
  have HM := Lib.hid hm; clear hm
  have HQ := Lib.hid hq; clear hq
  have H0 := Lib.hid (((Held.refl w).lay [.slice A s.length n, .slice B c.length m, .int .i64 f, .bool x] 25).lay [.slice none 0 0, .slice none 0 0, .int .i64 0, .bool false] 25)
  go_enter Try.func59, Try.ntmps59
  have kd := H0.out.b1.cell
  go_wp2_with fail
  refine (HQ.out _).mono ?_
  rintro e w1 ⟨rfl, hb⟩
  have H1 := Lib.hid (H0.out.up hb)
  clear hb H0 kd
  have kd := H1.out.b1.cell
  have kr := H1.out.b0.cell
  have fr := H1.out.b0.frozen
  simp only [World.size_alloc] at kr fr
  go_wp2_with fail
  refine bodyPost_ret (v := .tuple #[.agg #[.slice A s.length n, .slice B c.length m, .int .i64 f, .bool x], .int .i64 1]) (by simp [results, Try.results59, go_sem, kr]) rfl ⟨A, B, n, m, rfl, ?_, ?_⟩
  · exact (HM.out.up H1.out.below).four (by simpa using H1.out.b0) _ _ _ _ _ _ _ _
  · exact ((H1.out.free (n := 4) (by simp; try omega) (by simp; try omega) rfl).set4 (b := w.heap.size + 1) ⟨4, by simp⟩ _ _ _ _).below


set_option maxRecDepth 100000 in
set_option maxHeartbeats 4000000 in
theorem bnote_goes (A B : Option Addr) (n m : Nat) (s : List ByteArray) (c : List Wr) (f : Int) (x : Bool) (k : Nat) (w : World) (hl : (s.length : Int) ≤ 1000000) (hk : k < 4294967296) (hn : mrightB k ((s.length : Int) - 2) = true) (t y : ByteArray) (hp : ∀ v, Calls Try.prog 83 #[.int .u32 (k : Nat)] v fun e v' => e = .returned (.string t) ∧ Below v.heap.size v v') (hs : ∀ v, Calls Try.prog 81 #[.string t] v fun e v' => e = .returned (.string y) ∧ Below v.heap.size v v') (s1 : List ByteArray) (c1 : List Wr) (f1 : Int) (x1 : Bool) (e1 : Int) (hw : ∀ v, Below w.heap.size w v → Calls Try.prog 30 #[.agg #[.slice A s.length n, .slice B c.length m, .int .i64 f, .bool x], .int .i64 1, .string y] v (GivesD s1 c1 f1 x1 e1 v)) :
    Calls Try.prog 59 #[.agg #[.slice A s.length n, .slice B c.length m, .int .i64 f, .bool x], .int .u32 (k : Nat)] w (GivesD s1 c1 f1 x1 e1 w) := by
  have hq := fun w => bright_any A B s.length n c.length m f x k w (by omega) hk
  rw [hn] at hq
  clear hn hk hl
  have HP := Lib.hid hp; clear hp
  have HS := Lib.hid hs; clear hs
  have HW := Lib.hid hw; clear hw
  have HQ := Lib.hid hq; clear hq
  have H0 := Lib.hid (((Held.refl w).lay [.slice A s.length n, .slice B c.length m, .int .i64 f, .bool x] 25).lay [.slice none 0 0, .slice none 0 0, .int .i64 0, .bool false] 25)
  go_enter Try.func59, Try.ntmps59
  have kd := H0.out.b1.cell
  go_wp2_with fail
  refine (HQ.out _).mono ?_
  rintro e w1 ⟨rfl, hb⟩
  have H1 := Lib.hid (H0.out.up hb)
  clear hb H0 kd
  go_wp2_with fail
  refine held_begin2 (by kernel_rfl) H1.out (fun v0 y0 => ?_)
  have Y0 := Lib.hid y0
  clear y0 H1
  refine wpAnyH_take (i := 0) (v := ?_) rfl (by kernel_rfl) (by kernel_rfl) (by kernel_rfl) (fun _ _ _ h => h) (Or.inl ⟨by rfl, ?_⟩) Y0.out.less ?_
  rotate_left
  · (intro v hSw; have k := hSw.b0.cell; go_simp; try with_reducible rfl)
  simp only [Act.put, List.setIfInBounds_toArray, List.set_cons_zero, List.set_cons_succ, List.getElem_toArray, List.getElem_cons_zero]
  refine wpAnyH_take (i := 1) (v := ?_) rfl (by kernel_rfl) (by kernel_rfl) (by kernel_rfl) (fun _ _ _ h => h) (Or.inl ⟨by rfl, ?_⟩) Y0.out.less ?_
  rotate_left
  · (intro v hSw; go_simp; try with_reducible rfl)
  simp only [Act.put, List.setIfInBounds_toArray, List.set_cons_zero, List.set_cons_succ, List.getElem_toArray, List.getElem_cons_zero, List.getElem_cons_succ]
  refine wpAnyH_ready (rs := [2]) (by kernel_rfl) (by simp) ?_
  refine AllReadyH.cons rfl (fun K hK => ?_) AllReadyH.nil
  go_simp
  refine (HP.out _).mono ?_
  rintro e v1 ⟨rfl, hb⟩
  go_wp2_with fail
  have Y1 := Lib.hid (Y0.out.up hb)
  refine hK.out _ _ Y1.out.less (fun _ => ?_)
  clear hK K Y0
  refine wpAnyH_ready (rs := [3]) (by kernel_rfl) (by simp) ?_
  refine AllReadyH.cons rfl (fun K hK => ?_) AllReadyH.nil
  go_simp
  refine (HS.out _).mono ?_
  rintro e v2 ⟨rfl, hb⟩
  go_wp2_with fail
  have Y2 := Lib.hid (Y1.out.up hb)
  refine hK.out _ _ Y2.out.less (fun _ => ?_)
  clear hK K Y1
  refine wpAnyH_ready (rs := [4]) (by kernel_rfl) (by simp) ?_
  refine AllReadyH.cons rfl (fun K hK => ?_) AllReadyH.nil
  go_simp
  refine (HW.out _ Y2.out.below).mono ?_
  rintro e v3 ⟨A1, B1, n1, m1, rfl, hm1, hb⟩
  go_wp2_with fail
  have Y3 := Lib.hid (Y2.out.up hb)
  refine hK.out _ _ Y3.out.less (fun _ => ?_)
  clear hK K Y2
  refine wpAnyH_take (i := 5) (v := ?_) rfl (by kernel_rfl) (by kernel_rfl) (by kernel_rfl) (fun _ _ _ h => h) (Or.inl ⟨by rfl, ?_⟩) Y3.out.less ?_
  rotate_left
  · (intro v hSw; go_simp; try with_reducible rfl)
  simp only [Act.put, List.setIfInBounds_toArray, List.set_cons_zero, List.set_cons_succ, List.getElem_toArray, List.getElem_cons_zero, List.getElem_cons_succ]
  refine wpAnyH_take (i := 6) (v := ?_) rfl (by kernel_rfl) (by kernel_rfl) (by kernel_rfl) (fun _ _ _ h => h) (Or.inl ⟨by rfl, ?_⟩) Y3.out.less ?_
  rotate_left
  · (intro v hSw; go_simp; try with_reducible rfl)
  simp only [Act.put, List.setIfInBounds_toArray, List.set_cons_zero, List.set_cons_succ, List.getElem_toArray, List.getElem_cons_zero, List.getElem_cons_succ]
  refine wpAnyH_ready (rs := [7]) (by kernel_rfl) (by simp) ?_
  refine AllReadyH.cons rfl (fun K hK => ?_) AllReadyH.nil
  have HM1 := Lib.hid hm1
  clear hm1
  have kr := Y3.out.b0.cell
  have fr := Y3.out.b0.frozen
  simp only [World.size_alloc] at kr fr
  go_simp
  have HF := Lib.hid ((Y3.out.free (n := 4) (by simp; try omega) (by simp; try omega) rfl).set4 (b := w.heap.size + 1) ⟨4, by simp⟩ (.slice A1 s1.length n1) (.slice B1 c1.length m1) (.int .i64 f1) (.bool x1)).done
  refine hK.out _ _ HF.out (fun _ => ?_)
  clear hK K
  refine wpAnyH_take (i := 8) (v := ?_) rfl (by kernel_rfl) (by kernel_rfl) (by kernel_rfl) (fun _ _ _ h => h) (Or.inl ⟨by rfl, ?_⟩) HF.out ?_
  rotate_left
  · (intro v hSw; go_simp; try with_reducible rfl)
  simp only [Act.put, List.setIfInBounds_toArray, List.set_cons_zero, List.set_cons_succ, List.getElem_toArray, List.getElem_cons_zero, List.getElem_cons_succ]
  refine wpAnyH_done (by kernel_rfl) ?_ _
  go_wp2_with fail
  refine bodyPost_ret (v := .tuple #[.agg #[.slice A1 s1.length n1, .slice B1 c1.length m1, .int .i64 f1, .bool x1], .int .i64 e1]) (by simp [results, Try.results59, go_sem, kr]) rfl ⟨A1, B1, n1, m1, rfl, ?_, ?_⟩
  · exact HM1.out.four (by simpa using Y3.out.b0) _ _ _ _ _ _ _ _
  · exact HF.out.below


set_option maxRecDepth 100000 in
set_option maxHeartbeats 4000000 in
theorem bsave_stops (A B : Option Addr) (n m : Nat) (s : List ByteArray) (c : List Wr) (f : Int) (x : Bool) (k : Nat) (w : World) (s1 : List ByteArray) (c1 : List Wr) (f1 : Int) (x1 : Bool) (e1 : Int) (hn : ∀ v, Below w.heap.size w v → Calls Try.prog 59 #[.agg #[.slice A s.length n, .slice B c.length m, .int .i64 f, .bool x], .int .u32 (k : Nat)] v (GivesD s1 c1 f1 x1 e1 v)) (h1 : e1 ≠ 0) :
    Calls Try.prog 38 #[.agg #[.slice A s.length n, .slice B c.length m, .int .i64 f, .bool x], .int .u32 (k : Nat)] w (GivesD s1 c1 f1 x1 e1 w) := by
  have hnb : ((e1 : Int) != 0) = true := by simp [bne, beq_eq_false_iff_ne.2 h1]
  have hne : ((e1 : Int) == 0) = false := beq_eq_false_iff_ne.2 h1
  clear h1
  have HN := Lib.hid hn; clear hn
  have H0 := Lib.hid (((Held.refl w).own [.slice A s.length n, .slice B c.length m, .int .i64 f, .bool x] 25 (n := 4) rfl).own [.slice none 0 0, .slice none 0 0, .int .i64 0, .bool false] 25 (n := 4) rfl)
  have BD := Lib.hid ((Box.new w [.slice A s.length n, .slice B c.length m, .int .i64 f, .bool x] 25).alloc (.cells #[.slice none 0 0, .slice none 0 0, .int .i64 0, .bool false] 25))
  have BR := Lib.hid (Box.new (w.alloc (.cells #[.slice A s.length n, .slice B c.length m, .int .i64 f, .bool x] 25)) [.slice none 0 0, .slice none 0 0, .int .i64 0, .bool false] 25)
  go_enter Try.func38, Try.ntmps38
  have kd := BD.out.cell
  have fd := BD.out.frozen
  go_wp2_with fail
  clear kd fd
  refine (HN.out _ H0.out.below).mono ?_
  rintro e w1 ⟨A1, B1, n1, m1, rfl, hm1, hb⟩
  have H1 := Lib.hid (H0.out.up hb)
  have BD1 := Lib.hid (BD.out.below hb)
  have BR1 := Lib.hid (BR.out.below hb)
  have HM1 := Lib.hid hm1
  clear hb hm1 H0 BD BR
  have kd := BD1.out.cell
  have fd := BD1.out.frozen
  have kr := BR1.out.cell
  have fr := BR1.out.frozen
  simp only [World.size_alloc] at kr fr
  go_wp2_with fail
  refine bodyPost_ret (v := .tuple #[.agg #[.slice A1 s1.length n1, .slice B1 c1.length m1, .int .i64 f1, .bool x1], .int .i64 e1]) (by simp [results, Try.results38, go_sem, kr]) rfl ⟨A1, B1, n1, m1, rfl, ?_, ?_⟩
  · exact (HM1.out.four BD1.out _ _ _ _ _ _ _ _).four (by simpa using BR1.out.past4 (b := w.heap.size) (by simp; try omega) (.slice A1 s1.length n1) (.slice B1 c1.length m1) (.int .i64 f1) (.bool x1)) _ _ _ _ _ _ _ _
  · exact ((H1.out.set4 (b := w.heap.size) ⟨4, by simp⟩ _ _ _ _).set4 (b := w.heap.size + 1) ⟨4, by simp⟩ _ _ _ _).below


set_option maxRecDepth 100000 in
set_option maxHeartbeats 4000000 in
theorem bsave_goes (A B : Option Addr) (n m : Nat) (s : List ByteArray) (c : List Wr) (f : Int) (x : Bool) (k : Nat) (w : World) (s1 : List ByteArray) (c1 : List Wr) (f1 : Int) (x1 : Bool) (hn : ∀ v, Below w.heap.size w v → Calls Try.prog 59 #[.agg #[.slice A s.length n, .slice B c.length m, .int .i64 f, .bool x], .int .u32 (k : Nat)] v (GivesD s1 c1 f1 x1 0 v)) (s2 : List ByteArray) (c2 : List Wr) (f2 : Int) (x2 : Bool) (e3 : Int) (hg : ∀ (A1 B1 : Option Addr) (n1 m1 : Nat) (v : World), Mem v A1 n1 B1 m1 s1 c1 → Calls Try.prog 31 #[.agg #[.slice A1 s1.length n1, .slice B1 c1.length m1, .int .i64 f1, .bool x1]] v (GivesD s2 c2 f2 x2 e3 v)) :
    Calls Try.prog 38 #[.agg #[.slice A s.length n, .slice B c.length m, .int .i64 f, .bool x], .int .u32 (k : Nat)] w (GivesD s2 c2 f2 x2 e3 w) := by
  have HN := Lib.hid hn; clear hn
  have HG := Lib.hid hg; clear hg
  have H0 := Lib.hid (((Held.refl w).own [.slice A s.length n, .slice B c.length m, .int .i64 f, .bool x] 25 (n := 4) rfl).own [.slice none 0 0, .slice none 0 0, .int .i64 0, .bool false] 25 (n := 4) rfl)
  have BD := Lib.hid ((Box.new w [.slice A s.length n, .slice B c.length m, .int .i64 f, .bool x] 25).alloc (.cells #[.slice none 0 0, .slice none 0 0, .int .i64 0, .bool false] 25))
  have BR := Lib.hid (Box.new (w.alloc (.cells #[.slice A s.length n, .slice B c.length m, .int .i64 f, .bool x] 25)) [.slice none 0 0, .slice none 0 0, .int .i64 0, .bool false] 25)
  go_enter Try.func38, Try.ntmps38
  have kd := BD.out.cell
  have fd := BD.out.frozen
  go_wp2_with fail
  clear kd fd
  refine (HN.out _ H0.out.below).mono ?_
  rintro e w1 ⟨A1, B1, n1, m1, rfl, hm1, hb⟩
  have H1 := Lib.hid (H0.out.up hb)
  have BD1 := Lib.hid (BD.out.below hb)
  have BR1 := Lib.hid (BR.out.below hb)
  have HM1 := Lib.hid hm1
  clear hb hm1 H0 BD BR
  have kd := BD1.out.cell
  have fd := BD1.out.frozen
  have kr := BR1.out.cell
  have fr := BR1.out.frozen
  simp only [World.size_alloc] at kr fr
  go_wp2_with fail
  clear kd fd kr fr
  have H2 := Lib.hid (H1.out.set4 (b := w.heap.size) ⟨4, by simp⟩ (.slice A1 s1.length n1) (.slice B1 c1.length m1) (.int .i64 f1) (.bool x1))
  have HM2 := Lib.hid (HM1.out.four BD1.out A1 B1 s1.length n1 c1.length m1 f1 x1)
  have BR2 := Lib.hid (BR1.out.past4 (b := w.heap.size) (by simp; try omega) (.slice A1 s1.length n1) (.slice B1 c1.length m1) (.int .i64 f1) (.bool x1))
  clear H1 HM1 BD1 BR1
  refine (HG.out A1 B1 n1 m1 _ HM2.out).mono ?_
  rintro e w5 ⟨A2, B2, n2, m2, rfl, hm5, hb⟩
  have H5 := Lib.hid (H2.out.up hb)
  have BR5 := Lib.hid (BR2.out.below hb)
  have HM5 := Lib.hid hm5
  clear hb hm5 H2 BR2 HM2
  have kr := BR5.out.cell
  have fr := BR5.out.frozen
  simp only [World.size_alloc] at kr fr
  go_wp2_with fail
  refine bodyPost_ret (v := .tuple #[.agg #[.slice A2 s2.length n2, .slice B2 c2.length m2, .int .i64 f2, .bool x2], .int .i64 e3]) (by simp [results, Try.results38, go_sem, kr]) rfl ⟨A2, B2, n2, m2, rfl, ?_, ?_⟩
  · exact HM5.out.four (by simpa using BR5.out) _ _ _ _ _ _ _ _
  · exact (H5.out.set4 (b := w.heap.size + 1) ⟨4, by simp⟩ _ _ _ _).below


end Go.Proofs.Ytlgfinomkpingaa
