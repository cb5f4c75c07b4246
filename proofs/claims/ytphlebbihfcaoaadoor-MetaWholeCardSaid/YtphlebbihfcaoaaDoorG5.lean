/- The superblock on a disk, layer 7: the walk of MetaLoads: it answers true, for every disk and every superblock. Under: both package variables as they are laid. -/
import Derived.Test.YtphlebbihfcaoaaDoorG4
import Derived.Test.YtphlebbihfcaoaaDoorD5
namespace Go.Proofs.YtphlebbihfcaoaaDoor
open Go.RowKit

/-- It answers true, and leaves what was there as it was. -/
def Yes (w : World) (e : Ending) (w' : World) : Prop := e = .returned (.bool true) ∧ Below w.heap.size w w'

theorem Held.again {W0 w : World} {L : List (Nat × List Value)} {M : List (Nat × Nat)} (h : Held W0 L M w) : Held w L [] w := ⟨Below.refl _ _, h.boxs, by simp, by simp, by simp⟩
theorem Held.b5 {W0 w : World} {L : List (Nat × List Value)} {M : List (Nat × Nat)} {x0 x1 x2 x3 x4 x5 : Nat × List Value} (h : Held W0 (x0 :: x1 :: x2 :: x3 :: x4 :: x5 :: L) M w) : Box w x5.1 x5.2 := h.boxs.tl.tl.tl.tl.tl.hd

theorem misfit_small {n : Nat} {c : List Wr} (h : c.any (misfitW n) = false) : ∀ x ∈ c, x.2.size ≤ 64 := fun x hx => (fits h x hx).2.2
theorem long_small {s : List ByteArray} (h : s.any longS = false) : ∀ t ∈ s, t.size ≤ 64 := by
  intro t ht
  have := List.any_eq_false.1 h t ht
  unfold longS at this
  simp at this
  omega
theorem holds_small {c : List Wr} {i : Int} {t : ByteArray} (hc : ∀ x ∈ c, x.2.size ≤ 64) (ht : t.size ≤ 64) : (holdsL c i t).size ≤ 64 := by
  rcases holds_one c i t with h | ⟨x, hx, _, h⟩
  · rw [h]; exact ht
  · rw [← h]; exact hc x hx
theorem commit_len (s : List ByteArray) (c : List Wr) (f : Int) (x : Bool) (b : Sup) : (commitD s c f x b).s.length = s.length ∧ (commitD s c f x b).c.length ≤ c.length + 1 := by
  unfold commitD
  split
  · split
    · exact ⟨rfl, by simp⟩
    · split
      · exact ⟨rfl, by simp⟩
      · split
        · exact ⟨rfl, by simp⟩
        · exact ⟨lay_length _ _, by simp⟩
  · exact ⟨rfl, by simp⟩

set_option maxRecDepth 100000 in
set_option maxHeartbeats 8000000 in
theorem loads_great (A B : Option Addr) (n m : Nat) (s : List ByteArray) (c : List Wr) (f : Int) (x : Bool) (b : Sup) (a : Addr) (w : World) (hm : Mem w A n B m s c) (hg : Glob w a) (hG : greatB s c = true) :
    Calls Tryd.prog 3 #[.agg #[.slice A s.length n, .slice B c.length m, .int .i64 f, .bool x], supV b] w (Yes w) := by
  obtain ⟨bn, bc, bb, bo, bp, bi, br, bd⟩ := b
  dsimp only [supV] at *
  have hgr := fun w (h : Mem w A n B m s c) => great_any A B n m s c f x w h.es h.ws
  rw [hG] at hgr
  have HGR := Lib.hid hgr; clear hgr hG
  have HM := Lib.hid hm; clear hm
  have HG := Lib.hid hg; clear hg
  have H0 := Lib.hid (((Held.refl w).lay [.slice A s.length n, .slice B c.length m, .int .i64 f, .bool x] 25).lay [.int .i64 bn, .int .u64 bc, .int .u64 bb, .int .u64 bo, .int .u64 bp, .bool bi, .bool br, .bool bd] 31)
  go_enter Tryd.func3, Tryd.ntmps3
  go_wp2_with fail
  refine (alive_any a _ (HG.out.up H0.out.below)).mono ?_
  rintro e w1 ⟨rfl, hb⟩
  have H1 := Lib.hid (H0.out.up hb)
  clear hb H0
  have kd := H1.out.b1.cell
  go_wp2_with fail
  refine (HGR.out _ (HM.out.up H1.out.below)).mono ?_
  rintro e w2 ⟨rfl, hb⟩
  have H2 := Lib.hid (H1.out.up hb)
  clear hb H1 kd
  go_wp2_with fail
  go_ret
  exact ⟨rfl, H2.out.below⟩

set_option maxRecDepth 100000 in
set_option maxHeartbeats 8000000 in
theorem loads_wrong (A B : Option Addr) (n m : Nat) (s : List ByteArray) (c : List Wr) (f : Int) (x : Bool) (b : Sup) (a : Addr) (w : World) (hm : Mem w A n B m s c) (hg : Glob w a) (hG : greatB s c = false) (hR : rightB s c f = false) :
    Calls Tryd.prog 3 #[.agg #[.slice A s.length n, .slice B c.length m, .int .i64 f, .bool x], supV b] w (Yes w) := by
  obtain ⟨bn, bc, bb, bo, bp, bi, br, bd⟩ := b
  dsimp only [supV] at *
  obtain ⟨g1, g2⟩ := great_small hG
  have hgr := fun w (h : Mem w A n B m s c) => great_any A B n m s c f x w h.es h.ws
  rw [hG] at hgr
  have HGR := Lib.hid hgr; clear hgr hG
  have hri := fun w (h : Mem w A n B m s c) => rright_any A B n m s c f x w h.es h.ws (by unfold maxLen; omega)
  rw [hR] at hri
  have HRI := Lib.hid hri; clear hri hR
  have HM := Lib.hid hm; clear hm
  have HG := Lib.hid hg; clear hg
  have H0 := Lib.hid (((Held.refl w).lay [.slice A s.length n, .slice B c.length m, .int .i64 f, .bool x] 25).lay [.int .i64 bn, .int .u64 bc, .int .u64 bb, .int .u64 bo, .int .u64 bp, .bool bi, .bool br, .bool bd] 31)
  go_enter Tryd.func3, Tryd.ntmps3
  go_wp2_with fail
  refine (alive_any a _ (HG.out.up H0.out.below)).mono ?_
  rintro e w1 ⟨rfl, hb⟩
  have H1 := Lib.hid (H0.out.up hb)
  clear hb H0
  have kd := H1.out.b1.cell
  go_wp2_with fail
  refine (HGR.out _ (HM.out.up H1.out.below)).mono ?_
  rintro e w2 ⟨rfl, hb⟩
  have H2 := Lib.hid (H1.out.up hb)
  clear hb H1 kd
  have kd := H2.out.b1.cell
  go_wp2_with fail
  refine (HRI.out _ (HM.out.up H2.out.below)).mono ?_
  rintro e w3 ⟨rfl, hb⟩
  have H3 := Lib.hid (H2.out.up hb)
  clear hb H2 kd
  go_wp2_with fail
  go_ret
  exact ⟨rfl, H3.out.below⟩

set_option maxRecDepth 100000 in
set_option maxHeartbeats 8000000 in
theorem loads_right (A B : Option Addr) (n m : Nat) (s : List ByteArray) (c : List Wr) (f : Int) (x : Bool) (b : Sup) (a : Addr) (w : World) (hm : Mem w A n B m s c) (hg : Glob w a) (hw : b.wide) (hf : f < 9223372036854775808) (hG : greatB s c = false) (hR : rightB s c f = true) :
    Calls Tryd.prog 3 #[.agg #[.slice A s.length n, .slice B c.length m, .int .i64 f, .bool x], supV b] w (Yes w) := by
  obtain ⟨g1, g2⟩ := great_small hG
  obtain ⟨q1, q2, _, q4, q5⟩ := right_of hR
  obtain ⟨t, hi⟩ : ∃ t, s[0]? = some t := ⟨s[0], List.getElem?_eq_getElem (by omega)⟩
  have hz : ((holdsL c 0 t).size : Int) ≤ 3000 := by
    have := holds_small (i := 0) (misfit_small q5) (long_small q4 t (List.mem_of_getElem? hi))
    omega
  have hl1 := fun w hm hg => load_any A B n m s c f x t a w hm hi q2 (by omega) hz hg
  have hl2 := fun w hm => rload_any A B n m s c f x t w hm hi q2 (by omega) hz
  have hc1 := fun w hm => commit_any A B n m s c f x b w hm hw q1 q2 (by omega) hf q5
  have hc2 := fun w hm => rcommit_any A B n m s c f x b w hm hw q1 q2 (by omega) hf q5
  obtain ⟨e1, e2⟩ := commit_len s c f x b
  have hfi := fun w => fits_any A B s.length n c.length m f x b w (by omega)
  have hfr := fun w => rfits_any A B s.length n c.length m f x b w (by omega)
  generalize ((s.length : Int) - 2 == b.n) = q at *
  generalize commitD s c f x b = R at *
  obtain ⟨s2, c2, f2, x2, ce⟩ := R
  generalize loadD s c x t = R at *
  obtain ⟨⟨rn, rc, rb, ro, rp, ri, rr, rd⟩, re⟩ := R
  dsimp only at *
  have hsm : ∀ (A1 B1 A2 B2 : Option Addr) (n1 m1 n2 m2 : Nat) w, Mem w A1 n1 B1 m1 s2 c2 → Mem w A2 n2 B2 m2 s2 c2 → Calls Tryd.prog 12 #[.agg #[.slice A1 s2.length n1, .slice B1 c2.length m1, .int .i64 f2, .bool x2], .agg #[.slice A2 s2.length n2, .slice B2 c2.length m2, .int .i64 f2, .bool x2]] w fun e w' => e = .returned (.bool true) ∧ Below w.heap.size w w' := by
    intro A1 B1 A2 B2 n1 m1 n2 m2 w h1 h2
    have := rsame_any A1 B1 A2 B2 n1 m1 n2 m2 s2 s2 c2 c2 f2 f2 x2 x2 w h1.es h1.ws h2.es h2.ws (by unfold maxLen; omega) (by unfold maxLen; omega)
    rw [same_is rfl rfl rfl rfl] at this
    exact this
  have hgr := fun w (h : Mem w A n B m s c) => great_any A B n m s c f x w h.es h.ws
  rw [hG] at hgr
  have HGR := Lib.hid hgr; clear hgr hG
  have hri := fun w (h : Mem w A n B m s c) => rright_any A B n m s c f x w h.es h.ws (by unfold maxLen; omega)
  rw [hR] at hri
  have HRI := Lib.hid hri; clear hri hR
  clear hw hi hz q1 q2 q4 q5 e1 e2 g1 g2 hf
  obtain ⟨bn, bc, bb, bo, bp, bi, br, bd⟩ := b
  dsimp only [supV] at *
  have HL1 := Lib.hid hl1; clear hl1
  have HL2 := Lib.hid hl2; clear hl2
  have HC1 := Lib.hid hc1; clear hc1
  have HC2 := Lib.hid hc2; clear hc2
  have HFI := Lib.hid hfi; clear hfi
  have HFR := Lib.hid hfr; clear hfr
  have HSM := Lib.hid hsm; clear hsm
  have HM := Lib.hid hm; clear hm
  have HG := Lib.hid hg; clear hg
  have H0 := Lib.hid (((Held.refl w).lay [.slice A s.length n, .slice B c.length m, .int .i64 f, .bool x] 25).lay [.int .i64 bn, .int .u64 bc, .int .u64 bb, .int .u64 bo, .int .u64 bp, .bool bi, .bool br, .bool bd] 31)
  go_enter Tryd.func3, Tryd.ntmps3
  go_wp2_with fail
  refine (alive_any a _ (HG.out.up H0.out.below)).mono ?_
  rintro e w1 ⟨rfl, hb⟩
  have H1 := Lib.hid (H0.out.up hb)
  clear hb H0
  have kd := H1.out.b1.cell
  go_wp2_with fail
  refine (HGR.out _ (HM.out.up H1.out.below)).mono ?_
  rintro e w2 ⟨rfl, hb⟩
  have H2 := Lib.hid (H1.out.up hb)
  clear hb H1 kd
  have kd := H2.out.b1.cell
  go_wp2_with fail
  refine (HRI.out _ (HM.out.up H2.out.below)).mono ?_
  rintro e w3 ⟨rfl, hb⟩
  have H3 := Lib.hid (H2.out.up hb)
  clear hb H2 kd
  have kd := H3.out.b1.cell
  go_wp2_with fail
  refine (HL1.out _ (HM.out.up H3.out.below) (HG.out.up H3.out.below)).mono ?_
  rintro e w4 ⟨rfl, hb⟩
  have H4 := Lib.hid ((H3.out.up hb).lay [.int .i64 rn, .int .u64 rc, .int .u64 rb, .int .u64 ro, .int .u64 rp, .bool ri, .bool rr, .bool rd] 31)
  clear hb H3 kd
  have kd := H4.out.b2.cell
  go_wp2_with fail
  refine (HL2.out _ (HM.out.up H4.out.below)).mono ?_
  rintro e w5 ⟨rfl, hb⟩
  have H5 := Lib.hid ((H4.out.up hb).lay [.int .i64 rn, .int .u64 rc, .int .u64 rb, .int .u64 ro, .int .u64 rp, .bool ri, .bool rr, .bool rd] 31)
  clear hb H4 kd
  have kd := H5.out.b3.cell
  have ks := H5.out.b2.cell
  simp only [World.size_alloc] at ks
  go_wp2_with fail
  refine (HC1.out _ (HM.out.up H5.out.below)).mono ?_
  rintro e w6 ⟨A1, B1, n1, m1, rfl, hm1, hb⟩
  have H6 := Lib.hid ((H5.out.up hb).lay [.slice A1 s2.length n1, .slice B1 c2.length m1, .int .i64 f2, .bool x2] 25)
  have MX6 := Lib.hid (hm1.up (below1 (o := .cells #[.slice A1 s2.length n1, .slice B1 c2.length m1, .int .i64 f2, .bool x2] 25)))
  clear hb H5 kd ks hm1
  have kd := H6.out.b4.cell
  have ks := H6.out.b3.cell
  simp only [World.size_alloc] at ks
  go_wp2_with fail
  refine (HC2.out _ (HM.out.up H6.out.below)).mono ?_
  rintro e w7 ⟨A2, B2, n2, m2, rfl, hm2, hb⟩
  have H7 := Lib.hid ((H6.out.up hb).lay [.slice A2 s2.length n2, .slice B2 c2.length m2, .int .i64 f2, .bool x2] 25)
  have MX := Lib.hid ((MX6.out.up hb).up (below1 (o := .cells #[.slice A2 s2.length n2, .slice B2 c2.length m2, .int .i64 f2, .bool x2] 25)))
  have MY := Lib.hid (hm2.up (below1 (o := .cells #[.slice A2 s2.length n2, .slice B2 c2.length m2, .int .i64 f2, .bool x2] 25)))
  have HSM := Lib.hid (HSM.out A1 B1 A2 B2 n1 m1 n2 m2)
  clear hb H6 kd ks hm2 MX6
  have hz := H7.out.again
  simp only [World.size_alloc] at hz
  have HZ := Lib.hid hz
  clear hz
  go_wp2_with fail
  refine held_begin (by kernel_rfl) HZ.out (fun v0 hH0 => ?_)
  refine wpAnyH_take (i := 0) (v := ?_) rfl (by kernel_rfl) (by kernel_rfl) (by kernel_rfl) (fun _ _ _ h => h) (Or.inl ⟨by rfl, ?_⟩) hH0 ?_
  rotate_left
  · (intro v hSw; have k := hSw.b3.cell; go_simp; try with_reducible rfl)
  simp only [Act.put, List.setIfInBounds_toArray, List.set_cons_zero, List.set_cons_succ, List.getElem_toArray, List.getElem_cons_zero]
  refine wpAnyH_take (i := 1) (v := ?_) rfl (by kernel_rfl) (by kernel_rfl) (by kernel_rfl) (fun _ _ _ h => h) (Or.inl ⟨by rfl, ?_⟩) hH0 ?_
  rotate_left
  · (intro v hSw; have k := hSw.b2.cell; go_simp; try with_reducible rfl)
  simp only [Act.put, List.setIfInBounds_toArray, List.set_cons_zero, List.set_cons_succ, List.getElem_toArray, List.getElem_cons_zero, List.getElem_cons_succ]
  refine wpAnyH_take (i := 2) (v := ?_) rfl (by kernel_rfl) (by kernel_rfl) (by kernel_rfl) (fun _ _ _ h => h) (Or.inl ⟨by rfl, ?_⟩) hH0 ?_
  rotate_left
  · (intro v hSw; go_simp; try with_reducible rfl)
  simp only [Act.put, List.setIfInBounds_toArray, List.set_cons_zero, List.set_cons_succ, List.getElem_toArray, List.getElem_cons_zero, List.getElem_cons_succ]
  refine wpAnyH_take (i := 3) (v := ?_) rfl (by kernel_rfl) (by kernel_rfl) (by kernel_rfl) (fun _ _ _ h => h) (Or.inl ⟨by rfl, ?_⟩) hH0 ?_
  rotate_left
  · (intro v hSw; go_simp; try with_reducible rfl)
  simp only [Act.put, List.setIfInBounds_toArray, List.set_cons_zero, List.set_cons_succ, List.getElem_toArray, List.getElem_cons_zero, List.getElem_cons_succ]
  refine wpAnyH_take (i := 4) (v := ?_) rfl (by kernel_rfl) (by kernel_rfl) (by kernel_rfl) (fun _ _ _ h => h) (Or.inl ⟨by rfl, ?_⟩) hH0 ?_
  rotate_left
  · (intro v hSw; go_simp; try with_reducible rfl)
  simp only [Act.put, List.setIfInBounds_toArray, List.set_cons_zero, List.set_cons_succ, List.getElem_toArray, List.getElem_cons_zero, List.getElem_cons_succ]
  refine wpAnyH_take (i := 5) (v := ?_) rfl (by kernel_rfl) (by kernel_rfl) (by kernel_rfl) (fun _ _ _ h => h) (Or.inl ⟨by rfl, ?_⟩) hH0 ?_
  rotate_left
  · (intro v hSw; go_simp; try with_reducible rfl)
  simp only [Act.put, List.setIfInBounds_toArray, List.set_cons_zero, List.set_cons_succ, List.getElem_toArray, List.getElem_cons_zero, List.getElem_cons_succ]
  refine wpAnyH_take (i := 6) (v := ?_) rfl (by kernel_rfl) (by kernel_rfl) (by kernel_rfl) (fun _ _ _ h => h) (Or.inl ⟨by rfl, ?_⟩) hH0 ?_
  rotate_left
  · (intro v hSw; go_simp; try with_reducible rfl)
  simp only [Act.put, List.setIfInBounds_toArray, List.set_cons_zero, List.set_cons_succ, List.getElem_toArray, List.getElem_cons_zero, List.getElem_cons_succ]
  refine wpAnyH_take (i := 7) (v := ?_) rfl (by kernel_rfl) (by kernel_rfl) (by kernel_rfl) (fun _ _ _ h => h) (Or.inl ⟨by rfl, ?_⟩) hH0 ?_
  rotate_left
  · (intro v hSw; go_simp; try with_reducible rfl)
  simp only [Act.put, List.setIfInBounds_toArray, List.set_cons_zero, List.set_cons_succ, List.getElem_toArray, List.getElem_cons_zero, List.getElem_cons_succ]
  refine wpAnyH_take (i := 8) (v := ?_) rfl (by kernel_rfl) (by kernel_rfl) (by kernel_rfl) (fun _ _ _ h => h) (Or.inl ⟨by rfl, ?_⟩) hH0 ?_
  rotate_left
  · (intro v hSw; go_simp; try with_reducible rfl)
  simp only [Act.put, List.setIfInBounds_toArray, List.set_cons_zero, List.set_cons_succ, List.getElem_toArray, List.getElem_cons_zero, List.getElem_cons_succ]
  refine wpAnyH_take (i := 9) (v := ?_) rfl (by kernel_rfl) (by kernel_rfl) (by kernel_rfl) (fun _ _ _ h => h) (Or.inl ⟨by rfl, ?_⟩) hH0 ?_
  rotate_left
  · (intro v hSw; have k := hSw.b1.cell; go_simp; try with_reducible rfl)
  simp only [Act.put, List.setIfInBounds_toArray, List.set_cons_zero, List.set_cons_succ, List.getElem_toArray, List.getElem_cons_zero, List.getElem_cons_succ]
  refine wpAnyH_take (i := 10) (v := ?_) rfl (by kernel_rfl) (by kernel_rfl) (by kernel_rfl) (fun _ _ _ h => h) (Or.inl ⟨by rfl, ?_⟩) hH0 ?_
  rotate_left
  · (intro v hSw; have k := hSw.b0.cell; go_simp; try with_reducible rfl)
  simp only [Act.put, List.setIfInBounds_toArray, List.set_cons_zero, List.set_cons_succ, List.getElem_toArray, List.getElem_cons_zero, List.getElem_cons_succ]
  refine wpAnyH_ready (rs := [11]) (by kernel_rfl) (by simp) ?_
  refine AllReadyH.cons rfl (fun K hK => ?_) AllReadyH.nil
  go_simp
  refine (HSM.out _ (MX.out.up hH0.below) (MY.out.up hH0.below)).mono ?_
  rintro e v1 ⟨rfl, hb⟩
  go_wp2_with fail
  refine hK.out _ _ (hH0.up hb) (fun hH1 => ?_)
  clear hK K hH0
  refine wpAnyH_take (i := 12) (v := ?_) rfl (by kernel_rfl) (by kernel_rfl) (by kernel_rfl) (fun _ _ _ h => h) (Or.inl ⟨by rfl, ?_⟩) hH1 ?_
  rotate_left
  · (intro v hSw; go_simp; try with_reducible rfl)
  simp only [Act.put, List.setIfInBounds_toArray, List.set_cons_zero, List.set_cons_succ, List.getElem_toArray, List.getElem_cons_zero, List.getElem_cons_succ]
  refine wpAnyH_take (i := 13) (v := ?_) rfl (by kernel_rfl) (by kernel_rfl) (by kernel_rfl) (fun _ _ _ h => h) (Or.inl ⟨by rfl, ?_⟩) hH1 ?_
  rotate_left
  · (intro v hSw; go_simp; try with_reducible rfl)
  simp only [Act.put, List.setIfInBounds_toArray, List.set_cons_zero, List.set_cons_succ, List.getElem_toArray, List.getElem_cons_zero, List.getElem_cons_succ]
  refine wpAnyH_take (i := 14) (v := ?_) rfl (by kernel_rfl) (by kernel_rfl) (by kernel_rfl) (fun _ _ _ h => h) (Or.inl ⟨by rfl, ?_⟩) hH1 ?_
  rotate_left
  · (intro v hSw; go_simp; try with_reducible rfl)
  simp only [Act.put, List.setIfInBounds_toArray, List.set_cons_zero, List.set_cons_succ, List.getElem_toArray, List.getElem_cons_zero, List.getElem_cons_succ]
  refine wpAnyH_take (i := 15) (v := ?_) rfl (by kernel_rfl) (by kernel_rfl) (by kernel_rfl) (fun _ _ _ h => h) (Or.inl ⟨by rfl, ?_⟩) hH1 ?_
  rotate_left
  · (intro v hSw; go_simp; try with_reducible rfl)
  simp only [Act.put, List.setIfInBounds_toArray, List.set_cons_zero, List.set_cons_succ, List.getElem_toArray, List.getElem_cons_zero, List.getElem_cons_succ]
  refine wpAnyH_take (i := 16) (v := ?_) rfl (by kernel_rfl) (by kernel_rfl) (by kernel_rfl) (fun _ _ _ h => h) (Or.inl ⟨by rfl, ?_⟩) hH1 ?_
  rotate_left
  · (intro v hSw; go_simp; try with_reducible rfl)
  simp only [Act.put, List.setIfInBounds_toArray, List.set_cons_zero, List.set_cons_succ, List.getElem_toArray, List.getElem_cons_zero, List.getElem_cons_succ]
  refine wpAnyH_take (i := 17) (v := ?_) rfl (by kernel_rfl) (by kernel_rfl) (by kernel_rfl) (fun _ _ _ h => h) (Or.inl ⟨by rfl, ?_⟩) hH1 ?_
  rotate_left
  · (intro v hSw; go_simp; try with_reducible rfl)
  simp only [Act.put, List.setIfInBounds_toArray, List.set_cons_zero, List.set_cons_succ, List.getElem_toArray, List.getElem_cons_zero, List.getElem_cons_succ]
  refine wpAnyH_take (i := 18) (v := ?_) rfl (by kernel_rfl) (by kernel_rfl) (by kernel_rfl) (fun _ _ _ h => h) (Or.inl ⟨by rfl, ?_⟩) hH1 ?_
  rotate_left
  · (intro v hSw; go_simp; try with_reducible rfl)
  simp only [Act.put, List.setIfInBounds_toArray, List.set_cons_zero, List.set_cons_succ, List.getElem_toArray, List.getElem_cons_zero, List.getElem_cons_succ]
  refine wpAnyH_take (i := 19) (v := ?_) rfl (by kernel_rfl) (by kernel_rfl) (by kernel_rfl) (fun _ _ _ h => h) (Or.inl ⟨by rfl, ?_⟩) hH1 ?_
  rotate_left
  · (intro v hSw; have k := hSw.b5.cell; go_simp; try with_reducible rfl)
  simp only [Act.put, List.setIfInBounds_toArray, List.set_cons_zero, List.set_cons_succ, List.getElem_toArray, List.getElem_cons_zero, List.getElem_cons_succ]
  refine wpAnyH_take (i := 20) (v := ?_) rfl (by kernel_rfl) (by kernel_rfl) (by kernel_rfl) (fun _ _ _ h => h) (Or.inl ⟨by rfl, ?_⟩) hH1 ?_
  rotate_left
  · (intro v hSw; have k := hSw.b4.cell; go_simp; try with_reducible rfl)
  simp only [Act.put, List.setIfInBounds_toArray, List.set_cons_zero, List.set_cons_succ, List.getElem_toArray, List.getElem_cons_zero, List.getElem_cons_succ]
  refine wpAnyH_take (i := 22) (v := ?_) rfl (by kernel_rfl) (by kernel_rfl) (by kernel_rfl) (fun _ _ _ h => h) (Or.inl ⟨by rfl, ?_⟩) hH1 ?_
  rotate_left
  · (intro v hSw; have k := hSw.b5.cell; go_simp; try with_reducible rfl)
  simp only [Act.put, List.setIfInBounds_toArray, List.set_cons_zero, List.set_cons_succ, List.getElem_toArray, List.getElem_cons_zero, List.getElem_cons_succ]
  refine wpAnyH_take (i := 23) (v := ?_) rfl (by kernel_rfl) (by kernel_rfl) (by kernel_rfl) (fun _ _ _ h => h) (Or.inl ⟨by rfl, ?_⟩) hH1 ?_
  rotate_left
  · (intro v hSw; have k := hSw.b4.cell; go_simp; try with_reducible rfl)
  simp only [Act.put, List.setIfInBounds_toArray, List.set_cons_zero, List.set_cons_succ, List.getElem_toArray, List.getElem_cons_zero, List.getElem_cons_succ]
  refine wpAnyH_ready (rs := [21]) (by kernel_rfl) (by simp) ?_
  refine AllReadyH.cons rfl (fun K hK => ?_) AllReadyH.nil
  go_simp
  refine (HFI.out _).mono ?_
  rintro e v2 ⟨rfl, hb⟩
  go_wp2_with fail
  refine hK.out _ _ (hH1.up hb) (fun hH2 => ?_)
  clear hK K hH1
  refine wpAnyH_ready (rs := [24]) (by kernel_rfl) (by simp) ?_
  refine AllReadyH.cons rfl (fun K hK => ?_) AllReadyH.nil
  go_simp
  refine (HFR.out _).mono ?_
  rintro e v3 ⟨rfl, hb⟩
  go_wp2_with fail
  refine hK.out _ _ (hH2.up hb) (fun hH3 => ?_)
  clear hK K hH2
  refine wpAnyH_take (i := 25) (v := ?_) rfl (by kernel_rfl) (by kernel_rfl) (by kernel_rfl) (fun _ _ _ h => h) (Or.inl ⟨by rfl, ?_⟩) hH3 ?_
  rotate_left
  · (intro v hSw; go_simp; try with_reducible rfl)
  simp only [Act.put, List.setIfInBounds_toArray, List.set_cons_zero, List.set_cons_succ, List.getElem_toArray, List.getElem_cons_zero, List.getElem_cons_succ]
  refine wpAnyH_take (i := 26) (v := ?_) rfl (by kernel_rfl) (by kernel_rfl) (by kernel_rfl) (fun _ _ _ h => h) (Or.inl ⟨by rfl, ?_⟩) hH3 ?_
  rotate_left
  · (intro v hSw; go_simp; try with_reducible rfl)
  simp only [Act.put, List.setIfInBounds_toArray, List.set_cons_zero, List.set_cons_succ, List.getElem_toArray, List.getElem_cons_zero, List.getElem_cons_succ]
  refine wpAnyH_take (i := 27) (v := ?_) rfl (by kernel_rfl) (by kernel_rfl) (by kernel_rfl) (fun _ _ _ h => h) (Or.inl ⟨by rfl, ?_⟩) hH3 ?_
  rotate_left
  · (intro v hSw; go_simp; try with_reducible rfl)
  simp only [Act.put, List.setIfInBounds_toArray, List.set_cons_zero, List.set_cons_succ, List.getElem_toArray, List.getElem_cons_zero, List.getElem_cons_succ]
  refine wpAnyH_done (by kernel_rfl) ?_ _
  go_wp2_with fail
  go_ret
  exact ⟨rfl, ext H7.out.below hH3.below⟩

theorem loads_law (A B : Option Addr) (n m : Nat) (s : List ByteArray) (c : List Wr) (f : Int) (x : Bool) (b : Sup) (a : Addr) (w : World) (hm : Mem w A n B m s c) (hg : Glob w a) (hw : b.wide) (hf : f < 9223372036854775808) :
    Calls Tryd.prog 3 #[.agg #[.slice A s.length n, .slice B c.length m, .int .i64 f, .bool x], supV b] w (Yes w) := by
  cases hG : greatB s c with
  | true => exact loads_great A B n m s c f x b a w hm hg hG
  | false =>
    cases hR : rightB s c f with
    | false => exact loads_wrong A B n m s c f x b a w hm hg hG hR
    | true => exact loads_right A B n m s c f x b a w hm hg hw hf hG hR
end Go.Proofs.YtphlebbihfcaoaaDoor
