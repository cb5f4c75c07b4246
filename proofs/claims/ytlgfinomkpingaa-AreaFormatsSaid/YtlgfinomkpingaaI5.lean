/- Blocks on a disk, layer 9: formatting one by the document, over what the calls that it makes answer. No other condition. -/
import Derived.Test.YtlgfinomkpingaaI1
import Derived.Test.YtlgfinomkpingaaS1
import Derived.Test.YtlgfinomkpingaaGB
import Derived.Deep.CutRange
namespace Go.Proofs.Ytlgfinomkpingaa
open Go.RowKit

/-- A disk of so many blocks: the superblock's bytes, the mask's, and the blocks. -/
def fmtL (b y : ByteArray) (k : Nat) : List ByteArray := b :: y :: List.replicate k z8
theorem fmt_length (b y : ByteArray) (k : Nat) : (fmtL b y k).length = k + 2 := by simp [fmtL]
theorem fmt_snoc (b y : ByteArray) (k : Nat) : (fmtL b y (k + 1)).map Value.string = (fmtL b y k).map Value.string ++ [.string z8] := by
  unfold fmtL
  rw [List.replicate_succ']
  simp

set_option maxRecDepth 100000 in
set_option maxHeartbeats 4000000 in
theorem rfmt_no (k g e1 : Int) (w : World) (y : ByteArray) (h1 : e1 ≠ 0) (hq : ∀ v, Calls Try.prog 40 #[supV ⟨k, g, 0, 0, 0, false, false, false⟩] v fun e v' => e = .returned (.tuple #[.string y, .int .i64 e1]) ∧ Below v.heap.size v v') :
    Calls Try.prog 18 #[.int .i64 k, .int .u64 g] w (GivesD [] [] 0 false e1 w) := by
  have hnb : ((e1 : Int) != 0) = true := by simp [bne, beq_eq_false_iff_ne.2 h1]
  have hne : ((e1 : Int) == 0) = false := beq_eq_false_iff_ne.2 h1
  clear h1
  have HQ := Lib.hid hq; clear hq
  have H0 := Lib.hid ((Held.refl w).own [.slice none 0 0, .slice none 0 0, .int .i64 0, .bool false] 25 (n := 4) rfl)
  have BR0 := Lib.hid (Box.new w [.slice none 0 0, .slice none 0 0, .int .i64 0, .bool false] 25)
  go_enter Try.func18, Try.ntmps18
  go_wp2_with fail
  refine (HQ.out _).mono ?_
  rintro e w1 ⟨rfl, hb⟩
  have H1 := Lib.hid (H0.out.up hb)
  have BR1 := Lib.hid (BR0.out.below hb)
  clear hb H0 BR0
  have kr := BR1.out.cell
  have fr := BR1.out.frozen
  go_wp2_with fail
  refine bodyPost_ret (v := .tuple #[.agg #[.slice none 0 0, .slice none 0 0, .int .i64 0, .bool false], .int .i64 e1]) (by simp [results, Try.results18, go_sem, kr]) rfl ⟨none, none, 0, 0, rfl, mem_nil _, ?_⟩
  exact (H1.out.set4 (b := w.heap.size) ⟨4, by simp⟩ _ _ _ _).below

set_option maxRecDepth 100000 in
set_option maxHeartbeats 8000000 in
theorem rfmt_go (N : Nat) (g : Int) (w : World) (hN : N ≤ 1000) (b t y : ByteArray)
    (hq : ∀ v, Calls Try.prog 40 #[supV ⟨(N : Nat), g, 0, 0, 0, false, false, false⟩] v fun e v' => e = .returned (.tuple #[.string b, .int .i64 0]) ∧ Below v.heap.size v v')
    (hp : ∀ v, Calls Try.prog 42 #[.int .u32 0] v fun e v' => e = .returned (.string t) ∧ Below v.heap.size v v')
    (hs : ∀ v, Calls Try.prog 41 #[.string t] v fun e v' => e = .returned (.string y) ∧ Below v.heap.size v v') :
    Calls Try.prog 18 #[.int .i64 (N : Nat), .int .u64 g] w (GivesD (fmtL b y N) [] 0 false 0 w) := by
  have HE := Lib.hid hq; clear hq
  have HP := Lib.hid hp; clear hp
  have HS := Lib.hid hs; clear hs
  have H0 := Lib.hid ((Held.refl w).own [.slice none 0 0, .slice none 0 0, .int .i64 0, .bool false] 25 (n := 4) rfl)
  have BR0 := Lib.hid (Box.new w [.slice none 0 0, .slice none 0 0, .int .i64 0, .bool false] 25)
  go_enter Try.func18, Try.ntmps18
  go_wp2_with fail
  refine (HE.out _).mono ?_
  rintro e w1 ⟨rfl, hb⟩
  have H1 := Lib.hid (H0.out.up hb)
  have BR1 := Lib.hid (BR0.out.below hb)
  clear hb H0 BR0 HE
  go_wp2_with fail
  refine (HP.out _).mono ?_
  rintro e w2 ⟨rfl, hb⟩
  have H2 := Lib.hid (H1.out.up hb)
  have BR2 := Lib.hid (BR1.out.below hb)
  clear hb H1 BR1 HP
  go_wp2_with fail
  refine (HS.out _).mono ?_
  rintro e w3 ⟨rfl, hb⟩
  have H3 := Lib.hid (H2.out.up hb)
  have BR3 := Lib.hid (BR2.out.below hb)
  clear hb H2 BR2 HS
  have HQ := Lib.hid BR3.out.lt
  obtain ⟨q, hq⟩ : ∃ q, w3.heap.size = q := ⟨_, rfl⟩
  rw [hq] at HQ
  have H4 := Lib.hid ((H3.out.alloc (.cells #[.string b, .string y] 9)).own [.slice (some ⟨w3.heap.size, 0, none⟩) 2 2, .slice none 0 0, .int .i64 0, .bool false] 25 (n := 4) rfl)
  have BD4 := Lib.hid (Box.new (w3.alloc (.cells #[.string b, .string y] 9)) [.slice (some ⟨w3.heap.size, 0, none⟩) 2 2, .slice none 0 0, .int .i64 0, .bool false] 25)
  have BR4 := Lib.hid ((BR3.out.alloc (.cells #[.string b, .string y] 9)).alloc (.cells #[.slice (some ⟨w3.heap.size, 0, none⟩) 2 2, .slice none 0 0, .int .i64 0, .bool false] 25))
  have HO4 := Lib.hid (own_up (own_two w3 b y) (below1 (o := .cells #[.slice (some ⟨w3.heap.size, 0, none⟩) 2 2, .slice none 0 0, .int .i64 0, .bool false] 25)))
  simp only [World.size_alloc, hq] at H4 BD4 BR4 HO4
  obtain ⟨p, hpq⟩ : ∃ p, q + 1 = p := ⟨_, rfl⟩
  rw [hpq] at H4 BD4
  clear H3 BR3
  go_wp2_with fail
  have HPQ := Lib.hid hpq
  clear hpq hq
  go_loopw [9] (fun j wr => ∃ (k : Nat) (A : Option Addr) (n : Nat), k ≤ N ∧ j = .int .i64 k ∧ Hid (wr.ownsRow q 9 1 (.slice A (k + 2) n) (k + 2) ((fmtL b y k).map Value.string)) ∧ Hid (Held w [] [(p, 4), (w.heap.size, 4)] wr) ∧ Hid (Box wr p [.slice A (k + 2) n, .slice none 0 0, .int .i64 0, .bool false]) ∧ Hid (Box wr w.heap.size [.slice none 0 0, .slice none 0 0, .int .i64 0, .bool false])) (fun j _ => N - (intOf j).toNat)
  case atStart => exact ⟨0, some ⟨q, 0, none⟩, 2, by omega, rfl, HO4.out, H4.out, BD4.out, BR4.out⟩
  case round =>
    obtain ⟨k, A, n, hk, rfl, HO1, H1, BD1, BR1⟩ := hrel
    clear HO4 H4 BD4 BR4
    by_cases hlt : k < N
    · go_upto_region 8 with fail
      refine held_start (S := fun v => Held w [] [(p, 4), (w.heap.size, 4)] v) (by kernel_rfl) H1.out.drew (fun v0 hv hH => ?_)
      have HO2 := Lib.hid (own_up HO1.out hv)
      have H2 := Lib.hid hH
      have BD2 := Lib.hid (BD1.out.below hv)
      have BR2 := Lib.hid (BR1.out.below hv)
      clear hv hH HO1 H1 BD1 BR1
      refine wpAnyH_take (i := 0) (v := ?_) rfl (by kernel_rfl) (by kernel_rfl) (by kernel_rfl) (fun _ _ _ h => h) (Or.inl ⟨by rfl, ?_⟩) H2.out ?_
      rotate_left
      · (intro v hSw; go_simp; try with_reducible rfl)
      simp only [Act.put, List.setIfInBounds_toArray, List.set_cons_zero, List.set_cons_succ, List.getElem_toArray, List.getElem_cons_zero]
      refine wpAnyH_ready (rs := [1, 2]) (by kernel_rfl) (by simp) ?_
      refine AllReadyH.cons rfl (fun K hK => ?_) (AllReadyH.cons rfl (fun K hK => ?_) AllReadyH.nil)
      · skip
        have kx := BD2.out.cell
        go_simp
        refine hK.out _ _ H2.out (fun _ => ?_)
        clear hK K
        clear kx
        try simp only [Act.put, List.setIfInBounds_toArray, List.set_cons_zero, List.set_cons_succ, List.getElem_toArray, List.getElem_cons_zero, List.getElem_cons_succ]
        refine wpAnyH_ready (rs := [2]) (by kernel_rfl) (by simp) ?_
        refine AllReadyH.cons rfl (fun K hK => ?_) AllReadyH.nil
        go_simp
        refine (nought_any _).mono ?_
        rintro e v1 ⟨rfl, hb⟩
        have HO3 := Lib.hid (own_up HO2.out hb)
        have H3 := Lib.hid (H2.out.up hb)
        have BD3 := Lib.hid (BD2.out.below hb)
        have BR3 := Lib.hid (BR2.out.below hb)
        go_wp2_with fail
        refine hK.out _ _ H3.out (fun _ => ?_)
        clear hK K hb
        try simp only [Act.put, List.setIfInBounds_toArray, List.set_cons_zero, List.set_cons_succ, List.getElem_toArray, List.getElem_cons_zero, List.getElem_cons_succ]
        refine wpAnyH_ready (rs := [3]) (by kernel_rfl) (by simp) ?_
        refine AllReadyH.cons rfl (fun K hK => ?_) AllReadyH.nil
        go_simp
        have HO4 := Lib.hid (own_up HO3.out (below1 (o := .cells #[.string z8] 9)))
        have H4 := Lib.hid (H3.out.alloc (.cells #[.string z8] 9))
        have BD4 := Lib.hid (BD3.out.alloc (.cells #[.string z8] 9))
        have BR4 := Lib.hid (BR3.out.alloc (.cells #[.string z8] 9))
        clear H3 BD3 BR3 HO3
        refine hK.out _ _ H4.out (fun _ => ?_)
        clear hK K
        try simp only [Act.put, List.setIfInBounds_toArray, List.set_cons_zero, List.set_cons_succ, List.getElem_toArray, List.getElem_cons_zero, List.getElem_cons_succ]
        refine wpAnyH_ready (rs := [4]) (by kernel_rfl) (by simp) ?_
        refine AllReadyH.cons rfl (fun K hK => ?_) AllReadyH.nil
        refine Eq.mpr (if_pos (by rfl)) ?_
        obtain ⟨i0, hi, hz0, hz1, hz2⟩ := info_parts info9
        refine wp_append_own _ (Operand.tmp 33) (Operand.tmp 35) 22 rfl q 9 i0 (.string ⟨#[]⟩) 1 16 Try.underlying22 hi hz0 hz1 hz2 rfl (by decide) _ (k + 2) ((fmtL b y k).map Value.string) rfl HO4.out ⟨v1.heap.size, 0, none⟩ 1 1 [.string z8] rfl rfl (cell_new1 v1 _ _) (fun u hu => by simp at hu; subst hu; rfl) (by unfold maxLen; omega) (by omega) (by have := HQ.out; have := HPQ.out; have := BR4.out.lt; have := BD4.out.lt; omega) (fun v' w' hown hgrow _ => ?_)
        clear hi hz0 hz1 hz2
        have hap := own_apart (xs := (y :: List.replicate k z8).map Value.string) HO4.out BD4.out
        have hlow := own_low HO4.out
        have H5 := Lib.hid (H4.out.grown hgrow (fun g e => by have := hlow g e; have := HQ.out; have := HPQ.out; omega) (by simp) (fun z hz e => by
          rcases List.mem_cons.1 hz with rfl | hz
          · exact hap _ e rfl
          · simp at hz
            subst hz
            have := hlow _ e
            have := HQ.out; have := HPQ.out
            try dsimp only at this
            omega))
        have BD5 := Lib.hid (BD4.out.grown hgrow (fun e => hap _ e rfl))
        have BR5 := Lib.hid (BR4.out.grown hgrow (fun e => by have := hlow _ e; have := HQ.out; have := HPQ.out; omega))
        have hown2 : w'.ownsRow q 9 1 v' (k + 1 + 2) ((fmtL b y (k + 1)).map Value.string) := by
          rw [fmt_snoc]
          exact hown
        obtain ⟨A5, n5, rfl, _, _⟩ := own_slice hown2
        have HO5 := Lib.hid hown2
        clear hown2 hown hgrow hap hlow H4 BD4 BR4 HO4
        refine hK.out _ _ H5.out (fun _ => ?_)
        clear hK K
        try simp only [Act.put, List.setIfInBounds_toArray, List.set_cons_zero, List.set_cons_succ, List.getElem_toArray, List.getElem_cons_zero, List.getElem_cons_succ]
        refine wpAnyH_take (i := 5) (v := ?_) rfl (by kernel_rfl) (by kernel_rfl) (by kernel_rfl) (fun _ _ _ h => h) (Or.inl ⟨by rfl, ?_⟩) H5.out ?_
        rotate_left
        · (intro v hSw; go_simp; try with_reducible rfl)
        simp only [Act.put, List.setIfInBounds_toArray, List.set_cons_zero, List.set_cons_succ, List.getElem_toArray, List.getElem_cons_zero, List.getElem_cons_succ]
        refine wpAnyH_ready (rs := [6]) (by kernel_rfl) (by simp) ?_
        refine AllReadyH.cons rfl (fun K hK => ?_) AllReadyH.nil
        have kx := BD5.out.cell
        have fx := BD5.out.frozen
        go_simp
        refine hK.out _ _ (H5.out.set1 (b := p) ⟨4, by simp⟩ _) (fun _ => ?_)
        clear hK K kx fx
        refine wpAnyH_done (by kernel_rfl) ?_ _
        have hap := own_apart (xs := (y :: List.replicate (k + 1) z8).map Value.string) HO5.out BD5.out
        have HA := Lib.hid hap
        clear hap
        go_wp2
        go_roundw
        case rel => exact ⟨k + 1, A5, n5, by omega, by go_num, own_set_other HO5.out HA.out _ _, H5.out.set1 (b := p) ⟨4, by simp⟩ _, BD5.out.set 0 _, BR5.out.other (p := ⟨p, 0, none⟩) (by have := HQ.out; have := HPQ.out; dsimp only; omega) _⟩
        case measure => simp [intOf]; omega
      · skip
        go_simp
        refine (nought_any _).mono ?_
        rintro e v1 ⟨rfl, hb⟩
        have HO3 := Lib.hid (own_up HO2.out hb)
        have H3 := Lib.hid (H2.out.up hb)
        have BD3 := Lib.hid (BD2.out.below hb)
        have BR3 := Lib.hid (BR2.out.below hb)
        go_wp2_with fail
        refine hK.out _ _ H3.out (fun _ => ?_)
        clear hK K hb
        try simp only [Act.put, List.setIfInBounds_toArray, List.set_cons_zero, List.set_cons_succ, List.getElem_toArray, List.getElem_cons_zero, List.getElem_cons_succ]
        refine wpAnyH_ready (rs := [1, 3]) (by kernel_rfl) (by simp) ?_
        refine AllReadyH.cons rfl (fun K hK => ?_) (AllReadyH.cons rfl (fun K hK => ?_) AllReadyH.nil)
        · skip
          have kx := BD3.out.cell
          go_simp
          refine hK.out _ _ H3.out (fun _ => ?_)
          clear hK K
          clear kx
          try simp only [Act.put, List.setIfInBounds_toArray, List.set_cons_zero, List.set_cons_succ, List.getElem_toArray, List.getElem_cons_zero, List.getElem_cons_succ]
          refine wpAnyH_ready (rs := [3]) (by kernel_rfl) (by simp) ?_
          refine AllReadyH.cons rfl (fun K hK => ?_) AllReadyH.nil
          go_simp
          have HO4 := Lib.hid (own_up HO3.out (below1 (o := .cells #[.string z8] 9)))
          have H4 := Lib.hid (H3.out.alloc (.cells #[.string z8] 9))
          have BD4 := Lib.hid (BD3.out.alloc (.cells #[.string z8] 9))
          have BR4 := Lib.hid (BR3.out.alloc (.cells #[.string z8] 9))
          clear H3 BD3 BR3 HO3
          refine hK.out _ _ H4.out (fun _ => ?_)
          clear hK K
          try simp only [Act.put, List.setIfInBounds_toArray, List.set_cons_zero, List.set_cons_succ, List.getElem_toArray, List.getElem_cons_zero, List.getElem_cons_succ]
          refine wpAnyH_ready (rs := [4]) (by kernel_rfl) (by simp) ?_
          refine AllReadyH.cons rfl (fun K hK => ?_) AllReadyH.nil
          refine Eq.mpr (if_pos (by rfl)) ?_
          obtain ⟨i0, hi, hz0, hz1, hz2⟩ := info_parts info9
          refine wp_append_own _ (Operand.tmp 33) (Operand.tmp 35) 22 rfl q 9 i0 (.string ⟨#[]⟩) 1 16 Try.underlying22 hi hz0 hz1 hz2 rfl (by decide) _ (k + 2) ((fmtL b y k).map Value.string) rfl HO4.out ⟨v1.heap.size, 0, none⟩ 1 1 [.string z8] rfl rfl (cell_new1 v1 _ _) (fun u hu => by simp at hu; subst hu; rfl) (by unfold maxLen; omega) (by omega) (by have := HQ.out; have := HPQ.out; have := BR4.out.lt; have := BD4.out.lt; omega) (fun v' w' hown hgrow _ => ?_)
          clear hi hz0 hz1 hz2
          have hap := own_apart (xs := (y :: List.replicate k z8).map Value.string) HO4.out BD4.out
          have hlow := own_low HO4.out
          have H5 := Lib.hid (H4.out.grown hgrow (fun g e => by have := hlow g e; have := HQ.out; have := HPQ.out; omega) (by simp) (fun z hz e => by
            rcases List.mem_cons.1 hz with rfl | hz
            · exact hap _ e rfl
            · simp at hz
              subst hz
              have := hlow _ e
              have := HQ.out; have := HPQ.out
              try dsimp only at this
              omega))
          have BD5 := Lib.hid (BD4.out.grown hgrow (fun e => hap _ e rfl))
          have BR5 := Lib.hid (BR4.out.grown hgrow (fun e => by have := hlow _ e; have := HQ.out; have := HPQ.out; omega))
          have hown2 : w'.ownsRow q 9 1 v' (k + 1 + 2) ((fmtL b y (k + 1)).map Value.string) := by
            rw [fmt_snoc]
            exact hown
          obtain ⟨A5, n5, rfl, _, _⟩ := own_slice hown2
          have HO5 := Lib.hid hown2
          clear hown2 hown hgrow hap hlow H4 BD4 BR4 HO4
          refine hK.out _ _ H5.out (fun _ => ?_)
          clear hK K
          try simp only [Act.put, List.setIfInBounds_toArray, List.set_cons_zero, List.set_cons_succ, List.getElem_toArray, List.getElem_cons_zero, List.getElem_cons_succ]
          refine wpAnyH_take (i := 5) (v := ?_) rfl (by kernel_rfl) (by kernel_rfl) (by kernel_rfl) (fun _ _ _ h => h) (Or.inl ⟨by rfl, ?_⟩) H5.out ?_
          rotate_left
          · (intro v hSw; go_simp; try with_reducible rfl)
          simp only [Act.put, List.setIfInBounds_toArray, List.set_cons_zero, List.set_cons_succ, List.getElem_toArray, List.getElem_cons_zero, List.getElem_cons_succ]
          refine wpAnyH_ready (rs := [6]) (by kernel_rfl) (by simp) ?_
          refine AllReadyH.cons rfl (fun K hK => ?_) AllReadyH.nil
          have kx := BD5.out.cell
          have fx := BD5.out.frozen
          go_simp
          refine hK.out _ _ (H5.out.set1 (b := p) ⟨4, by simp⟩ _) (fun _ => ?_)
          clear hK K kx fx
          refine wpAnyH_done (by kernel_rfl) ?_ _
          have hap := own_apart (xs := (y :: List.replicate (k + 1) z8).map Value.string) HO5.out BD5.out
          have HA := Lib.hid hap
          clear hap
          go_wp2
          go_roundw
          case rel => exact ⟨k + 1, A5, n5, by omega, by go_num, own_set_other HO5.out HA.out _ _, H5.out.set1 (b := p) ⟨4, by simp⟩ _, BD5.out.set 0 _, BR5.out.other (p := ⟨p, 0, none⟩) (by have := HQ.out; have := HPQ.out; dsimp only; omega) _⟩
          case measure => simp [intOf]; omega
        · skip
          go_simp
          have HO4 := Lib.hid (own_up HO3.out (below1 (o := .cells #[.string z8] 9)))
          have H4 := Lib.hid (H3.out.alloc (.cells #[.string z8] 9))
          have BD4 := Lib.hid (BD3.out.alloc (.cells #[.string z8] 9))
          have BR4 := Lib.hid (BR3.out.alloc (.cells #[.string z8] 9))
          clear H3 BD3 BR3 HO3
          refine hK.out _ _ H4.out (fun _ => ?_)
          clear hK K
          try simp only [Act.put, List.setIfInBounds_toArray, List.set_cons_zero, List.set_cons_succ, List.getElem_toArray, List.getElem_cons_zero, List.getElem_cons_succ]
          refine wpAnyH_ready (rs := [1]) (by kernel_rfl) (by simp) ?_
          refine AllReadyH.cons rfl (fun K hK => ?_) AllReadyH.nil
          have kx := BD4.out.cell
          go_simp
          refine hK.out _ _ H4.out (fun _ => ?_)
          clear hK K
          clear kx
          try simp only [Act.put, List.setIfInBounds_toArray, List.set_cons_zero, List.set_cons_succ, List.getElem_toArray, List.getElem_cons_zero, List.getElem_cons_succ]
          refine wpAnyH_ready (rs := [4]) (by kernel_rfl) (by simp) ?_
          refine AllReadyH.cons rfl (fun K hK => ?_) AllReadyH.nil
          refine Eq.mpr (if_pos (by rfl)) ?_
          obtain ⟨i0, hi, hz0, hz1, hz2⟩ := info_parts info9
          refine wp_append_own _ (Operand.tmp 33) (Operand.tmp 35) 22 rfl q 9 i0 (.string ⟨#[]⟩) 1 16 Try.underlying22 hi hz0 hz1 hz2 rfl (by decide) _ (k + 2) ((fmtL b y k).map Value.string) rfl HO4.out ⟨v1.heap.size, 0, none⟩ 1 1 [.string z8] rfl rfl (cell_new1 v1 _ _) (fun u hu => by simp at hu; subst hu; rfl) (by unfold maxLen; omega) (by omega) (by have := HQ.out; have := HPQ.out; have := BR4.out.lt; have := BD4.out.lt; omega) (fun v' w' hown hgrow _ => ?_)
          clear hi hz0 hz1 hz2
          have hap := own_apart (xs := (y :: List.replicate k z8).map Value.string) HO4.out BD4.out
          have hlow := own_low HO4.out
          have H5 := Lib.hid (H4.out.grown hgrow (fun g e => by have := hlow g e; have := HQ.out; have := HPQ.out; omega) (by simp) (fun z hz e => by
            rcases List.mem_cons.1 hz with rfl | hz
            · exact hap _ e rfl
            · simp at hz
              subst hz
              have := hlow _ e
              have := HQ.out; have := HPQ.out
              try dsimp only at this
              omega))
          have BD5 := Lib.hid (BD4.out.grown hgrow (fun e => hap _ e rfl))
          have BR5 := Lib.hid (BR4.out.grown hgrow (fun e => by have := hlow _ e; have := HQ.out; have := HPQ.out; omega))
          have hown2 : w'.ownsRow q 9 1 v' (k + 1 + 2) ((fmtL b y (k + 1)).map Value.string) := by
            rw [fmt_snoc]
            exact hown
          obtain ⟨A5, n5, rfl, _, _⟩ := own_slice hown2
          have HO5 := Lib.hid hown2
          clear hown2 hown hgrow hap hlow H4 BD4 BR4 HO4
          refine hK.out _ _ H5.out (fun _ => ?_)
          clear hK K
          try simp only [Act.put, List.setIfInBounds_toArray, List.set_cons_zero, List.set_cons_succ, List.getElem_toArray, List.getElem_cons_zero, List.getElem_cons_succ]
          refine wpAnyH_take (i := 5) (v := ?_) rfl (by kernel_rfl) (by kernel_rfl) (by kernel_rfl) (fun _ _ _ h => h) (Or.inl ⟨by rfl, ?_⟩) H5.out ?_
          rotate_left
          · (intro v hSw; go_simp; try with_reducible rfl)
          simp only [Act.put, List.setIfInBounds_toArray, List.set_cons_zero, List.set_cons_succ, List.getElem_toArray, List.getElem_cons_zero, List.getElem_cons_succ]
          refine wpAnyH_ready (rs := [6]) (by kernel_rfl) (by simp) ?_
          refine AllReadyH.cons rfl (fun K hK => ?_) AllReadyH.nil
          have kx := BD5.out.cell
          have fx := BD5.out.frozen
          go_simp
          refine hK.out _ _ (H5.out.set1 (b := p) ⟨4, by simp⟩ _) (fun _ => ?_)
          clear hK K kx fx
          refine wpAnyH_done (by kernel_rfl) ?_ _
          have hap := own_apart (xs := (y :: List.replicate (k + 1) z8).map Value.string) HO5.out BD5.out
          have HA := Lib.hid hap
          clear hap
          go_wp2
          go_roundw
          case rel => exact ⟨k + 1, A5, n5, by omega, by go_num, own_set_other HO5.out HA.out _ _, H5.out.set1 (b := p) ⟨4, by simp⟩ _, BD5.out.set 0 _, BR5.out.other (p := ⟨p, 0, none⟩) (by have := HQ.out; have := HPQ.out; dsimp only; omega) _⟩
          case measure => simp [intOf]; omega
    · obtain rfl : k = N := by omega
      have kd := BD1.out.cell
      have kr := BR1.out.cell
      have fr := BR1.out.frozen
      go_wp2_with fail
      have hap := own_apart (xs := (y :: List.replicate k z8).map Value.string) HO1.out BD1.out
      have hok := HO1.out
      rw [← fmt_length b y k] at hok
      have hown := own_set_other4 hok (p := w.heap.size) (fun g e => by have := own_low hok g e; have := HQ.out; have := HPQ.out; omega) (.slice A (k + 2) n) (.slice none 0 0) (.int .i64 0) (.bool false)
      obtain ⟨hA2, hes⟩ := own_es2 hown
      refine bodyPost_ret (v := .tuple #[.agg #[.slice A (k + 2) n, .slice none 0 0, .int .i64 0, .bool false], .int .i64 0]) (by simp [results, Try.results18, go_sem, kr]) rfl ⟨A, none, n, 0, by rw [fmt_length]; rfl, ⟨hes, ws_nil _ _ _, hA2, fun _ => rfl⟩, ?_⟩
      exact (H1.out.set4 (b := w.heap.size) ⟨4, by simp⟩ _ _ _ _).below
end Go.Proofs.Ytlgfinomkpingaa
