/- A row of commits, layer 7: the walk of MetaWhole: it answers true, for every row of superblocks, every fuse and every row of keeps. Under: both package variables as they are laid. -/
import Derived.Test.YtphlebbihfcaoaaDoorG7
import Derived.Deep.CutRange
import Derived.Deep.LoopGhost
namespace Go.Proofs.YtphlebbihfcaoaaDoor
open Go.RowKit

theorem sup_ext {R b : Sup} (h1 : R.n = b.n) (h2 : R.c = b.c) (h3 : R.b = b.b) (h4 : R.o = b.o) (h5 : R.p = b.p) (h6 : R.i = b.i) (h7 : R.r = b.r) (h8 : R.d = b.d) : R = b := by
  obtain ⟨n, c, b', o, p, i, r, d⟩ := R
  obtain ⟨n2, c2, b2, o2, p2, i2, r2, d2⟩ := b
  dsimp only at *
  subst h1; subst h2; subst h3; subst h4; subst h5; subst h6; subst h7; subst h8
  rfl

theorem cell_new8 (w : World) (vs : List Value) (t : TypeId) : ∀ (j : Nat) (u : Value), vs[j]? = some u → (w.alloc (.cells vs.toArray t)).cell? ((⟨w.heap.size, 0, none⟩ : Addr).add j) = some u := by
  intro j u hj
  have : (⟨w.heap.size, 0, none⟩ : Addr).add j = ⟨w.heap.size, j, none⟩ := by unfold Addr.add; split <;> simp_all
  rw [this, (Box.new w vs t).cell, hj]

theorem held_start {P : Program} {ops : Array Oper} {Q : Exit → Act → World → Prop} {S : World → Prop} {w : World} {id : Nat} {a : Act} (hm : P.follows .mixedOrders = true) (hS : S w.drew)
    (H : ∀ v, Below w.heap.size w v → S v → wpAnyH P .any ops Q S ops.size (Array.replicate ops.size false) a v) : (Code.region id ops true).wp P Q a w :=
  wp_region_held_drew hm hS (fun h => H _ (Below.refl _ _).drew h)

theorem commit_bad {S : List ByteArray} {b : Sup} (F : Int) (h : ((((S.length : Int) - 2 == b.n)) && b.right) = false) : commitD S [] F false b = ⟨S, [], F, false, 1⟩ := by
  unfold commitD
  rw [h, if_neg (by simp)]

theorem right_start (k : Nat) (h : k ≤ 62) : rightB (List.replicate k e0 ++ [e0, e0]) [] 0 = true := by
  refine right_b6 (by simp; omega) (by simp; omega) (by decide) ?_ rfl
  rw [List.any_append, List.any_replicate]
  cases k <;> rfl

set_option maxRecDepth 100000 in
set_option maxHeartbeats 8000000 in
theorem whole_good (LA K : Option Addr) (lc kc : Nat) (l : List Sup) (fz : Int) (keeps : List Bool) (a : Addr) (w : World) (hl : Ss w w.heap.size LA l) (hw : ∀ s ∈ l, s.wide) (hf : 0 ≤ fz ∧ fz < 256) (hk : Es Value.bool w w.heap.size K keeps) (hg : Glob w a)
    (h0 : 0 < (l.length : Int)) (h10 : (l.length : Int) ≤ 10) (h50 : (keeps.length : Int) ≤ 50) (b0 : Sup) (hb0 : l[0]? = some b0) (k0 : Nat) (hk0 : b0.n = (k0 : Int)) (h1 : 1 ≤ k0) (h62 : k0 ≤ 62) :
    Calls Tryd.prog 4 #[.slice LA l.length lc, .int .u8 fz, .slice K keeps.length kc] w (Yes w) := by
  have hlz : ((l.length : Int) == 0) = false := beq_eq_false_iff_ne.2 (by omega)
  obtain ⟨la, rfl, hla, _⟩ := hl 0 b0 hb0
  have HL := Lib.hid hl; clear hl
  have HW := Lib.hid hw; clear hw
  have HK := Lib.hid hk; clear hk
  have HG := Lib.hid hg; clear hg
  have HF := Lib.hid hf; clear hf
  have HLA := Lib.hid hla; clear hla
  go_enter Tryd.func4, Tryd.ntmps4
  go_wp2_with fail
  refine (alive_any a _ HG.out).mono ?_
  rintro e w1 ⟨rfl, hb⟩
  have H1 := Lib.hid hb
  clear hb
  obtain ⟨la', e1, _, hc⟩ := HL.out.up H1.out 0 b0 hb0
  injection e1 with e1
  subst e1
  have c0 : w1.cell? la = some (.int .i64 b0.n) := hc.c0
  rw [hk0] at c0
  clear hc
  go_wp2_with fail
  refine (rnew_own k0 h1 (by omega) _).mono ?_
  rintro e w2 ⟨rfl, ho, hb⟩
  have H2 := Lib.hid (ext_alloc (ext H1.out hb) (.cells #[.slice (some ⟨w1.heap.size + 1, 0, none⟩) k0 k0, .slice none 0 0, .int .i64 0, .bool false] 25))
  have X2 := Lib.hid (Box.new w2 [.slice (some ⟨w1.heap.size + 1, 0, none⟩) k0 k0, .slice none 0 0, .int .i64 0, .bool false] 25)
  have O2 := Lib.hid (own_up ho (below1 (o := .cells #[.slice (some ⟨w1.heap.size + 1, 0, none⟩) k0 k0, .slice none 0 0, .int .i64 0, .bool false] 25)))
  have HLT := Lib.hid ((own_block_lt ho (w1.heap.size + 1) rfl).2)
  have hbd := hb.size
  have HBD := Lib.hid (show w.heap.size ≤ w2.heap.size from by have := H1.out.size; omega)
  have kx := X2.out.cell
  have fx := X2.out.frozen
  clear hb ho c0 hbd
  have hS : (List.replicate k0 e0 ++ [e0, e0]).length = k0 + 2 := by simp
  have HR := Lib.hid (right_start k0 h62)
  have HGOOD := Lib.hid (good_start k0 h1)
  go_wp2_with (at_builtin; refine app_strs rfl _ _ rfl _ w1.heap.size ?c1 _ (List.replicate k0 e0) rfl ?c2 (some ⟨w2.heap.size + 1, 0, none⟩) 2 [e0, e0] ?c3 rfl ?c4 ?c5 ?_)
  case c1 => have := HLT.out; simp; omega
  case c2 => exact own_up O2.out below1
  case c3 => intro q; cases q
  case c4 => have := es_new2 Value.string w2 (.cells #[.slice (some ⟨w1.heap.size + 1, 0, none⟩) k0 k0, .slice none 0 0, .int .i64 0, .bool false] 25) [e0, e0] 9; simpa using this
  case c5 => simp; omega
  intro v' w4 hown hgrow
  replace hown : w4.ownsRow w1.heap.size 9 1 v' (List.replicate k0 e0 ++ [e0, e0]).length ((List.replicate k0 e0 ++ [e0, e0]).map Value.string) := by simpa using hown
  have x4 := (X2.out.alloc (.cells #[.string e0, .string e0] 9)).grown hgrow (by have := HLT.out; simp [Value.ownBlock]; omega)
  have h4 := (H2.out.alloc H2.out.size (.cells #[.string e0, .string e0] 9)).grown hgrow (by have := H2.out.size; simp; simp at this; omega) (by have := H1.out.size; simp [Value.ownBlock]; omega)
  generalize List.replicate k0 e0 ++ [e0, e0] = S0 at *
  obtain ⟨A1, cap1, rfl, hA1, he1⟩ := own_es hown
  have HS := Lib.hid hS
  clear hS
  have m4 : Mem w4 A1 cap1 none 0 S0 [] := ⟨he1, ws_nil _ _ _, hA1, fun _ => rfl⟩
  have M5 := Lib.hid (m4.set x4 (noText_four _ _ _ _ _ _ _ _) 0 (.slice A1 S0.length cap1))
  have X5 := Lib.hid (x4.set 0 (.slice A1 S0.length cap1))
  have H5 := Lib.hid (h4.setCell (p := ⟨w2.heap.size, 0, none⟩) HBD.out (.slice A1 S0.length cap1))
  clear kx fx
  have kx := x4.cell
  have fx := x4.frozen
  clear x4 h4 m4 he1 hown hgrow X2 H2 O2
  have hri := fun w' (h : Mem w' A1 cap1 none 0 S0 []) => rright_any A1 none cap1 0 S0 [] 0 false w' h.es h.ws (by simp)
  rw [HR.out] at hri
  have HRI := Lib.hid hri
  clear hri
  go_wp2_with fail
  refine (HRI.out _ M5.out).mono ?_
  rintro e w6 ⟨rfl, hb⟩
  have M6 := Lib.hid (M5.out.up hb)
  have X6 : Hid (Box w6 w2.heap.size [.slice A1 S0.length cap1, .slice none 0 0, .int .i64 0, .bool false]) := Lib.hid (X5.out.below hb)
  have H6 := Lib.hid (ext H5.out hb)
  clear hb M5 X5 H5 kx fx HRI HR hA1
  generalize w2.heap.size = bd at *
  go_wp2_with fail
  go_loopg [9, 10] l.length (fun g wa i wr => ∃ (k : Nat) (p : List Sup) (S : List ByteArray) (A B : Option Addr) (n m : Nat), g = l.length - k ∧ k ≤ l.length ∧ i = .int .i64 k ∧ Hid (p.length ≤ k) ∧ Hid (wr.ownsRow (bd + 1) 31 8 wa p.length (rowS p)) ∧
    Hid (Box wr bd [.slice A S.length n, .slice B 0 m, .int .i64 0, .bool false]) ∧ Hid (Mem wr A n B m S []) ∧ Hid (Good (k0 + 2) p S) ∧ Hid (Below w.heap.size w wr))
  case atStart => exact ⟨0, [], S0, A1, none, cap1, 0, rfl, by omega, rfl, Nat.le_refl _, World.ownsRow_nil _ _ _ _, X6.out, M6.out, HGOOD.out, H6.out⟩
  case round =>
    obtain ⟨k, p, S, A, B, n, m, rfl, hk, rfl, HPK, HO, HX, HM, HGD, HBr⟩ := hrel
    clear X6 M6 HGOOD H6 HS
    by_cases hlt : k < l.length
    · have hels : ∀ v, Below w.heap.size w v → SupAt v (la.add (k * 8)) l[k] := by
        intro v hv
        obtain ⟨la', e1, _, hc⟩ := HL.out.below hv (Nat.le_refl _) k l[k] (List.getElem?_eq_getElem hlt)
        injection e1 with e1
        subst e1
        exact hc
      have hbw := HW.out l[k] (List.getElem_mem hlt)
      generalize l[k] = b at *
      have HE := Lib.hid hels
      clear hels
      have HBW := Lib.hid hbw
      clear hbw
      have hki : (k : Int) < (l.length : Int) := by omega
      have hSl := HGD.out.1
      have hS1 : 1 ≤ S.length := by omega
      have hS64 : S.length ≤ 64 := by omega
      have HSL := Lib.hid hSl
      have HS1 := Lib.hid hS1
      have HS64 := Lib.hid hS64
      clear hSl hS1 hS64
      have kx := HX.out.cell
      have ky := (HX.out.alloc (.cells #[.slice A S.length n, .slice B 0 m, .int .i64 0, .bool false] 25)).cell
      by_cases hlast : k + 1 = l.length
      · have hlb : ((k : Int) == (l.length : Int) - 1) = true := by rw [beq_iff_eq]; omega
        have hF0 : wrap64 (fz.tmod 4) < 9223372036854775808 := by unfold wrap64; omega
        have harm := fun v => rarm_any A B S.length n 0 m 0 (wrap64 (fz.tmod 4)) false v
        generalize hFF : (if wrap64 (fz.tmod 4) < 0 then 0 else wrap64 (fz.tmod 4)) = F at harm
        have hF : F < 9223372036854775808 := by rw [← hFF]; split <;> omega
        have HARM := Lib.hid harm
        clear harm hFF hF0
        go_wp2_with fail
        refine (HARM.out _).mono ?_
        rintro e w7 ⟨rfl, hb⟩
        have x7 := (Box.new wr [.slice A S.length n, .slice B 0 m, .int .i64 0, .bool false] 25).below hb
        clear kx ky
        have kx := x7.cell
        have fx := x7.frozen
        go_upto_region 18 with fail
        have xx := x7.four (.slice A S.length n) (.slice B 0 m) (.int .i64 F) (.bool false)
        have hrw := below4 (ext below1 hb) (Nat.le_refl _) (.slice A S.length n) (.slice B 0 m) (.int .i64 F) (.bool false)
        generalize (((w7.setCell ⟨wr.heap.size, 0, none⟩ (.slice A S.length n)).setCell ⟨wr.heap.size, 1, none⟩ (.slice B 0 m)).setCell ⟨wr.heap.size, 2, none⟩ (.int .i64 F)).setCell ⟨wr.heap.size, 3, none⟩ (.bool false) = W at *
        have XX := Lib.hid xx
        have HRW := Lib.hid hrw
        have HMW := Lib.hid (HM.out.up hrw)
        have HWW := Lib.hid (ext HBr.out hrw)
        clear xx hrw kx fx x7 hb
        cases hgood : (((k0 + 2 : Nat) : Int) - 2 == b.n) && b.right with
        | false =>
          rw [← HSL.out] at hgood
          have hcb := commit_bad (S := S) F hgood
          have hc : ∀ v, Below W.heap.size W v → Calls Tryd.prog 10 #[.agg #[.slice A S.length n, .slice B 0 m, .int .i64 F, .bool false], supV b] v (GivesD S [] F false 1 v) := by
            intro v hv
            have := commit_any A B n m S [] F false b v (HMW.out.up hv) HBW.out HS1.out HS64.out (by simp) hF rfl
            rw [hcb] at this
            exact this
          have HC := Lib.hid hc
          clear hc hcb
          go_upto_region 18 with fail
          go_cut [12, 13] from 51 to 158 (fun yp fv wx => ∃ (yb : Nat) (A2 B2 : Option Addr) (n2 m2 : Nat), yp = .pointer (some ⟨yb, 0, none⟩) ∧ fv = .int .i64 1 ∧ Hid (Box wx yb [.slice A2 S.length n2, .slice B2 0 m2, .int .i64 F, .bool false]) ∧ Hid (Mem wx A2 n2 B2 m2 S []) ∧ Hid (Below W.heap.size W wx) ∧ Hid (W.heap.size ≤ yb))
          case first =>
            refine held_start (S := fun v => Below W.heap.size W v) (by kernel_rfl) (Below.refl _ _).drew (fun v0 _ hH => ?_)
            refine wpAnyH_take (i := 0) (v := ?_) rfl (by kernel_rfl) (by kernel_rfl) (by kernel_rfl) (fun _ _ _ h => h) (Or.inl ⟨by rfl, ?_⟩) hH ?_
            rotate_left
            · (intro v hSw; have k := (XX.out.below hSw).cell; go_simp; try with_reducible rfl)
            simp only [Act.put, List.setIfInBounds_toArray, List.set_cons_zero, List.set_cons_succ, List.getElem_toArray, List.getElem_cons_zero]
            refine wpAnyH_take (i := 1) (v := ?_) rfl (by kernel_rfl) (by kernel_rfl) (by kernel_rfl) (fun _ _ _ h => h) (Or.inl ⟨by rfl, ?_⟩) hH ?_
            rotate_left
            · (intro v hSw; go_simp; try with_reducible rfl)
            simp only [Act.put, List.setIfInBounds_toArray, List.set_cons_zero, List.set_cons_succ, List.getElem_toArray, List.getElem_cons_zero, List.getElem_cons_succ]
            refine wpAnyH_take (i := 2) (v := ?_) rfl (by kernel_rfl) (by kernel_rfl) (by kernel_rfl) (fun _ _ _ h => h) (Or.inl ⟨by rfl, ?_⟩) hH ?_
            rotate_left
            · (intro v hSw; go_simp; try with_reducible rfl)
            simp only [Act.put, List.setIfInBounds_toArray, List.set_cons_zero, List.set_cons_succ, List.getElem_toArray, List.getElem_cons_zero, List.getElem_cons_succ]
            refine wpAnyH_take (i := 3) (v := ?_) rfl (by kernel_rfl) (by kernel_rfl) (by kernel_rfl) (fun _ _ _ h => h) (Or.inl ⟨by rfl, ?_⟩) hH ?_
            rotate_left
            · (intro v hSw; go_simp; try with_reducible rfl)
            simp only [Act.put, List.setIfInBounds_toArray, List.set_cons_zero, List.set_cons_succ, List.getElem_toArray, List.getElem_cons_zero, List.getElem_cons_succ]
            refine wpAnyH_take (i := 4) (v := ?_) rfl (by kernel_rfl) (by kernel_rfl) (by kernel_rfl) (fun _ _ _ h => h) (Or.inl ⟨by rfl, ?_⟩) hH ?_
            rotate_left
            · (intro v hSw; have q := HE.out v (ext HWW.out hSw); have c0 := q.c0; have c1 := q.c1; have c2 := q.c2; have c3 := q.c3; have c4 := q.c4; have c5 := q.c5; have c6 := q.c6; have c7 := q.c7; go_simp; try with_reducible rfl)
            simp only [Act.put, List.setIfInBounds_toArray, List.set_cons_zero, List.set_cons_succ, List.getElem_toArray, List.getElem_cons_zero, List.getElem_cons_succ]
            refine wpAnyH_ready (rs := [5, 9]) (by kernel_rfl) (by simp) ?_
            refine AllReadyH.cons rfl (fun K hK => ?_) ?_
            · go_simp
              refine (HC.out _ hH).mono ?_
              rintro e v1 ⟨A2, B2, n2, m2, rfl, hm2, hb⟩
              have HM2 := Lib.hid hm2
              clear hm2
              go_wp2_with fail
              refine hK.out _ _ (ext hH hb) (fun hH1 => ?_)
              clear hK K hH hb
              refine wpAnyH_take (i := 6) (v := ?_) rfl (by kernel_rfl) (by kernel_rfl) (by kernel_rfl) (fun _ _ _ h => h) (Or.inl ⟨by rfl, ?_⟩) hH1 ?_
              rotate_left
              · (intro v hSw; go_simp; try with_reducible rfl)
              simp only [Act.put, List.setIfInBounds_toArray, List.set_cons_zero, List.set_cons_succ, List.getElem_toArray, List.getElem_cons_zero, List.getElem_cons_succ]
              refine wpAnyH_take (i := 7) (v := ?_) rfl (by kernel_rfl) (by kernel_rfl) (by kernel_rfl) (fun _ _ _ h => h) (Or.inl ⟨by rfl, ?_⟩) hH1 ?_
              rotate_left
              · (intro v hSw; go_simp; try with_reducible rfl)
              simp only [Act.put, List.setIfInBounds_toArray, List.set_cons_zero, List.set_cons_succ, List.getElem_toArray, List.getElem_cons_zero, List.getElem_cons_succ]
              refine wpAnyH_take (i := 8) (v := ?_) rfl (by kernel_rfl) (by kernel_rfl) (by kernel_rfl) (fun _ _ _ h => h) (Or.inl ⟨by rfl, ?_⟩) hH1 ?_
              rotate_left
              · (intro v hSw; go_simp; try with_reducible rfl)
              simp only [Act.put, List.setIfInBounds_toArray, List.set_cons_zero, List.set_cons_succ, List.getElem_toArray, List.getElem_cons_zero, List.getElem_cons_succ]
              refine wpAnyH_ready (rs := [9]) (by kernel_rfl) (by simp) ?_
              refine AllReadyH.cons rfl (fun K hK => ?_) AllReadyH.nil
              go_simp
              refine hK.out _ _ (ext_alloc hH1 _) (fun hH2 => ?_)
              clear hK K
              refine wpAnyH_ready (rs := [10]) (by kernel_rfl) (by simp) ?_
              refine AllReadyH.cons rfl (fun K hK => ?_) AllReadyH.nil
              go_simp
              refine hK.out _ _ (ext_alloc hH1 _) (fun hH3 => ?_)
              clear hK K
              refine wpAnyH_take (i := 11) (v := ?_) rfl (by kernel_rfl) (by kernel_rfl) (by kernel_rfl) (fun _ _ _ h => h) (Or.inl ⟨by rfl, ?_⟩) hH3 ?_
              rotate_left
              · (intro v hSw; go_simp; try with_reducible rfl)
              simp only [Act.put, List.setIfInBounds_toArray, List.set_cons_zero, List.set_cons_succ, List.getElem_toArray, List.getElem_cons_zero, List.getElem_cons_succ]
              refine wpAnyH_done (by kernel_rfl) ?_ _
              go_wp2_with fail
              go_meet
              exact ⟨v1.heap.size, A2, B2, n2, m2, rfl, rfl, Box.new v1 _ _, HM2.out.up below1, hH3, hH1.size⟩
            refine AllReadyH.cons rfl (fun K hK => ?_) AllReadyH.nil
            go_simp
            refine hK.out _ _ (ext_alloc hH _) (fun hH1 => ?_)
            clear hK K
            refine wpAnyH_ready (rs := [5]) (by kernel_rfl) (by simp) ?_
            refine AllReadyH.cons rfl (fun K hK => ?_) AllReadyH.nil
            go_simp
            refine (HC.out _ hH1).mono ?_
            rintro e v1 ⟨A2, B2, n2, m2, rfl, hm2, hb⟩
            have HM2 := Lib.hid hm2
            clear hm2
            have bz := (Box.new v0 [.slice none 0 0, .slice none 0 0, .int .i64 0, .bool false] 25).below hb
            go_wp2_with fail
            refine hK.out _ _ (ext hH1 hb) (fun hH2 => ?_)
            clear hK K hb
            refine wpAnyH_take (i := 6) (v := ?_) rfl (by kernel_rfl) (by kernel_rfl) (by kernel_rfl) (fun _ _ _ h => h) (Or.inl ⟨by rfl, ?_⟩) hH2 ?_
            rotate_left
            · (intro v hSw; go_simp; try with_reducible rfl)
            simp only [Act.put, List.setIfInBounds_toArray, List.set_cons_zero, List.set_cons_succ, List.getElem_toArray, List.getElem_cons_zero, List.getElem_cons_succ]
            refine wpAnyH_take (i := 7) (v := ?_) rfl (by kernel_rfl) (by kernel_rfl) (by kernel_rfl) (fun _ _ _ h => h) (Or.inl ⟨by rfl, ?_⟩) hH2 ?_
            rotate_left
            · (intro v hSw; go_simp; try with_reducible rfl)
            simp only [Act.put, List.setIfInBounds_toArray, List.set_cons_zero, List.set_cons_succ, List.getElem_toArray, List.getElem_cons_zero, List.getElem_cons_succ]
            refine wpAnyH_take (i := 8) (v := ?_) rfl (by kernel_rfl) (by kernel_rfl) (by kernel_rfl) (fun _ _ _ h => h) (Or.inl ⟨by rfl, ?_⟩) hH2 ?_
            rotate_left
            · (intro v hSw; go_simp; try with_reducible rfl)
            simp only [Act.put, List.setIfInBounds_toArray, List.set_cons_zero, List.set_cons_succ, List.getElem_toArray, List.getElem_cons_zero, List.getElem_cons_succ]
            refine wpAnyH_ready (rs := [10]) (by kernel_rfl) (by simp) ?_
            refine AllReadyH.cons rfl (fun K hK => ?_) AllReadyH.nil
            have kx := bz.cell
            have fx := bz.frozen
            go_simp
            refine hK.out _ _ (below4 hH2 hH.size _ _ _ _) (fun hH3 => ?_)
            clear hK K kx fx
            refine wpAnyH_take (i := 11) (v := ?_) rfl (by kernel_rfl) (by kernel_rfl) (by kernel_rfl) (fun _ _ _ h => h) (Or.inl ⟨by rfl, ?_⟩) hH3 ?_
            rotate_left
            · (intro v hSw; go_simp; try with_reducible rfl)
            simp only [Act.put, List.setIfInBounds_toArray, List.set_cons_zero, List.set_cons_succ, List.getElem_toArray, List.getElem_cons_zero, List.getElem_cons_succ]
            refine wpAnyH_done (by kernel_rfl) ?_ _
            go_wp2_with fail
            go_meet
            exact ⟨v0.heap.size, A2, B2, n2, m2, rfl, rfl, bz.four _ _ _ _, HM2.out.four bz _ _ _ _ _ _ _ _, hH3, hH.size⟩
          case rest =>
          obtain ⟨yb, A2, B2, n2, m2, rfl, rfl, HY, HMY, HWX, HYB⟩ := hcut
          have kx := (XX.out.below HWX.out).cell
          have ky := HY.out.cell
          have hsm := rsame_any A B A2 B2 n m n2 m2 S S [] [] F F false false wc (HMW.out.up HWX.out).es (HMW.out.up HWX.out).ws HMY.out.es HMY.out.ws (by have := HS64.out; unfold maxLen; omega) (by unfold maxLen; simp)
          rw [same_is rfl rfl rfl rfl] at hsm
          have HSM := Lib.hid hsm
          clear hsm
          go_wp2_with fail
          refine HSM.out.mono ?_
          rintro e w9 ⟨rfl, hb⟩
          have hB9 := ext (ext HRW.out HWX.out) hb
          have HB9 := Lib.hid hB9
          clear hB9 hb kx ky
          go_wp2_with fail
          go_roundg (l.length - (k + 1))
          case measure => omega
          case rel => exact ⟨k + 1, p, S, A, B, n, m, rfl, by omega, by go_num, Nat.le_succ_of_le HPK.out, own_up HO.out HB9.out, HX.out.below HB9.out, HM.out.up HB9.out, HGD.out, ext HBr.out HB9.out⟩
        | true =>
          obtain ⟨hn, hr⟩ := Bool.and_eq_true_iff.1 hgood
          obtain ⟨s2, c2, f2, x2, e2, t3, R, g, hcd, hsl, hcl, hcm, ht3, hts, hld, he, hcase⟩ := last_fact F keeps HGD.out (by omega) HBW.out hr hn
          have he1 : (e2 == 1) = false := by rw [beq_eq_false_iff_ne]; omega
          have hc : ∀ v, Below W.heap.size W v → Calls Tryd.prog 10 #[.agg #[.slice A S.length n, .slice B 0 m, .int .i64 F, .bool false], supV b] v (GivesD s2 c2 f2 x2 e2 v) := by
            intro v hv
            have := commit_any A B n m S [] F false b v (HMW.out.up hv) HBW.out HS1.out HS64.out (by simp) hF rfl
            rw [hcd] at this
            exact this
          have hrv : ∀ (A2 B2 : Option Addr) (n2 m2 : Nat) v, Mem v A2 n2 B2 m2 s2 c2 → Es Value.bool v v.heap.size K keeps → Calls Tryd.prog 17 #[.agg #[.slice A2 s2.length n2, .slice B2 c2.length m2, .int .i64 0, .bool true], .slice K keeps.length kc] v (GivesO (layL s2 (keptL c2 keeps c2.length)) [] 0 false v) :=
            fun A2 B2 n2 m2 v hm hk => rrevive_any A2 B2 K n2 m2 kc s2 c2 keeps 0 true v hm hk (by omega) (by omega) (by unfold maxLen; omega) (by rw [hsl]; exact hcm)
          have h3l : (layL s2 (keptL c2 keeps c2.length)).length ≤ 64 := by rw [lay_length]; omega
          generalize layL s2 (keptL c2 keeps c2.length) = s3 at *
          have hlo : ∀ (A3 B3 : Option Addr) (n3 m3 : Nat) v, Mem v A3 n3 B3 m3 s3 [] → Glob v a → Calls Tryd.prog 8 #[.agg #[.slice A3 s3.length n3, .slice B3 0 m3, .int .i64 0, .bool false]] v fun e v' => e = .returned (.tuple #[.agg #[.int .i64 R.n, .int .u64 R.c, .int .u64 R.b, .int .u64 R.o, .int .u64 R.p, .bool R.i, .bool R.r, .bool R.d], .int .i64 g]) ∧ Below v.heap.size v v' := by
            intro A3 B3 n3 m3 v hm hg
            have := load_any A3 B3 n3 m3 s3 [] 0 false t3 a v hm ht3 h3l (by simp) (by rw [holds_nil]; omega) hg
            rw [hld] at this
            exact this
          obtain ⟨WA, wcap, rfl, hws⟩ := own_ss HO.out
          have HWA := Lib.hid hws
          have HC := Lib.hid hc
          have HRV := Lib.hid hrv
          have HLO := Lib.hid hlo
          have HCASE := Lib.hid hcase
          clear hws hc hrv hlo hcase hcd hsl hcl hcm ht3 hts hld he h3l hgood hr hn hF
          go_upto_region 18 with fail
          go_cut [12, 13] from 51 to 158 (fun yp fv wx => ∃ (yb : Nat) (A2 B2 : Option Addr) (n2 m2 : Nat), yp = .pointer (some ⟨yb, 0, none⟩) ∧ fv = .int .i64 e2 ∧ Hid (Box wx yb [.slice A2 s2.length n2, .slice B2 c2.length m2, .int .i64 f2, .bool x2]) ∧ Hid (Mem wx A2 n2 B2 m2 s2 c2) ∧ Hid (Below W.heap.size W wx) ∧ Hid (W.heap.size ≤ yb))
          case first =>
            refine held_start (S := fun v => Below W.heap.size W v) (by kernel_rfl) (Below.refl _ _).drew (fun v0 _ hH => ?_)
            refine wpAnyH_take (i := 0) (v := ?_) rfl (by kernel_rfl) (by kernel_rfl) (by kernel_rfl) (fun _ _ _ h => h) (Or.inl ⟨by rfl, ?_⟩) hH ?_
            rotate_left
            · (intro v hSw; have k := (XX.out.below hSw).cell; go_simp; try with_reducible rfl)
            simp only [Act.put, List.setIfInBounds_toArray, List.set_cons_zero, List.set_cons_succ, List.getElem_toArray, List.getElem_cons_zero]
            refine wpAnyH_take (i := 1) (v := ?_) rfl (by kernel_rfl) (by kernel_rfl) (by kernel_rfl) (fun _ _ _ h => h) (Or.inl ⟨by rfl, ?_⟩) hH ?_
            rotate_left
            · (intro v hSw; go_simp; try with_reducible rfl)
            simp only [Act.put, List.setIfInBounds_toArray, List.set_cons_zero, List.set_cons_succ, List.getElem_toArray, List.getElem_cons_zero, List.getElem_cons_succ]
            refine wpAnyH_take (i := 2) (v := ?_) rfl (by kernel_rfl) (by kernel_rfl) (by kernel_rfl) (fun _ _ _ h => h) (Or.inl ⟨by rfl, ?_⟩) hH ?_
            rotate_left
            · (intro v hSw; go_simp; try with_reducible rfl)
            simp only [Act.put, List.setIfInBounds_toArray, List.set_cons_zero, List.set_cons_succ, List.getElem_toArray, List.getElem_cons_zero, List.getElem_cons_succ]
            refine wpAnyH_take (i := 3) (v := ?_) rfl (by kernel_rfl) (by kernel_rfl) (by kernel_rfl) (fun _ _ _ h => h) (Or.inl ⟨by rfl, ?_⟩) hH ?_
            rotate_left
            · (intro v hSw; go_simp; try with_reducible rfl)
            simp only [Act.put, List.setIfInBounds_toArray, List.set_cons_zero, List.set_cons_succ, List.getElem_toArray, List.getElem_cons_zero, List.getElem_cons_succ]
            refine wpAnyH_take (i := 4) (v := ?_) rfl (by kernel_rfl) (by kernel_rfl) (by kernel_rfl) (fun _ _ _ h => h) (Or.inl ⟨by rfl, ?_⟩) hH ?_
            rotate_left
            · (intro v hSw; have q := HE.out v (ext HWW.out hSw); have c0 := q.c0; have c1 := q.c1; have c2 := q.c2; have c3 := q.c3; have c4 := q.c4; have c5 := q.c5; have c6 := q.c6; have c7 := q.c7; go_simp; try with_reducible rfl)
            simp only [Act.put, List.setIfInBounds_toArray, List.set_cons_zero, List.set_cons_succ, List.getElem_toArray, List.getElem_cons_zero, List.getElem_cons_succ]
            refine wpAnyH_ready (rs := [5, 9]) (by kernel_rfl) (by simp) ?_
            refine AllReadyH.cons rfl (fun K hK => ?_) ?_
            · go_simp
              refine (HC.out _ hH).mono ?_
              rintro e v1 ⟨A2, B2, n2, m2, rfl, hm2, hb⟩
              have HM2 := Lib.hid hm2
              clear hm2
              go_wp2_with fail
              refine hK.out _ _ (ext hH hb) (fun hH1 => ?_)
              clear hK K hH hb
              refine wpAnyH_take (i := 6) (v := ?_) rfl (by kernel_rfl) (by kernel_rfl) (by kernel_rfl) (fun _ _ _ h => h) (Or.inl ⟨by rfl, ?_⟩) hH1 ?_
              rotate_left
              · (intro v hSw; go_simp; try with_reducible rfl)
              simp only [Act.put, List.setIfInBounds_toArray, List.set_cons_zero, List.set_cons_succ, List.getElem_toArray, List.getElem_cons_zero, List.getElem_cons_succ]
              refine wpAnyH_take (i := 7) (v := ?_) rfl (by kernel_rfl) (by kernel_rfl) (by kernel_rfl) (fun _ _ _ h => h) (Or.inl ⟨by rfl, ?_⟩) hH1 ?_
              rotate_left
              · (intro v hSw; go_simp; try with_reducible rfl)
              simp only [Act.put, List.setIfInBounds_toArray, List.set_cons_zero, List.set_cons_succ, List.getElem_toArray, List.getElem_cons_zero, List.getElem_cons_succ]
              refine wpAnyH_take (i := 8) (v := ?_) rfl (by kernel_rfl) (by kernel_rfl) (by kernel_rfl) (fun _ _ _ h => h) (Or.inl ⟨by rfl, ?_⟩) hH1 ?_
              rotate_left
              · (intro v hSw; go_simp; try with_reducible rfl)
              simp only [Act.put, List.setIfInBounds_toArray, List.set_cons_zero, List.set_cons_succ, List.getElem_toArray, List.getElem_cons_zero, List.getElem_cons_succ]
              refine wpAnyH_ready (rs := [9]) (by kernel_rfl) (by simp) ?_
              refine AllReadyH.cons rfl (fun K hK => ?_) AllReadyH.nil
              go_simp
              refine hK.out _ _ (ext_alloc hH1 _) (fun hH2 => ?_)
              clear hK K
              refine wpAnyH_ready (rs := [10]) (by kernel_rfl) (by simp) ?_
              refine AllReadyH.cons rfl (fun K hK => ?_) AllReadyH.nil
              go_simp
              refine hK.out _ _ (ext_alloc hH1 _) (fun hH3 => ?_)
              clear hK K
              refine wpAnyH_take (i := 11) (v := ?_) rfl (by kernel_rfl) (by kernel_rfl) (by kernel_rfl) (fun _ _ _ h => h) (Or.inl ⟨by rfl, ?_⟩) hH3 ?_
              rotate_left
              · (intro v hSw; go_simp; try with_reducible rfl)
              simp only [Act.put, List.setIfInBounds_toArray, List.set_cons_zero, List.set_cons_succ, List.getElem_toArray, List.getElem_cons_zero, List.getElem_cons_succ]
              refine wpAnyH_done (by kernel_rfl) ?_ _
              go_wp2_with fail
              go_meet
              exact ⟨v1.heap.size, A2, B2, n2, m2, rfl, rfl, Box.new v1 _ _, HM2.out.up below1, hH3, hH1.size⟩
            refine AllReadyH.cons rfl (fun K hK => ?_) AllReadyH.nil
            go_simp
            refine hK.out _ _ (ext_alloc hH _) (fun hH1 => ?_)
            clear hK K
            refine wpAnyH_ready (rs := [5]) (by kernel_rfl) (by simp) ?_
            refine AllReadyH.cons rfl (fun K hK => ?_) AllReadyH.nil
            go_simp
            refine (HC.out _ hH1).mono ?_
            rintro e v1 ⟨A2, B2, n2, m2, rfl, hm2, hb⟩
            have HM2 := Lib.hid hm2
            clear hm2
            have bz := (Box.new v0 [.slice none 0 0, .slice none 0 0, .int .i64 0, .bool false] 25).below hb
            go_wp2_with fail
            refine hK.out _ _ (ext hH1 hb) (fun hH2 => ?_)
            clear hK K hb
            refine wpAnyH_take (i := 6) (v := ?_) rfl (by kernel_rfl) (by kernel_rfl) (by kernel_rfl) (fun _ _ _ h => h) (Or.inl ⟨by rfl, ?_⟩) hH2 ?_
            rotate_left
            · (intro v hSw; go_simp; try with_reducible rfl)
            simp only [Act.put, List.setIfInBounds_toArray, List.set_cons_zero, List.set_cons_succ, List.getElem_toArray, List.getElem_cons_zero, List.getElem_cons_succ]
            refine wpAnyH_take (i := 7) (v := ?_) rfl (by kernel_rfl) (by kernel_rfl) (by kernel_rfl) (fun _ _ _ h => h) (Or.inl ⟨by rfl, ?_⟩) hH2 ?_
            rotate_left
            · (intro v hSw; go_simp; try with_reducible rfl)
            simp only [Act.put, List.setIfInBounds_toArray, List.set_cons_zero, List.set_cons_succ, List.getElem_toArray, List.getElem_cons_zero, List.getElem_cons_succ]
            refine wpAnyH_take (i := 8) (v := ?_) rfl (by kernel_rfl) (by kernel_rfl) (by kernel_rfl) (fun _ _ _ h => h) (Or.inl ⟨by rfl, ?_⟩) hH2 ?_
            rotate_left
            · (intro v hSw; go_simp; try with_reducible rfl)
            simp only [Act.put, List.setIfInBounds_toArray, List.set_cons_zero, List.set_cons_succ, List.getElem_toArray, List.getElem_cons_zero, List.getElem_cons_succ]
            refine wpAnyH_ready (rs := [10]) (by kernel_rfl) (by simp) ?_
            refine AllReadyH.cons rfl (fun K hK => ?_) AllReadyH.nil
            have kx := bz.cell
            have fx := bz.frozen
            go_simp
            refine hK.out _ _ (below4 hH2 hH.size _ _ _ _) (fun hH3 => ?_)
            clear hK K kx fx
            refine wpAnyH_take (i := 11) (v := ?_) rfl (by kernel_rfl) (by kernel_rfl) (by kernel_rfl) (fun _ _ _ h => h) (Or.inl ⟨by rfl, ?_⟩) hH3 ?_
            rotate_left
            · (intro v hSw; go_simp; try with_reducible rfl)
            simp only [Act.put, List.setIfInBounds_toArray, List.set_cons_zero, List.set_cons_succ, List.getElem_toArray, List.getElem_cons_zero, List.getElem_cons_succ]
            refine wpAnyH_done (by kernel_rfl) ?_ _
            go_wp2_with fail
            go_meet
            exact ⟨v0.heap.size, A2, B2, n2, m2, rfl, rfl, bz.four _ _ _ _, HM2.out.four bz _ _ _ _ _ _ _ _, hH3, hH.size⟩
          case rest =>
          obtain ⟨yb, A2, B2, n2, m2, rfl, rfl, HY, HMY, HWX, HYB⟩ := hcut
          have ky := HY.out.cell
          go_wp2_with fail
          refine (rcrash_any A2 B2 s2.length n2 c2.length m2 f2 x2 _).mono ?_
          rintro e w9 ⟨rfl, hb⟩
          have HB9 := Lib.hid (ext HWX.out hb)
          have HM9 := Lib.hid (HMY.out.up hb)
          clear hb ky HMY HY
          go_wp2_with fail
          refine (HRV.out A2 B2 n2 m2 _ HM9.out (HK.out.up (ext HWW.out HB9.out))).mono ?_
          rintro e w10 ⟨A3, B3, n3, m3, rfl, hm3, hb⟩
          have HB10 := Lib.hid (ext HB9.out hb)
          have HM10 := Lib.hid hm3
          clear hb hm3 HB9 HM9
          go_wp2_with fail
          refine (HLO.out A3 B3 n3 m3 _ HM10.out (HG.out.up (ext HWW.out HB10.out))).mono ?_
          rintro e w11 ⟨rfl, hb⟩
          have hz := ext_alloc (ext HB10.out hb) (.cells #[.int .i64 R.n, .int .u64 R.c, .int .u64 R.b, .int .u64 R.o, .int .u64 R.p, .bool R.i, .bool R.r, .bool R.d] 31)
          have hrb := Box.new w11 [.int .i64 R.n, .int .u64 R.c, .int .u64 R.b, .int .u64 R.o, .int .u64 R.p, .bool R.i, .bool R.r, .bool R.d] 31
          clear hb HB10 HM10
          rcases HCASE.out with ⟨rfl, rfl⟩ | ⟨rfl, rfl, rfl, rfl⟩ | ⟨rfl, hne, rfl, p', hp⟩
          · have q := HE.out _ (ext HWW.out hz)
            have c0 := q.c0
            have c1 := q.c1
            have c2 := q.c2
            have c3 := q.c3
            have c4 := q.c4
            have c5 := q.c5
            have c6 := q.c6
            have c7 := q.c7
            have HZ := Lib.hid (ext HWW.out hz)
            clear q hz hrb HCASE
            by_cases hp : p.length = 0
            · have hpl : ((p.length : Int) == 0) = true := by rw [beq_iff_eq]; omega
              clear hp
              go_upto_region 26 with fail
              go_quiet (fail)
              go_wp2_with fail
              go_ret
              exact ⟨rfl, below_drewN HZ.out nq⟩
            · have hpl : ((p.length : Int) == 0) = false := by rw [beq_eq_false_iff_ne]; omega
              clear hp
              go_upto_region 26 with fail
              go_quiet (fail)
              go_wp2_with fail
              go_ret
              exact ⟨rfl, below_drewN HZ.out nq⟩
          · have HZ := Lib.hid (ext HWW.out hz)
            clear hz hrb HCASE
            go_wp2_with fail
            go_ret
            exact ⟨rfl, HZ.out⟩
          · have hpn : p.length = p'.length + 1 := by rw [hp]; simp
            have hpl : ((p.length : Int) == 0) = false := by rw [beq_eq_false_iff_ne]; omega
            have hpg : (0 : Int) < (p.length : Int) := by omega
            have hwr : IntKind.i64.wrap ((p.length : Int) - 1) = (p'.length : Int) := by rw [IntKind.wrap_i64]; have := HPK.out; omega
            have HWR := Lib.hid hwr
            have HPQ := Lib.hid (show (p'.length : Int) < (p.length : Int) by omega)
            clear hpn hwr
            have hlq : ∀ v, Below (w11.alloc (.cells #[.int .i64 R.n, .int .u64 R.c, .int .u64 R.b, .int .u64 R.o, .int .u64 R.p, .bool R.i, .bool R.r, .bool R.d] 31)).heap.size (w11.alloc (.cells #[.int .i64 R.n, .int .u64 R.c, .int .u64 R.b, .int .u64 R.o, .int .u64 R.p, .bool R.i, .bool R.r, .bool R.d] 31)) v → ∃ wa0, WA = some wa0 ∧ SupAt v (wa0.add (p'.length * 8)) R := by
              intro v hv
              obtain ⟨wa0, e1, _, e2⟩ := (HWA.out.up (ext HRW.out (ext hz hv))) p'.length R (by rw [hp]; simp)
              exact ⟨wa0, e1, e2⟩
            obtain ⟨wa0, rfl, _⟩ := hlq _ (Below.refl _ _)
            have hlq2 : ∀ v, Below (w11.alloc (.cells #[.int .i64 R.n, .int .u64 R.c, .int .u64 R.b, .int .u64 R.o, .int .u64 R.p, .bool R.i, .bool R.r, .bool R.d] 31)).heap.size (w11.alloc (.cells #[.int .i64 R.n, .int .u64 R.c, .int .u64 R.b, .int .u64 R.o, .int .u64 R.p, .bool R.i, .bool R.r, .bool R.d] 31)) v → SupAt v (wa0.add (p'.length * 8)) R := by
              intro v hv
              obtain ⟨wa1, e1, e2⟩ := hlq v hv
              injection e1 with e1
              subst e1
              exact e2
            have HNE := Lib.hid hne
            have HPI := Lib.hid (show 1 ≤ p.length by omega)
            clear hlq hne hp HCASE
            generalize p'.length = P at *
            have HWZ := Lib.hid (ext HWW.out hz)
            clear hz
            go_upto_region 26 with fail
            generalize w11.alloc (.cells #[.int .i64 R.n, .int .u64 R.c, .int .u64 R.b, .int .u64 R.o, .int .u64 R.p, .bool R.i, .bool R.r, .bool R.d] 31) = Z at *
            have HLQ := Lib.hid hlq2
            have HRB := Lib.hid hrb
            clear hlq2 hrb
            refine held_start (S := fun v => Below Z.heap.size Z v) (by kernel_rfl) (Below.refl _ _).drew (fun v0 _ hH => ?_)
            refine wpAnyH_take (i := 0) (v := ?_) rfl (by kernel_rfl) (by kernel_rfl) (by kernel_rfl) (fun _ _ _ h => h) (Or.inl ⟨by rfl, ?_⟩) hH ?_
            rotate_left
            · (intro v hSw; go_simp; try with_reducible rfl)
            simp only [Act.put, List.setIfInBounds_toArray, List.set_cons_zero, List.set_cons_succ, List.getElem_toArray, List.getElem_cons_zero]
            refine wpAnyH_take (i := 1) (v := ?_) rfl (by kernel_rfl) (by kernel_rfl) (by kernel_rfl) (fun _ _ _ h => h) (Or.inl ⟨by rfl, ?_⟩) hH ?_
            rotate_left
            · (intro v hSw; go_simp; try with_reducible rfl)
            simp only [Act.put, List.setIfInBounds_toArray, List.set_cons_zero, List.set_cons_succ, List.getElem_toArray, List.getElem_cons_zero, List.getElem_cons_succ]
            refine wpAnyH_take (i := 2) (v := ?_) rfl (by kernel_rfl) (by kernel_rfl) (by kernel_rfl) (fun _ _ _ h => h) (Or.inl ⟨by rfl, ?_⟩) hH ?_
            rotate_left
            · (intro v hSw; go_simp; try with_reducible rfl)
            simp only [Act.put, List.setIfInBounds_toArray, List.set_cons_zero, List.set_cons_succ, List.getElem_toArray, List.getElem_cons_zero, List.getElem_cons_succ]
            refine wpAnyH_take (i := 3) (v := ?_) rfl (by kernel_rfl) (by kernel_rfl) (by kernel_rfl) (fun _ _ _ h => h) (Or.inl ⟨by rfl, ?_⟩) hH ?_
            rotate_left
            · (intro v hSw; have k := (HRB.out.below hSw).cell; go_simp; try with_reducible rfl)
            simp only [Act.put, List.setIfInBounds_toArray, List.set_cons_zero, List.set_cons_succ, List.getElem_toArray, List.getElem_cons_zero, List.getElem_cons_succ]
            refine wpAnyH_take (i := 4) (v := ?_) rfl (by kernel_rfl) (by kernel_rfl) (by kernel_rfl) (fun _ _ _ h => h) (Or.inl ⟨by rfl, ?_⟩) hH ?_
            rotate_left
            · (intro v hSw; go_simp; try with_reducible rfl)
            simp only [Act.put, List.setIfInBounds_toArray, List.set_cons_zero, List.set_cons_succ, List.getElem_toArray, List.getElem_cons_zero, List.getElem_cons_succ]
            refine wpAnyH_take (i := 5) (v := ?_) rfl (by kernel_rfl) (by kernel_rfl) (by kernel_rfl) (fun _ _ _ h => h) (Or.inl ⟨by rfl, ?_⟩) hH ?_
            rotate_left
            · (intro v hSw; go_simp; try with_reducible rfl)
            simp only [Act.put, List.setIfInBounds_toArray, List.set_cons_zero, List.set_cons_succ, List.getElem_toArray, List.getElem_cons_zero, List.getElem_cons_succ]
            refine wpAnyH_take (i := 6) (v := ?_) rfl (by kernel_rfl) (by kernel_rfl) (by kernel_rfl) (fun _ _ _ h => h) (Or.inl ⟨by rfl, ?_⟩) hH ?_
            rotate_left
            · (intro v hSw; go_simp; try with_reducible rfl)
            simp only [Act.put, List.setIfInBounds_toArray, List.set_cons_zero, List.set_cons_succ, List.getElem_toArray, List.getElem_cons_zero, List.getElem_cons_succ]
            refine wpAnyH_take (i := 7) (v := ?_) rfl (by kernel_rfl) (by kernel_rfl) (by kernel_rfl) (fun _ _ _ h => h) (Or.inl ⟨by rfl, ?_⟩) hH ?_
            rotate_left
            · (intro v hSw; have q := HE.out v (ext HWZ.out hSw); have c0 := q.c0; have c1 := q.c1; have c2 := q.c2; have c3 := q.c3; have c4 := q.c4; have c5 := q.c5; have c6 := q.c6; have c7 := q.c7; go_simp; try with_reducible rfl)
            simp only [Act.put, List.setIfInBounds_toArray, List.set_cons_zero, List.set_cons_succ, List.getElem_toArray, List.getElem_cons_zero, List.getElem_cons_succ]
            refine wpAnyH_take (i := 8) (v := .bool false) rfl (by kernel_rfl) (by kernel_rfl) (by kernel_rfl) (fun _ _ _ h => h) (Or.inl ⟨by rfl, ?_⟩) hH ?_
            · (intro v hSw; go_simp; intro e1 e2 e3 e4 e5 e6 e7 e8; exact HNE.out (sup_ext e1 e2 e3 e4 e5 e6 e7 e8))
            simp only [Act.put, List.setIfInBounds_toArray, List.set_cons_zero, List.set_cons_succ, List.getElem_toArray, List.getElem_cons_zero, List.getElem_cons_succ]
            refine wpAnyH_take (i := 9) (v := ?_) rfl (by kernel_rfl) (by kernel_rfl) (by kernel_rfl) (fun _ _ _ h => h) (Or.inl ⟨by rfl, ?_⟩) hH ?_
            rotate_left
            · (intro v hSw; go_simp; try with_reducible rfl)
            simp only [Act.put, List.setIfInBounds_toArray, List.set_cons_zero, List.set_cons_succ, List.getElem_toArray, List.getElem_cons_zero, List.getElem_cons_succ]
            refine wpAnyH_take (i := 10) (v := ?_) rfl (by kernel_rfl) (by kernel_rfl) (by kernel_rfl) (fun _ _ _ h => h) (Or.inl ⟨by rfl, ?_⟩) hH ?_
            rotate_left
            · (intro v hSw; go_simp; try with_reducible rfl)
            simp only [Act.put, List.setIfInBounds_toArray, List.set_cons_zero, List.set_cons_succ, List.getElem_toArray, List.getElem_cons_zero, List.getElem_cons_succ]
            refine wpAnyH_take (i := 11) (v := ?_) rfl (by kernel_rfl) (by kernel_rfl) (by kernel_rfl) (fun _ _ _ h => h) (Or.inl ⟨by rfl, ?_⟩) hH ?_
            rotate_left
            · (intro v hSw; go_simp; try with_reducible rfl)
            simp only [Act.put, List.setIfInBounds_toArray, List.set_cons_zero, List.set_cons_succ, List.getElem_toArray, List.getElem_cons_zero, List.getElem_cons_succ]
            refine wpAnyH_take (i := 12) (v := ?_) rfl (by kernel_rfl) (by kernel_rfl) (by kernel_rfl) (fun _ _ _ h => h) (Or.inl ⟨by rfl, ?_⟩) hH ?_
            rotate_left
            · (intro v hSw; go_simp; try with_reducible rfl)
            simp only [Act.put, List.setIfInBounds_toArray, List.set_cons_zero, List.set_cons_succ, List.getElem_toArray, List.getElem_cons_zero, List.getElem_cons_succ]
            refine wpAnyH_take (i := 13) (v := ?_) rfl (by kernel_rfl) (by kernel_rfl) (by kernel_rfl) (fun _ _ _ h => h) (Or.inl ⟨by rfl, ?_⟩) hH ?_
            rotate_left
            · (intro v hSw; go_simp; try with_reducible rfl)
            simp only [Act.put, List.setIfInBounds_toArray, List.set_cons_zero, List.set_cons_succ, List.getElem_toArray, List.getElem_cons_zero, List.getElem_cons_succ]
            refine wpAnyH_take (i := 14) (v := ?_) rfl (by kernel_rfl) (by kernel_rfl) (by kernel_rfl) (fun _ _ _ h => h) (Or.inl ⟨by rfl, ?_⟩) hH ?_
            rotate_left
            · (intro v hSw; go_simp; try with_reducible rfl)
            simp only [Act.put, List.setIfInBounds_toArray, List.set_cons_zero, List.set_cons_succ, List.getElem_toArray, List.getElem_cons_zero, List.getElem_cons_succ]
            refine wpAnyH_take (i := 15) (v := .bool true) rfl (by kernel_rfl) (by kernel_rfl) (by kernel_rfl) (fun _ _ _ h => h) (Or.inl ⟨by rfl, ?_⟩) hH ?_
            · (intro v hSw; have k1 := HPI.out; go_simp; try omega)
            simp only [Act.put, List.setIfInBounds_toArray, List.set_cons_zero, List.set_cons_succ, List.getElem_toArray, List.getElem_cons_zero, List.getElem_cons_succ]
            refine wpAnyH_take (i := 16) (v := ?_) rfl (by kernel_rfl) (by kernel_rfl) (by kernel_rfl) (fun _ _ _ h => h) (Or.inl ⟨by rfl, ?_⟩) hH ?_
            rotate_left
            · (intro v hSw; go_simp; try with_reducible rfl)
            simp only [Act.put, List.setIfInBounds_toArray, List.set_cons_zero, List.set_cons_succ, List.getElem_toArray, List.getElem_cons_zero, List.getElem_cons_succ]
            refine wpAnyH_take (i := 17) (v := ?_) rfl (by kernel_rfl) (by kernel_rfl) (by kernel_rfl) (fun _ _ _ h => h) (Or.inl ⟨by rfl, ?_⟩) hH ?_
            rotate_left
            · (intro v hSw; go_simp; try with_reducible rfl)
            simp only [Act.put, List.setIfInBounds_toArray, List.set_cons_zero, List.set_cons_succ, List.getElem_toArray, List.getElem_cons_zero, List.getElem_cons_succ]
            refine wpAnyH_take (i := 18) (v := ?_) rfl (by kernel_rfl) (by kernel_rfl) (by kernel_rfl) (fun _ _ _ h => h) (Or.inl ⟨by rfl, ?_⟩) hH ?_
            rotate_left
            · (intro v hSw; have k := (HRB.out.below hSw).cell; go_simp; try with_reducible rfl)
            simp only [Act.put, List.setIfInBounds_toArray, List.set_cons_zero, List.set_cons_succ, List.getElem_toArray, List.getElem_cons_zero, List.getElem_cons_succ]
            refine wpAnyH_take (i := 19) (v := ?_) rfl (by kernel_rfl) (by kernel_rfl) (by kernel_rfl) (fun _ _ _ h => h) (Or.inl ⟨by rfl, ?_⟩) hH ?_
            rotate_left
            · (intro v hSw; go_simp; try with_reducible rfl)
            simp only [Act.put, List.setIfInBounds_toArray, List.set_cons_zero, List.set_cons_succ, List.getElem_toArray, List.getElem_cons_zero, List.getElem_cons_succ]
            refine wpAnyH_take (i := 20) (v := ?_) rfl (by kernel_rfl) (by kernel_rfl) (by kernel_rfl) (fun _ _ _ h => h) (Or.inl ⟨by rfl, ?_⟩) hH ?_
            rotate_left
            · (intro v hSw; go_simp; try with_reducible rfl)
            simp only [Act.put, List.setIfInBounds_toArray, List.set_cons_zero, List.set_cons_succ, List.getElem_toArray, List.getElem_cons_zero, List.getElem_cons_succ]
            refine wpAnyH_take (i := 21) (v := ?_) rfl (by kernel_rfl) (by kernel_rfl) (by kernel_rfl) (fun _ _ _ h => h) (Or.inl ⟨by rfl, ?_⟩) hH ?_
            rotate_left
            · (intro v hSw; go_simp; try with_reducible rfl)
            simp only [Act.put, List.setIfInBounds_toArray, List.set_cons_zero, List.set_cons_succ, List.getElem_toArray, List.getElem_cons_zero, List.getElem_cons_succ]
            refine wpAnyH_take (i := 22) (v := ?_) rfl (by kernel_rfl) (by kernel_rfl) (by kernel_rfl) (fun _ _ _ h => h) (Or.inl ⟨by rfl, ?_⟩) hH ?_
            rotate_left
            · (intro v hSw; have k1 := HWR.out; go_simp; try with_reducible rfl)
            simp only [Act.put, List.setIfInBounds_toArray, List.set_cons_zero, List.set_cons_succ, List.getElem_toArray, List.getElem_cons_zero, List.getElem_cons_succ]
            refine wpAnyH_take (i := 23) (v := ?_) rfl (by kernel_rfl) (by kernel_rfl) (by kernel_rfl) (fun _ _ _ h => h) (Or.inl ⟨by rfl, ?_⟩) hH ?_
            rotate_left
            · (intro v hSw; have k1 := HPQ.out; go_simp; try with_reducible rfl)
            simp only [Act.put, List.setIfInBounds_toArray, List.set_cons_zero, List.set_cons_succ, List.getElem_toArray, List.getElem_cons_zero, List.getElem_cons_succ]
            refine wpAnyH_take (i := 24) (v := ?_) rfl (by kernel_rfl) (by kernel_rfl) (by kernel_rfl) (fun _ _ _ h => h) (Or.inl ⟨by rfl, ?_⟩) hH ?_
            rotate_left
            · (intro v hSw; have q := HLQ.out v hSw; have c0 := q.c0; have c1 := q.c1; have c2 := q.c2; have c3 := q.c3; have c4 := q.c4; have c5 := q.c5; have c6 := q.c6; have c7 := q.c7; go_simp; try with_reducible rfl)
            simp only [Act.put, List.setIfInBounds_toArray, List.set_cons_zero, List.set_cons_succ, List.getElem_toArray, List.getElem_cons_zero, List.getElem_cons_succ]
            refine wpAnyH_take (i := 25) (v := ?_) rfl (by kernel_rfl) (by kernel_rfl) (by kernel_rfl) (fun _ _ _ h => h) (Or.inl ⟨by rfl, ?_⟩) hH ?_
            rotate_left
            · (intro v hSw; go_simp; try with_reducible rfl)
            simp only [Act.put, List.setIfInBounds_toArray, List.set_cons_zero, List.set_cons_succ, List.getElem_toArray, List.getElem_cons_zero, List.getElem_cons_succ]
            refine wpAnyH_take (i := 26) (v := ?_) rfl (by kernel_rfl) (by kernel_rfl) (by kernel_rfl) (fun _ _ _ h => h) (Or.inl ⟨by rfl, ?_⟩) hH ?_
            rotate_left
            · (intro v hSw; go_simp; try with_reducible rfl)
            simp only [Act.put, List.setIfInBounds_toArray, List.set_cons_zero, List.set_cons_succ, List.getElem_toArray, List.getElem_cons_zero, List.getElem_cons_succ]
            refine wpAnyH_take (i := 27) (v := ?_) rfl (by kernel_rfl) (by kernel_rfl) (by kernel_rfl) (fun _ _ _ h => h) (Or.inl ⟨by rfl, ?_⟩) hH ?_
            rotate_left
            · (intro v hSw; go_simp; try with_reducible rfl)
            simp only [Act.put, List.setIfInBounds_toArray, List.set_cons_zero, List.set_cons_succ, List.getElem_toArray, List.getElem_cons_zero, List.getElem_cons_succ]
            refine wpAnyH_take (i := 28) (v := ?_) rfl (by kernel_rfl) (by kernel_rfl) (by kernel_rfl) (fun _ _ _ h => h) (Or.inl ⟨by rfl, ?_⟩) hH ?_
            rotate_left
            · (intro v hSw; go_simp; try with_reducible rfl)
            simp only [Act.put, List.setIfInBounds_toArray, List.set_cons_zero, List.set_cons_succ, List.getElem_toArray, List.getElem_cons_zero, List.getElem_cons_succ]
            refine wpAnyH_take (i := 29) (v := ?_) rfl (by kernel_rfl) (by kernel_rfl) (by kernel_rfl) (fun _ _ _ h => h) (Or.inl ⟨by rfl, ?_⟩) hH ?_
            rotate_left
            · (intro v hSw; go_simp; try with_reducible rfl)
            simp only [Act.put, List.setIfInBounds_toArray, List.set_cons_zero, List.set_cons_succ, List.getElem_toArray, List.getElem_cons_zero, List.getElem_cons_succ]
            refine wpAnyH_done (by kernel_rfl) ?_ _
            go_wp2_with fail
            go_ret
            exact ⟨rfl, ext HWZ.out hH⟩
      · have hlb : ((k : Int) == (l.length : Int) - 1) = false := by rw [beq_eq_false_iff_ne]; omega
        have hF : (0 : Int) < 9223372036854775808 := by decide
        go_upto_region 18 with fail
        have xx := Box.new wr [.slice A S.length n, .slice B 0 m, .int .i64 0, .bool false] 25
        have hrw := below1 (w := wr) (o := .cells #[.slice A S.length n, .slice B 0 m, .int .i64 0, .bool false] 25)
        generalize wr.alloc (.cells #[.slice A S.length n, .slice B 0 m, .int .i64 0, .bool false] 25) = W at *
        have XX := Lib.hid xx
        have HRW := Lib.hid hrw
        have HMW := Lib.hid (HM.out.up hrw)
        have HWW := Lib.hid (ext HBr.out hrw)
        clear xx hrw kx ky
        cases hgood : (((k0 + 2 : Nat) : Int) - 2 == b.n) && b.right with
        | false =>
          rw [← HSL.out] at hgood
          have hcb := commit_bad (S := S) 0 hgood
          have hc : ∀ v, Below W.heap.size W v → Calls Tryd.prog 10 #[.agg #[.slice A S.length n, .slice B 0 m, .int .i64 0, .bool false], supV b] v (GivesD S [] 0 false 1 v) := by
            intro v hv
            have := commit_any A B n m S [] 0 false b v (HMW.out.up hv) HBW.out HS1.out HS64.out (by simp) hF rfl
            rw [hcb] at this
            exact this
          have HC := Lib.hid hc
          clear hc hcb
          go_upto_region 18 with fail
          go_cut [12, 13] from 51 to 158 (fun yp fv wx => ∃ (yb : Nat) (A2 B2 : Option Addr) (n2 m2 : Nat), yp = .pointer (some ⟨yb, 0, none⟩) ∧ fv = .int .i64 1 ∧ Hid (Box wx yb [.slice A2 S.length n2, .slice B2 0 m2, .int .i64 0, .bool false]) ∧ Hid (Mem wx A2 n2 B2 m2 S []) ∧ Hid (Below W.heap.size W wx) ∧ Hid (W.heap.size ≤ yb))
          case first =>
            refine held_start (S := fun v => Below W.heap.size W v) (by kernel_rfl) (Below.refl _ _).drew (fun v0 _ hH => ?_)
            refine wpAnyH_take (i := 0) (v := ?_) rfl (by kernel_rfl) (by kernel_rfl) (by kernel_rfl) (fun _ _ _ h => h) (Or.inl ⟨by rfl, ?_⟩) hH ?_
            rotate_left
            · (intro v hSw; have k := (XX.out.below hSw).cell; go_simp; try with_reducible rfl)
            simp only [Act.put, List.setIfInBounds_toArray, List.set_cons_zero, List.set_cons_succ, List.getElem_toArray, List.getElem_cons_zero]
            refine wpAnyH_take (i := 1) (v := ?_) rfl (by kernel_rfl) (by kernel_rfl) (by kernel_rfl) (fun _ _ _ h => h) (Or.inl ⟨by rfl, ?_⟩) hH ?_
            rotate_left
            · (intro v hSw; go_simp; try with_reducible rfl)
            simp only [Act.put, List.setIfInBounds_toArray, List.set_cons_zero, List.set_cons_succ, List.getElem_toArray, List.getElem_cons_zero, List.getElem_cons_succ]
            refine wpAnyH_take (i := 2) (v := ?_) rfl (by kernel_rfl) (by kernel_rfl) (by kernel_rfl) (fun _ _ _ h => h) (Or.inl ⟨by rfl, ?_⟩) hH ?_
            rotate_left
            · (intro v hSw; go_simp; try with_reducible rfl)
            simp only [Act.put, List.setIfInBounds_toArray, List.set_cons_zero, List.set_cons_succ, List.getElem_toArray, List.getElem_cons_zero, List.getElem_cons_succ]
            refine wpAnyH_take (i := 3) (v := ?_) rfl (by kernel_rfl) (by kernel_rfl) (by kernel_rfl) (fun _ _ _ h => h) (Or.inl ⟨by rfl, ?_⟩) hH ?_
            rotate_left
            · (intro v hSw; go_simp; try with_reducible rfl)
            simp only [Act.put, List.setIfInBounds_toArray, List.set_cons_zero, List.set_cons_succ, List.getElem_toArray, List.getElem_cons_zero, List.getElem_cons_succ]
            refine wpAnyH_take (i := 4) (v := ?_) rfl (by kernel_rfl) (by kernel_rfl) (by kernel_rfl) (fun _ _ _ h => h) (Or.inl ⟨by rfl, ?_⟩) hH ?_
            rotate_left
            · (intro v hSw; have q := HE.out v (ext HWW.out hSw); have c0 := q.c0; have c1 := q.c1; have c2 := q.c2; have c3 := q.c3; have c4 := q.c4; have c5 := q.c5; have c6 := q.c6; have c7 := q.c7; go_simp; try with_reducible rfl)
            simp only [Act.put, List.setIfInBounds_toArray, List.set_cons_zero, List.set_cons_succ, List.getElem_toArray, List.getElem_cons_zero, List.getElem_cons_succ]
            refine wpAnyH_ready (rs := [5, 9]) (by kernel_rfl) (by simp) ?_
            refine AllReadyH.cons rfl (fun K hK => ?_) ?_
            · go_simp
              refine (HC.out _ hH).mono ?_
              rintro e v1 ⟨A2, B2, n2, m2, rfl, hm2, hb⟩
              have HM2 := Lib.hid hm2
              clear hm2
              go_wp2_with fail
              refine hK.out _ _ (ext hH hb) (fun hH1 => ?_)
              clear hK K hH hb
              refine wpAnyH_take (i := 6) (v := ?_) rfl (by kernel_rfl) (by kernel_rfl) (by kernel_rfl) (fun _ _ _ h => h) (Or.inl ⟨by rfl, ?_⟩) hH1 ?_
              rotate_left
              · (intro v hSw; go_simp; try with_reducible rfl)
              simp only [Act.put, List.setIfInBounds_toArray, List.set_cons_zero, List.set_cons_succ, List.getElem_toArray, List.getElem_cons_zero, List.getElem_cons_succ]
              refine wpAnyH_take (i := 7) (v := ?_) rfl (by kernel_rfl) (by kernel_rfl) (by kernel_rfl) (fun _ _ _ h => h) (Or.inl ⟨by rfl, ?_⟩) hH1 ?_
              rotate_left
              · (intro v hSw; go_simp; try with_reducible rfl)
              simp only [Act.put, List.setIfInBounds_toArray, List.set_cons_zero, List.set_cons_succ, List.getElem_toArray, List.getElem_cons_zero, List.getElem_cons_succ]
              refine wpAnyH_take (i := 8) (v := ?_) rfl (by kernel_rfl) (by kernel_rfl) (by kernel_rfl) (fun _ _ _ h => h) (Or.inl ⟨by rfl, ?_⟩) hH1 ?_
              rotate_left
              · (intro v hSw; go_simp; try with_reducible rfl)
              simp only [Act.put, List.setIfInBounds_toArray, List.set_cons_zero, List.set_cons_succ, List.getElem_toArray, List.getElem_cons_zero, List.getElem_cons_succ]
              refine wpAnyH_ready (rs := [9]) (by kernel_rfl) (by simp) ?_
              refine AllReadyH.cons rfl (fun K hK => ?_) AllReadyH.nil
              go_simp
              refine hK.out _ _ (ext_alloc hH1 _) (fun hH2 => ?_)
              clear hK K
              refine wpAnyH_ready (rs := [10]) (by kernel_rfl) (by simp) ?_
              refine AllReadyH.cons rfl (fun K hK => ?_) AllReadyH.nil
              go_simp
              refine hK.out _ _ (ext_alloc hH1 _) (fun hH3 => ?_)
              clear hK K
              refine wpAnyH_take (i := 11) (v := ?_) rfl (by kernel_rfl) (by kernel_rfl) (by kernel_rfl) (fun _ _ _ h => h) (Or.inl ⟨by rfl, ?_⟩) hH3 ?_
              rotate_left
              · (intro v hSw; go_simp; try with_reducible rfl)
              simp only [Act.put, List.setIfInBounds_toArray, List.set_cons_zero, List.set_cons_succ, List.getElem_toArray, List.getElem_cons_zero, List.getElem_cons_succ]
              refine wpAnyH_done (by kernel_rfl) ?_ _
              go_wp2_with fail
              go_meet
              exact ⟨v1.heap.size, A2, B2, n2, m2, rfl, rfl, Box.new v1 _ _, HM2.out.up below1, hH3, hH1.size⟩
            refine AllReadyH.cons rfl (fun K hK => ?_) AllReadyH.nil
            go_simp
            refine hK.out _ _ (ext_alloc hH _) (fun hH1 => ?_)
            clear hK K
            refine wpAnyH_ready (rs := [5]) (by kernel_rfl) (by simp) ?_
            refine AllReadyH.cons rfl (fun K hK => ?_) AllReadyH.nil
            go_simp
            refine (HC.out _ hH1).mono ?_
            rintro e v1 ⟨A2, B2, n2, m2, rfl, hm2, hb⟩
            have HM2 := Lib.hid hm2
            clear hm2
            have bz := (Box.new v0 [.slice none 0 0, .slice none 0 0, .int .i64 0, .bool false] 25).below hb
            go_wp2_with fail
            refine hK.out _ _ (ext hH1 hb) (fun hH2 => ?_)
            clear hK K hb
            refine wpAnyH_take (i := 6) (v := ?_) rfl (by kernel_rfl) (by kernel_rfl) (by kernel_rfl) (fun _ _ _ h => h) (Or.inl ⟨by rfl, ?_⟩) hH2 ?_
            rotate_left
            · (intro v hSw; go_simp; try with_reducible rfl)
            simp only [Act.put, List.setIfInBounds_toArray, List.set_cons_zero, List.set_cons_succ, List.getElem_toArray, List.getElem_cons_zero, List.getElem_cons_succ]
            refine wpAnyH_take (i := 7) (v := ?_) rfl (by kernel_rfl) (by kernel_rfl) (by kernel_rfl) (fun _ _ _ h => h) (Or.inl ⟨by rfl, ?_⟩) hH2 ?_
            rotate_left
            · (intro v hSw; go_simp; try with_reducible rfl)
            simp only [Act.put, List.setIfInBounds_toArray, List.set_cons_zero, List.set_cons_succ, List.getElem_toArray, List.getElem_cons_zero, List.getElem_cons_succ]
            refine wpAnyH_take (i := 8) (v := ?_) rfl (by kernel_rfl) (by kernel_rfl) (by kernel_rfl) (fun _ _ _ h => h) (Or.inl ⟨by rfl, ?_⟩) hH2 ?_
            rotate_left
            · (intro v hSw; go_simp; try with_reducible rfl)
            simp only [Act.put, List.setIfInBounds_toArray, List.set_cons_zero, List.set_cons_succ, List.getElem_toArray, List.getElem_cons_zero, List.getElem_cons_succ]
            refine wpAnyH_ready (rs := [10]) (by kernel_rfl) (by simp) ?_
            refine AllReadyH.cons rfl (fun K hK => ?_) AllReadyH.nil
            have kx := bz.cell
            have fx := bz.frozen
            go_simp
            refine hK.out _ _ (below4 hH2 hH.size _ _ _ _) (fun hH3 => ?_)
            clear hK K kx fx
            refine wpAnyH_take (i := 11) (v := ?_) rfl (by kernel_rfl) (by kernel_rfl) (by kernel_rfl) (fun _ _ _ h => h) (Or.inl ⟨by rfl, ?_⟩) hH3 ?_
            rotate_left
            · (intro v hSw; go_simp; try with_reducible rfl)
            simp only [Act.put, List.setIfInBounds_toArray, List.set_cons_zero, List.set_cons_succ, List.getElem_toArray, List.getElem_cons_zero, List.getElem_cons_succ]
            refine wpAnyH_done (by kernel_rfl) ?_ _
            go_wp2_with fail
            go_meet
            exact ⟨v0.heap.size, A2, B2, n2, m2, rfl, rfl, bz.four _ _ _ _, HM2.out.four bz _ _ _ _ _ _ _ _, hH3, hH.size⟩
          case rest =>
          obtain ⟨yb, A2, B2, n2, m2, rfl, rfl, HY, HMY, HWX, HYB⟩ := hcut
          have kx := (XX.out.below HWX.out).cell
          have ky := HY.out.cell
          have hsm := rsame_any A B A2 B2 n m n2 m2 S S [] [] 0 0 false false wc (HMW.out.up HWX.out).es (HMW.out.up HWX.out).ws HMY.out.es HMY.out.ws (by have := HS64.out; unfold maxLen; omega) (by unfold maxLen; simp)
          rw [same_is rfl rfl rfl rfl] at hsm
          have HSM := Lib.hid hsm
          clear hsm
          go_wp2_with fail
          refine HSM.out.mono ?_
          rintro e w9 ⟨rfl, hb⟩
          have hB9 := ext (ext HRW.out HWX.out) hb
          have HB9 := Lib.hid hB9
          clear hB9 hb kx ky
          go_wp2_with fail
          go_roundg (l.length - (k + 1))
          case measure => omega
          case rel => exact ⟨k + 1, p, S, A, B, n, m, rfl, by omega, by go_num, Nat.le_succ_of_le HPK.out, own_up HO.out HB9.out, HX.out.below HB9.out, HM.out.up HB9.out, HGD.out, ext HBr.out HB9.out⟩
        | true =>
          obtain ⟨hn, hr⟩ := Bool.and_eq_true_iff.1 hgood
          have hgm := good_more HGD.out (by omega) HBW.out hr hn
          have hcf : ∀ v, Below W.heap.size W v → Calls Tryd.prog 10 #[.agg #[.slice A S.length n, .slice B 0 m, .int .i64 0, .bool false], supV b] v (GivesN (layL S [(0, b.bytes)]) 0 false 0 v) := fun v hv => commit_fresh A B n m S b v (HMW.out.up hv) HBW.out HS1.out HS64.out hr (by rw [HSL.out]; exact hn)
          have hld := load_of (S := layL S [(0, b.bytes)]) (N := k0 + 2) (by rw [lay_length]; exact HSL.out) HBW.out hr hn
          have hlf := lay_first S b.bytes HS1.out
          have hll : (layL S [(0, b.bytes)]).length ≤ 64 := by rw [lay_length]; exact HS64.out
          have hbz : ((holdsL [] 0 b.bytes).size : Int) ≤ 3000 := by rw [holds_nil, bytes_size]; decide
          generalize layL S [(0, b.bytes)] = T at *
          have hlo : ∀ (A2 B2 : Option Addr) (n2 m2 : Nat) v, Mem v A2 n2 B2 m2 T [] → Glob v a → Calls Tryd.prog 8 #[.agg #[.slice A2 T.length n2, .slice B2 0 m2, .int .i64 0, .bool false]] v fun e v' => e = .returned (.tuple #[.agg #[.int .i64 b.n, .int .u64 b.c, .int .u64 b.b, .int .u64 b.o, .int .u64 b.p, .bool b.i, .bool b.r, .bool b.d], .int .i64 0]) ∧ Below v.heap.size v v' := by
            intro A2 B2 n2 m2 v hm hg
            have := load_any A2 B2 n2 m2 T [] 0 false b.bytes a v hm hlf hll (by simp) hbz hg
            rw [hld] at this
            exact this
          have HC := Lib.hid hcf
          have HLO := Lib.hid hlo
          have HGM := Lib.hid hgm
          clear hcf hlo hgm hld hlf hll hbz hgood hr hn
          go_upto_region 18 with fail
          go_cut [12, 13] from 51 to 158 (fun yp fv wx => ∃ (yb : Nat) (A2 B2 : Option Addr) (n2 m2 : Nat), yp = .pointer (some ⟨yb, 0, none⟩) ∧ fv = .int .i64 0 ∧ Hid (Box wx yb [.slice A2 T.length n2, .slice B2 0 m2, .int .i64 0, .bool false]) ∧ Hid (Mem wx A2 n2 B2 m2 T []) ∧ Hid (Below W.heap.size W wx) ∧ Hid (W.heap.size ≤ yb) ∧ Hid (∀ a, A2 = some a → W.heap.size ≤ a.block))
          case first =>
            refine held_start (S := fun v => Below W.heap.size W v) (by kernel_rfl) (Below.refl _ _).drew (fun v0 _ hH => ?_)
            refine wpAnyH_take (i := 0) (v := ?_) rfl (by kernel_rfl) (by kernel_rfl) (by kernel_rfl) (fun _ _ _ h => h) (Or.inl ⟨by rfl, ?_⟩) hH ?_
            rotate_left
            · (intro v hSw; have k := (XX.out.below hSw).cell; go_simp; try with_reducible rfl)
            simp only [Act.put, List.setIfInBounds_toArray, List.set_cons_zero, List.set_cons_succ, List.getElem_toArray, List.getElem_cons_zero]
            refine wpAnyH_take (i := 1) (v := ?_) rfl (by kernel_rfl) (by kernel_rfl) (by kernel_rfl) (fun _ _ _ h => h) (Or.inl ⟨by rfl, ?_⟩) hH ?_
            rotate_left
            · (intro v hSw; go_simp; try with_reducible rfl)
            simp only [Act.put, List.setIfInBounds_toArray, List.set_cons_zero, List.set_cons_succ, List.getElem_toArray, List.getElem_cons_zero, List.getElem_cons_succ]
            refine wpAnyH_take (i := 2) (v := ?_) rfl (by kernel_rfl) (by kernel_rfl) (by kernel_rfl) (fun _ _ _ h => h) (Or.inl ⟨by rfl, ?_⟩) hH ?_
            rotate_left
            · (intro v hSw; go_simp; try with_reducible rfl)
            simp only [Act.put, List.setIfInBounds_toArray, List.set_cons_zero, List.set_cons_succ, List.getElem_toArray, List.getElem_cons_zero, List.getElem_cons_succ]
            refine wpAnyH_take (i := 3) (v := ?_) rfl (by kernel_rfl) (by kernel_rfl) (by kernel_rfl) (fun _ _ _ h => h) (Or.inl ⟨by rfl, ?_⟩) hH ?_
            rotate_left
            · (intro v hSw; go_simp; try with_reducible rfl)
            simp only [Act.put, List.setIfInBounds_toArray, List.set_cons_zero, List.set_cons_succ, List.getElem_toArray, List.getElem_cons_zero, List.getElem_cons_succ]
            refine wpAnyH_take (i := 4) (v := ?_) rfl (by kernel_rfl) (by kernel_rfl) (by kernel_rfl) (fun _ _ _ h => h) (Or.inl ⟨by rfl, ?_⟩) hH ?_
            rotate_left
            · (intro v hSw; have q := HE.out v (ext HWW.out hSw); have c0 := q.c0; have c1 := q.c1; have c2 := q.c2; have c3 := q.c3; have c4 := q.c4; have c5 := q.c5; have c6 := q.c6; have c7 := q.c7; go_simp; try with_reducible rfl)
            simp only [Act.put, List.setIfInBounds_toArray, List.set_cons_zero, List.set_cons_succ, List.getElem_toArray, List.getElem_cons_zero, List.getElem_cons_succ]
            refine wpAnyH_ready (rs := [5, 9]) (by kernel_rfl) (by simp) ?_
            refine AllReadyH.cons rfl (fun K hK => ?_) ?_
            · go_simp
              refine (HC.out _ hH).mono ?_
              rintro e v1 ⟨A2, B2, n2, m2, rfl, hm2, hb, hnew, rfl⟩
              have HM2 := Lib.hid hm2
              clear hm2
              have HNW := Lib.hid hnew
              clear hnew
              have HSZ := Lib.hid hH.size
              go_wp2_with fail
              refine hK.out _ _ (ext hH hb) (fun hH1 => ?_)
              clear hK K hH hb
              refine wpAnyH_take (i := 6) (v := ?_) rfl (by kernel_rfl) (by kernel_rfl) (by kernel_rfl) (fun _ _ _ h => h) (Or.inl ⟨by rfl, ?_⟩) hH1 ?_
              rotate_left
              · (intro v hSw; go_simp; try with_reducible rfl)
              simp only [Act.put, List.setIfInBounds_toArray, List.set_cons_zero, List.set_cons_succ, List.getElem_toArray, List.getElem_cons_zero, List.getElem_cons_succ]
              refine wpAnyH_take (i := 7) (v := ?_) rfl (by kernel_rfl) (by kernel_rfl) (by kernel_rfl) (fun _ _ _ h => h) (Or.inl ⟨by rfl, ?_⟩) hH1 ?_
              rotate_left
              · (intro v hSw; go_simp; try with_reducible rfl)
              simp only [Act.put, List.setIfInBounds_toArray, List.set_cons_zero, List.set_cons_succ, List.getElem_toArray, List.getElem_cons_zero, List.getElem_cons_succ]
              refine wpAnyH_take (i := 8) (v := ?_) rfl (by kernel_rfl) (by kernel_rfl) (by kernel_rfl) (fun _ _ _ h => h) (Or.inl ⟨by rfl, ?_⟩) hH1 ?_
              rotate_left
              · (intro v hSw; go_simp; try with_reducible rfl)
              simp only [Act.put, List.setIfInBounds_toArray, List.set_cons_zero, List.set_cons_succ, List.getElem_toArray, List.getElem_cons_zero, List.getElem_cons_succ]
              refine wpAnyH_ready (rs := [9]) (by kernel_rfl) (by simp) ?_
              refine AllReadyH.cons rfl (fun K hK => ?_) AllReadyH.nil
              go_simp
              refine hK.out _ _ (ext_alloc hH1 _) (fun hH2 => ?_)
              clear hK K
              refine wpAnyH_ready (rs := [10]) (by kernel_rfl) (by simp) ?_
              refine AllReadyH.cons rfl (fun K hK => ?_) AllReadyH.nil
              go_simp
              refine hK.out _ _ (ext_alloc hH1 _) (fun hH3 => ?_)
              clear hK K
              refine wpAnyH_take (i := 11) (v := ?_) rfl (by kernel_rfl) (by kernel_rfl) (by kernel_rfl) (fun _ _ _ h => h) (Or.inl ⟨by rfl, ?_⟩) hH3 ?_
              rotate_left
              · (intro v hSw; go_simp; try with_reducible rfl)
              simp only [Act.put, List.setIfInBounds_toArray, List.set_cons_zero, List.set_cons_succ, List.getElem_toArray, List.getElem_cons_zero, List.getElem_cons_succ]
              refine wpAnyH_done (by kernel_rfl) ?_ _
              go_wp2_with fail
              go_meet
              exact ⟨v1.heap.size, A2, none, n2, m2, rfl, rfl, Box.new v1 _ _, HM2.out.up below1, hH3, hH1.size, fun a q => by have := HNW.out a q; have := HSZ.out; omega⟩
            refine AllReadyH.cons rfl (fun K hK => ?_) AllReadyH.nil
            go_simp
            refine hK.out _ _ (ext_alloc hH _) (fun hH1 => ?_)
            clear hK K
            refine wpAnyH_ready (rs := [5]) (by kernel_rfl) (by simp) ?_
            refine AllReadyH.cons rfl (fun K hK => ?_) AllReadyH.nil
            go_simp
            refine (HC.out _ hH1).mono ?_
            rintro e v1 ⟨A2, B2, n2, m2, rfl, hm2, hb, hnew, rfl⟩
            have HM2 := Lib.hid hm2
            clear hm2
            have HNW := Lib.hid hnew
            clear hnew
            have HSZ := Lib.hid hH1.size
            have bz := (Box.new v0 [.slice none 0 0, .slice none 0 0, .int .i64 0, .bool false] 25).below hb
            go_wp2_with fail
            refine hK.out _ _ (ext hH1 hb) (fun hH2 => ?_)
            clear hK K hb
            refine wpAnyH_take (i := 6) (v := ?_) rfl (by kernel_rfl) (by kernel_rfl) (by kernel_rfl) (fun _ _ _ h => h) (Or.inl ⟨by rfl, ?_⟩) hH2 ?_
            rotate_left
            · (intro v hSw; go_simp; try with_reducible rfl)
            simp only [Act.put, List.setIfInBounds_toArray, List.set_cons_zero, List.set_cons_succ, List.getElem_toArray, List.getElem_cons_zero, List.getElem_cons_succ]
            refine wpAnyH_take (i := 7) (v := ?_) rfl (by kernel_rfl) (by kernel_rfl) (by kernel_rfl) (fun _ _ _ h => h) (Or.inl ⟨by rfl, ?_⟩) hH2 ?_
            rotate_left
            · (intro v hSw; go_simp; try with_reducible rfl)
            simp only [Act.put, List.setIfInBounds_toArray, List.set_cons_zero, List.set_cons_succ, List.getElem_toArray, List.getElem_cons_zero, List.getElem_cons_succ]
            refine wpAnyH_take (i := 8) (v := ?_) rfl (by kernel_rfl) (by kernel_rfl) (by kernel_rfl) (fun _ _ _ h => h) (Or.inl ⟨by rfl, ?_⟩) hH2 ?_
            rotate_left
            · (intro v hSw; go_simp; try with_reducible rfl)
            simp only [Act.put, List.setIfInBounds_toArray, List.set_cons_zero, List.set_cons_succ, List.getElem_toArray, List.getElem_cons_zero, List.getElem_cons_succ]
            refine wpAnyH_ready (rs := [10]) (by kernel_rfl) (by simp) ?_
            refine AllReadyH.cons rfl (fun K hK => ?_) AllReadyH.nil
            have kx := bz.cell
            have fx := bz.frozen
            go_simp
            refine hK.out _ _ (below4 hH2 hH.size _ _ _ _) (fun hH3 => ?_)
            clear hK K kx fx
            refine wpAnyH_take (i := 11) (v := ?_) rfl (by kernel_rfl) (by kernel_rfl) (by kernel_rfl) (fun _ _ _ h => h) (Or.inl ⟨by rfl, ?_⟩) hH3 ?_
            rotate_left
            · (intro v hSw; go_simp; try with_reducible rfl)
            simp only [Act.put, List.setIfInBounds_toArray, List.set_cons_zero, List.set_cons_succ, List.getElem_toArray, List.getElem_cons_zero, List.getElem_cons_succ]
            refine wpAnyH_done (by kernel_rfl) ?_ _
            go_wp2_with fail
            go_meet
            exact ⟨v0.heap.size, A2, none, n2, m2, rfl, rfl, bz.four _ _ _ _, HM2.out.four bz _ _ _ _ _ _ _ _, hH3, hH.size, fun a q => by have := HNW.out a q; have := HSZ.out; omega⟩
          case rest =>
          obtain ⟨yb, A2, B2, n2, m2, rfl, rfl, HY, HMY, HWX, HYB, HNW⟩ := hcut
          have ky := HY.out.cell
          go_wp2_with fail
          refine (HLO.out A2 B2 n2 m2 _ HMY.out (HG.out.up (ext HWW.out HWX.out))).mono ?_
          rintro e w9 ⟨rfl, hb⟩
          have hB9 := ext_alloc (ext HWX.out hb) (.cells #[.int .i64 b.n, .int .u64 b.c, .int .u64 b.b, .int .u64 b.o, .int .u64 b.p, .bool b.i, .bool b.r, .bool b.d] 31)
          have hy9 := (HY.out.below hb).alloc (.cells #[.int .i64 b.n, .int .u64 b.c, .int .u64 b.b, .int .u64 b.o, .int .u64 b.p, .bool b.i, .bool b.r, .bool b.d] 31)
          have hm9 := (HMY.out.up hb).up (below1 (o := .cells #[.int .i64 b.n, .int .u64 b.c, .int .u64 b.b, .int .u64 b.o, .int .u64 b.p, .bool b.i, .bool b.r, .bool b.d] 31))
          have q := HE.out _ (ext HWW.out hB9)
          have c0 := q.c0
          have c1 := q.c1
          have c2 := q.c2
          have c3 := q.c3
          have c4 := q.c4
          have c5 := q.c5
          have c6 := q.c6
          have c7 := q.c7
          clear q ky hb
          have HB9 := Lib.hid hB9
          have HY9 := Lib.hid hy9
          have HM9 := Lib.hid hm9
          clear hB9 hy9 hm9
          go_upto_region 30 with fail
          go_quiet (fail)
          clear c0 c1 c2 c3 c4 c5 c6 c7
          go_upto_region 32 with fail
          have hbz := below_drewN HB9.out nq
          have hyz := HY9.out.below (below_drewN (Below.refl _ _) nq)
          have hmz := HM9.out.up (below_drewN (Below.refl _ _) nq)
          generalize (w9.alloc (.cells #[.int .i64 b.n, .int .u64 b.c, .int .u64 b.b, .int .u64 b.o, .int .u64 b.p, .bool b.i, .bool b.r, .bool b.d] 31)).drewN nq = Z at *
          have HBZ := Lib.hid hbz
          have HYZ := Lib.hid hyz
          have HMZ := Lib.hid hmz
          clear hbz hyz hmz HB9 HY9 HM9 HMY HY HWX
          refine held_start (S := fun v => Below w.heap.size w v ∧ Box v yb [.slice A2 T.length n2, .slice B2 0 m2, .int .i64 0, .bool false]) (by kernel_rfl) ⟨(ext HWW.out HBZ.out).drew, HYZ.out.below (Below.refl _ _).drew⟩ (fun v0 hv hH => ?_)
          have HV := Lib.hid hv
          have HB0 := Lib.hid (ext HBZ.out hv)
          clear hv
          refine wpAnyH_take (i := 0) (v := ?_) rfl (by kernel_rfl) (by kernel_rfl) (by kernel_rfl) (fun _ _ _ h => h) (Or.inl ⟨by rfl, ?_⟩) hH ?_
          rotate_left
          · (intro v hSw; have k := hSw.2.cell; go_simp; try with_reducible rfl)
          simp only [Act.put, List.setIfInBounds_toArray, List.set_cons_zero, List.set_cons_succ, List.getElem_toArray, List.getElem_cons_zero]
          refine wpAnyH_take (i := 1) (v := ?_) rfl (by kernel_rfl) (by kernel_rfl) (by kernel_rfl) (fun _ _ _ h => h) (Or.inl ⟨by rfl, ?_⟩) hH ?_
          rotate_left
          · (intro v hSw; go_simp; try with_reducible rfl)
          simp only [Act.put, List.setIfInBounds_toArray, List.set_cons_zero, List.set_cons_succ, List.getElem_toArray, List.getElem_cons_zero, List.getElem_cons_succ]
          refine wpAnyH_take (i := 2) (v := ?_) rfl (by kernel_rfl) (by kernel_rfl) (by kernel_rfl) (fun _ _ _ h => h) (Or.inl ⟨by rfl, ?_⟩) hH ?_
          rotate_left
          · (intro v hSw; go_simp; try with_reducible rfl)
          simp only [Act.put, List.setIfInBounds_toArray, List.set_cons_zero, List.set_cons_succ, List.getElem_toArray, List.getElem_cons_zero, List.getElem_cons_succ]
          refine wpAnyH_take (i := 3) (v := ?_) rfl (by kernel_rfl) (by kernel_rfl) (by kernel_rfl) (fun _ _ _ h => h) (Or.inl ⟨by rfl, ?_⟩) hH ?_
          rotate_left
          · (intro v hSw; go_simp; try with_reducible rfl)
          simp only [Act.put, List.setIfInBounds_toArray, List.set_cons_zero, List.set_cons_succ, List.getElem_toArray, List.getElem_cons_zero, List.getElem_cons_succ]
          refine wpAnyH_take (i := 4) (v := ?_) rfl (by kernel_rfl) (by kernel_rfl) (by kernel_rfl) (fun _ _ _ h => h) (Or.inl ⟨by rfl, ?_⟩) hH ?_
          rotate_left
          · (intro v hSw; go_simp; try with_reducible rfl)
          simp only [Act.put, List.setIfInBounds_toArray, List.set_cons_zero, List.set_cons_succ, List.getElem_toArray, List.getElem_cons_zero, List.getElem_cons_succ]
          refine wpAnyH_take (i := 5) (v := ?_) rfl (by kernel_rfl) (by kernel_rfl) (by kernel_rfl) (fun _ _ _ h => h) (Or.inl ⟨by rfl, ?_⟩) hH ?_
          rotate_left
          · (intro v hSw; have q := HE.out v hSw.1; have c0 := q.c0; have c1 := q.c1; have c2 := q.c2; have c3 := q.c3; have c4 := q.c4; have c5 := q.c5; have c6 := q.c6; have c7 := q.c7; go_simp; try with_reducible rfl)
          simp only [Act.put, List.setIfInBounds_toArray, List.set_cons_zero, List.set_cons_succ, List.getElem_toArray, List.getElem_cons_zero, List.getElem_cons_succ]
          refine wpAnyH_ready (rs := [6]) (by kernel_rfl) (by simp) ?_
          refine AllReadyH.cons rfl (fun K hK => ?_) AllReadyH.nil
          go_simp
          refine hK.out _ _ ⟨ext_alloc hH.1 _, hH.2.alloc _⟩ (fun hH1 => ?_)
          clear hK K
          refine wpAnyH_ready (rs := [7]) (by kernel_rfl) (by simp) ?_
          refine AllReadyH.cons rfl (fun K hK => ?_) AllReadyH.nil
          refine Eq.mpr (if_pos (by rfl)) ?_
          have hrow := own_up HO.out (ext_alloc (ext HRW.out HB0.out) (.cells #[.int .i64 b.n, .int .u64 b.c, .int .u64 b.b, .int .u64 b.o, .int .u64 b.p, .bool b.i, .bool b.r, .bool b.d] 31))
          have HLOW := Lib.hid (own_block_lt HO.out)
          have HWS := Lib.hid HRW.out.size
          obtain ⟨i0, hi, hz0, hz1, hz2⟩ := info_parts info31
          refine wp_append_own _ (Operand.tmp 152) (Operand.tmp 157) 41 rfl (bd + 1) 31 i0 (supV Sup.zero) 8 48 Tryd.underlying41 hi hz0 hz1 hz2 rfl (by decide) _ p.length (rowS p) rfl hrow ⟨v0.heap.size, 0, none⟩ 1 1 (supC b) rfl rfl (cell_new8 v0 (supC b) _) (fun u hu => rowS_one [b] u (by simpa [rowS] using hu)) (by have := HPK.out; unfold maxLen; omega) (by have := HPK.out; omega) (by have := HX.out.lt; have := (ext HRW.out HB0.out).size; simp; omega) (fun v' w' hown hgrow _ => ?_)
          have hb2 := Below.grown hH1.1 hgrow hH1.1.size (fun g q => by have := HLOW.out g q; have := HBD.out; omega)
          have hy2 := hH1.2.grown hgrow (fun q => by have := HLOW.out yb q; have := HWS.out; have := HYB.out; omega)
          have hx2 := ((HX.out.below (ext HRW.out HB0.out)).alloc (.cells #[.int .i64 b.n, .int .u64 b.c, .int .u64 b.b, .int .u64 b.o, .int .u64 b.p, .bool b.i, .bool b.r, .bool b.d] 31)).grown hgrow (fun q => by have := HLOW.out bd q; omega)
          have he2 := ((HMZ.out.up HV.out).up (below1 (o := (.cells #[.int .i64 b.n, .int .u64 b.c, .int .u64 b.b, .int .u64 b.o, .int .u64 b.p, .bool b.i, .bool b.r, .bool b.d] 31)))).es.grown hgrow (fun a' q r => by have := HLOW.out a'.block r; have := HWS.out; have := HNW.out a' q; omega)
          have hown2 : w'.ownsRow (bd + 1) 31 8 v' (p ++ [b]).length (rowS (p ++ [b])) := by
            rw [rowS_append, List.length_append]
            exact hown
          have hm2 : Mem w' A2 n2 B2 m2 T [] := ⟨he2, ws_nil _ _ _, HMZ.out.an, HMZ.out.bn⟩
          have HX2 := Lib.hid hx2
          have HM2 := Lib.hid hm2
          have HO2 := Lib.hid hown2
          clear hx2 hm2 hown2 he2 hown hgrow hrow hi hz0 hz1 hz2
          refine hK.out _ _ ⟨hb2, hy2⟩ (fun hH2 => ?_)
          clear hK K hH1 hH hb2 hy2
          simp only [Act.put, List.setIfInBounds_toArray, List.set_cons_zero, List.set_cons_succ, List.getElem_toArray, List.getElem_cons_zero, List.getElem_cons_succ]
          refine wpAnyH_ready (rs := [8]) (by kernel_rfl) (by simp) ?_
          refine AllReadyH.cons rfl (fun K hK => ?_) AllReadyH.nil
          have kx := HX2.out.cell
          have fx := HX2.out.frozen
          go_simp
          refine hK.out _ _ ⟨below4 hH2.1 HBD.out _ _ _ _, hH2.2.past4 (by have := HX.out.lt; have := HWS.out; have := HYB.out; omega) _ _ _ _⟩ (fun hH3 => ?_)
          clear hK K kx fx
          refine wpAnyH_take (i := 9) (v := ?_) rfl (by kernel_rfl) (by kernel_rfl) (by kernel_rfl) (fun _ _ _ h => h) (Or.inl ⟨by rfl, ?_⟩) hH3 ?_
          rotate_left
          · (intro v hSw; go_simp; try with_reducible rfl)
          simp only [Act.put, List.setIfInBounds_toArray, List.set_cons_zero, List.set_cons_succ, List.getElem_toArray, List.getElem_cons_zero, List.getElem_cons_succ]
          refine wpAnyH_done (by kernel_rfl) ?_ _
          go_wp2_with fail
          go_roundg (l.length - (k + 1))
          case measure => omega
          case rel => exact ⟨k + 1, p ++ [b], T, A2, B2, n2, m2, rfl, by omega, by go_num, by have := HPK.out; simp; omega, own4 HO2.out (Nat.lt_succ_self _) _ _ _ _, HX2.out.four _ _ _ _, HM2.out.four HX2.out _ _ _ _ _ _ _ _, HGM.out, hH3.1⟩
    · obtain rfl : k = l.length := by omega
      go_wp2_with fail
      go_ret
      exact ⟨rfl, HBr.out⟩
end Go.Proofs.YtphlebbihfcaoaaDoor
