/- StoreWhole, walked: for every number, every row of acts and every end. Under: both package variables as they are laid. -/
import Derived.Test.YtjkgellkkjjnbaaGreatDoorZO
namespace Go.Proofs.YtjkgellkkjjnbaaGreatDoor
open Go.RowKit

set_option maxRecDepth 100000 in
set_option maxHeartbeats 8000000 in
theorem rw15 {K : Go.Act → World → Prop} {Q : Exit → Go.Act → World → Prop} (w0 w : World) (z ze : Nat) (t q : Sto) (A B : Option Addr) (n m : Nat) (fu : Int) (KA : Option Addr) (kl : List Bool) (kc : Nat) (a : Addr) (u0 u1 u2 u3 u4 u6 u8 u9 u10 u11 u12 u13 u14 u15 u16 u17 u18 u19 u20 u21 u22 u23 u24 u25 u26 u27 u28 u29 u30 u31 u32 u33 u34 u35 u36 u37 u38 u39 u40 u41 u42 u43 u44 u45 u46 u47 u48 u49 u50 u51 u52 u53 u54 u55 u56 u57 u58 u59 u60 u61 u62 u63 u64 u65 u66 u67 u68 u69 u70 u71 u72 u73 u74 u75 u76 u77 u78 u79 u80 u81 u82 u83 u84 : Value)
    (hx : Held w0 [(z, [.slice A t.s.length n, .slice B t.c.length m, .int .i64 t.f, .bool t.x, .int .i64 t.b.n, .int .u64 t.b.c, .int .u64 t.b.b, .int .u64 t.b.o, .int .u64 t.b.p, .bool t.b.i, .bool t.b.r, .bool t.b.d, .int .u32 t.m]), (ze, [.int .u8 fu, .slice KA kl.length kc])] [] w) (hg : Glob w a) (hP : ∀ c (a : Go.Act) d v w, Q (.panic c) (a.put d v) w → Q (.panic c) a w)
    (hRV : ∀ v, Below w.heap.size w v → Calls Tryz.prog 20 #[.agg #[.slice A t.s.length n, .slice B t.c.length m, .int .i64 0, .bool true], .slice KA kl.length kc] v fun e v' => ∃ Ar nr Br mr, e = .returned (.agg #[.slice Ar q.s.length nr, .slice Br q.c.length mr, .int .i64 q.f, .bool false]) ∧ Mem v' Ar nr Br mr q.s q.c ∧ Below v.heap.size v v')
    (hAT : ∀ v Ar nr Br mr, Mem v Ar nr Br mr q.s q.c → Glob v a → Calls Tryz.prog 10 #[.agg #[.slice Ar q.s.length nr, .slice Br q.c.length mr, .int .i64 q.f, .bool false]] v fun e v' => ∃ A1 n1 B1 m1, e = .returned (.tuple #[.agg #[.slice A1 q.s.length n1, .slice B1 q.c.length m1, .int .i64 q.f, .bool q.x, .int .i64 q.b.n, .int .u64 q.b.c, .int .u64 q.b.b, .int .u64 q.b.o, .int .u64 q.b.p, .bool q.b.i, .bool q.b.r, .bool q.b.d, .int .u32 q.m], .int .i64 0]) ∧ Mem v' A1 n1 B1 m1 q.s q.c ∧ Below v.heap.size v v')
    (hK : ∀ A1 n1 B1 m1 z9 w2 v59 v60 v61 v62 v63 v64 v65 v66 v67 v68, Held w0 [(z, [.slice A t.s.length n, .slice B t.c.length m, .int .i64 t.f, .bool t.x, .int .i64 t.b.n, .int .u64 t.b.c, .int .u64 t.b.b, .int .u64 t.b.o, .int .u64 t.b.p, .bool t.b.i, .bool t.b.r, .bool t.b.d, .int .u32 t.m]), (ze, [.int .u8 fu, .slice KA kl.length kc])] [] w2 → Mem w2 A1 n1 B1 m1 q.s q.c → Box w2 z9 [.slice A1 q.s.length n1, .slice B1 q.c.length m1, .int .i64 q.f, .bool q.x, .int .i64 q.b.n, .int .u64 q.b.c, .int .u64 q.b.b, .int .u64 q.b.o, .int .u64 q.b.p, .bool q.b.i, .bool q.b.r, .bool q.b.d, .int .u32 q.m] → Below w.heap.size w w2 → K { tmps := #[u0, u1, u2, u3, u4, .pointer (some ⟨ze, 0, none⟩), u6, .pointer (some ⟨z, 0, none⟩), u8, u9, u10, u11, .pointer (some ⟨z9, 0, none⟩), .int .i64 0, u14, u15, u16, u17, u18, u19, u20, u21, u22, u23, u24, u25, u26, u27, u28, u29, u30, u31, u32, u33, u34, u35, u36, u37, u38, u39, u40, u41, u42, u43, u44, u45, u46, u47, u48, u49, u50, u51, u52, u53, u54, u55, u56, u57, u58, v59, v60, v61, v62, v63, v64, v65, v66, v67, v68, u69, u70, u71, u72, u73, u74, u75, u76, u77, u78, u79, u80, u81, u82, u83, u84], defers := [] } w2) :
    (regOf 15 Tryz.f5).wp Tryz.prog (Exit.then K Q) { tmps := #[u0, u1, u2, u3, u4, .pointer (some ⟨ze, 0, none⟩), u6, .pointer (some ⟨z, 0, none⟩), u8, u9, u10, u11, u12, u13, u14, u15, u16, u17, u18, u19, u20, u21, u22, u23, u24, u25, u26, u27, u28, u29, u30, u31, u32, u33, u34, u35, u36, u37, u38, u39, u40, u41, u42, u43, u44, u45, u46, u47, u48, u49, u50, u51, u52, u53, u54, u55, u56, u57, u58, u59, u60, u61, u62, u63, u64, u65, u66, u67, u68, u69, u70, u71, u72, u73, u74, u75, u76, u77, u78, u79, u80, u81, u82, u83, u84], defers := [] } w := by
  have HX := Lib.hid hx; clear hx
  have HG := Lib.hid hg; clear hg
  have HRV := Lib.hid hRV; clear hRV
  have HAT := Lib.hid hAT; clear hAT
  have HK := Lib.hid hK; clear hK
  have HP := Lib.hid hP; clear hP
  change Code.wp Tryz.prog (Code.region 15 _ true) _ _ _
  refine held_start (S := Held w0 [(z, [.slice A t.s.length n, .slice B t.c.length m, .int .i64 t.f, .bool t.x, .int .i64 t.b.n, .int .u64 t.b.c, .int .u64 t.b.b, .int .u64 t.b.o, .int .u64 t.b.p, .bool t.b.i, .bool t.b.r, .bool t.b.d, .int .u32 t.m]), (ze, [.int .u8 fu, .slice KA kl.length kc])] []) (by kernel_rfl) HX.out.drew (fun v0 hv0 hH0 => ?_)
  have HW := Lib.hid hv0
  clear hv0
  refine wpAnyH_take (i := 0) (v := ?_) rfl (by kernel_rfl) (by kernel_rfl) (by kernel_rfl) (fun _ _ _ h => HP.out _ _ _ _ _ h) (Or.inl ⟨by rfl, ?_⟩) hH0 ?_
  rotate_left
  · (intro v hSw; go_simp; try with_reducible rfl)
  simp only [Act.put, List.setIfInBounds_toArray, List.set_cons_zero, List.set_cons_succ, List.getElem_toArray, List.getElem_cons_zero]
  refine wpAnyH_take (i := 1) (v := ?_) rfl (by kernel_rfl) (by kernel_rfl) (by kernel_rfl) (fun _ _ _ h => HP.out _ _ _ _ _ h) (Or.inl ⟨by rfl, ?_⟩) hH0 ?_
  rotate_left
  · (intro v hSw; have k0 := hSw.b0.cell; go_simp; try with_reducible rfl)
  simp only [Act.put, List.setIfInBounds_toArray, List.set_cons_zero, List.set_cons_succ, List.getElem_toArray, List.getElem_cons_zero, List.getElem_cons_succ]
  refine wpAnyH_take (i := 3) (v := ?_) rfl (by kernel_rfl) (by kernel_rfl) (by kernel_rfl) (fun _ _ _ h => HP.out _ _ _ _ _ h) (Or.inl ⟨by rfl, ?_⟩) hH0 ?_
  rotate_left
  · (intro v hSw; go_simp; try with_reducible rfl)
  simp only [Act.put, List.setIfInBounds_toArray, List.set_cons_zero, List.set_cons_succ, List.getElem_toArray, List.getElem_cons_zero, List.getElem_cons_succ]
  refine wpAnyH_take (i := 4) (v := ?_) rfl (by kernel_rfl) (by kernel_rfl) (by kernel_rfl) (fun _ _ _ h => HP.out _ _ _ _ _ h) (Or.inl ⟨by rfl, ?_⟩) hH0 ?_
  rotate_left
  · (intro v hSw; have k1 := hSw.b1.cell; go_simp; try with_reducible rfl)
  simp only [Act.put, List.setIfInBounds_toArray, List.set_cons_zero, List.set_cons_succ, List.getElem_toArray, List.getElem_cons_zero, List.getElem_cons_succ]
  refine wpAnyH_ready (rs := [2, 10]) (by kernel_rfl) (by simp) ?_
  refine AllReadyH.cons rfl (fun K1 hK => ?_) ?_
  · go_simp
    refine (rcrash_any A B t.s.length n t.c.length m t.f t.x v0).mono ?_
    rintro e v1 ⟨rfl, hb⟩
    try replace XB := Lib.hid (XB.out.below hb)
    try replace HO := Lib.hid (HO.out.up hb)
    try replace MR := Lib.hid (MR.out.up hb)
    try replace HM1 := Lib.hid (HM1.out.up hb)
    replace HW := Lib.hid (ext HW.out hb)
    go_wp2_with fail
    refine hK.out _ _ (hH0.up hb) (fun hH1 => ?_)
    clear hK K1 hH0 hb
    refine wpAnyH_ready (rs := [5, 10]) (by kernel_rfl) (by simp) ?_
    refine AllReadyH.cons rfl (fun K1 hK => ?_) ?_
    · go_simp
      refine (HRV.out v1 HW.out).mono ?_
      rintro e v2 ⟨Ar, nr, Br, mr, rfl, hmr, hb⟩
      try replace XB := Lib.hid (XB.out.below hb)
      try replace HO := Lib.hid (HO.out.up hb)
      try replace MR := Lib.hid (MR.out.up hb)
      try replace HM1 := Lib.hid (HM1.out.up hb)
      replace HW := Lib.hid (ext HW.out hb)
      have MR := Lib.hid hmr
      clear hmr
      go_wp2_with fail
      refine hK.out _ _ (hH1.up hb) (fun hH2 => ?_)
      clear hK K1 hH1 hb
      refine wpAnyH_ready (rs := [6, 10]) (by kernel_rfl) (by simp) ?_
      refine AllReadyH.cons rfl (fun K1 hK => ?_) ?_
      · go_simp
        refine (HAT.out v2 Ar nr Br mr MR.out (HG.out.up HW.out)).mono ?_
        rintro e v3 ⟨A1, n1, B1, m1, rfl, hm1, hb⟩
        try replace XB := Lib.hid (XB.out.below hb)
        try replace HO := Lib.hid (HO.out.up hb)
        try replace MR := Lib.hid (MR.out.up hb)
        try replace HM1 := Lib.hid (HM1.out.up hb)
        replace HW := Lib.hid (ext HW.out hb)
        have HM1 := Lib.hid hm1
        clear hm1
        go_wp2_with fail
        refine hK.out _ _ (hH2.up hb) (fun hH3 => ?_)
        clear hK K1 hH2 hb
        refine wpAnyH_take (i := 7) (v := ?_) rfl (by kernel_rfl) (by kernel_rfl) (by kernel_rfl) (fun _ _ _ h => HP.out _ _ _ _ _ h) (Or.inl ⟨by rfl, ?_⟩) hH3 ?_
        rotate_left
        · (intro v hSw; go_simp; try with_reducible rfl)
        simp only [Act.put, List.setIfInBounds_toArray, List.set_cons_zero, List.set_cons_succ, List.getElem_toArray, List.getElem_cons_zero, List.getElem_cons_succ]
        refine wpAnyH_take (i := 8) (v := ?_) rfl (by kernel_rfl) (by kernel_rfl) (by kernel_rfl) (fun _ _ _ h => HP.out _ _ _ _ _ h) (Or.inl ⟨by rfl, ?_⟩) hH3 ?_
        rotate_left
        · (intro v hSw; go_simp; try with_reducible rfl)
        simp only [Act.put, List.setIfInBounds_toArray, List.set_cons_zero, List.set_cons_succ, List.getElem_toArray, List.getElem_cons_zero, List.getElem_cons_succ]
        refine wpAnyH_take (i := 9) (v := ?_) rfl (by kernel_rfl) (by kernel_rfl) (by kernel_rfl) (fun _ _ _ h => HP.out _ _ _ _ _ h) (Or.inl ⟨by rfl, ?_⟩) hH3 ?_
        rotate_left
        · (intro v hSw; go_simp; try with_reducible rfl)
        simp only [Act.put, List.setIfInBounds_toArray, List.set_cons_zero, List.set_cons_succ, List.getElem_toArray, List.getElem_cons_zero, List.getElem_cons_succ]
        refine wpAnyH_ready (rs := [10]) (by kernel_rfl) (by simp) ?_
        refine AllReadyH.cons rfl (fun K1 hK => ?_) AllReadyH.nil
        go_simp
        refine hK.out _ _ (hH3.alloc _) (fun hH4 => ?_)
        have HO := Lib.hid (hH3.own [.slice none 0 0, .slice none 0 0, .int .i64 0, .bool false, .int .i64 0, .int .u64 0, .int .u64 0, .int .u64 0, .int .u64 0, .bool false, .bool false, .bool false, .int .u32 0] 34 (n := 13) rfl)
        have HZ9 : Hid (w.heap.size ≤ v3.heap.size) := HW.out.size
        have XB := Lib.hid (Box.new v3 [.slice none 0 0, .slice none 0 0, .int .i64 0, .bool false, .int .i64 0, .int .u64 0, .int .u64 0, .int .u64 0, .int .u64 0, .bool false, .bool false, .bool false, .int .u32 0] 34)
        have hb : Below v3.heap.size v3 (v3.alloc (.cells ([.slice none 0 0, .slice none 0 0, .int .i64 0, .bool false, .int .i64 0, .int .u64 0, .int .u64 0, .int .u64 0, .int .u64 0, .bool false, .bool false, .bool false, .int .u32 0] : List Value).toArray 34)) := below1
        try replace MR := Lib.hid (MR.out.up hb)
        try replace HM1 := Lib.hid (HM1.out.up hb)
        replace HW := Lib.hid (ext HW.out hb)
        generalize v3.alloc (.cells #[.slice none 0 0, .slice none 0 0, .int .i64 0, .bool false, .int .i64 0, .int .u64 0, .int .u64 0, .int .u64 0, .int .u64 0, .bool false, .bool false, .bool false, .int .u32 0] 34) = v4 at *
        generalize hz : v3.heap.size = z9 at *
        clear hz hb hK K1 hH3
        refine wpAnyH_ready (rs := [11]) (by kernel_rfl) (by simp) ?_
        refine AllReadyH.cons rfl (fun K1 hK => ?_) AllReadyH.nil
        have kx := XB.out.cell
        have fx := XB.out.frozen
        have HS2 := HO.out.setL (b := z9) ⟨13, by simp⟩ [.slice A1 q.s.length n1, .slice B1 q.c.length m1, .int .i64 q.f, .bool q.x, .int .i64 q.b.n, .int .u64 q.b.c, .int .u64 q.b.b, .int .u64 q.b.o, .int .u64 q.b.p, .bool q.b.i, .bool q.b.r, .bool q.b.d, .int .u32 q.m] 0
        go_simp
        refine hK.out _ _ HS2.done (fun hH5 => ?_)
        replace HM1 := Lib.hid (HM1.out.setL [.slice A1 q.s.length n1, .slice B1 q.c.length m1, .int .i64 q.f, .bool q.x, .int .i64 q.b.n, .int .u64 q.b.c, .int .u64 q.b.b, .int .u64 q.b.o, .int .u64 q.b.p, .bool q.b.i, .bool q.b.r, .bool q.b.d, .int .u32 q.m] 0 XB.out (noText_st 0 0 0 false Sup.zero 0 none 0 none 0) (noText_st q.s.length q.c.length q.f q.x q.b q.m A1 n1 B1 m1))
        replace XB := Lib.hid (show Box _ z9 [.slice A1 q.s.length n1, .slice B1 q.c.length m1, .int .i64 q.f, .bool q.x, .int .i64 q.b.n, .int .u64 q.b.c, .int .u64 q.b.b, .int .u64 q.b.o, .int .u64 q.b.p, .bool q.b.i, .bool q.b.r, .bool q.b.d, .int .u32 q.m] from XB.out.setL [.slice A1 q.s.length n1, .slice B1 q.c.length m1, .int .i64 q.f, .bool q.x, .int .i64 q.b.n, .int .u64 q.b.c, .int .u64 q.b.b, .int .u64 q.b.o, .int .u64 q.b.p, .bool q.b.i, .bool q.b.r, .bool q.b.d, .int .u32 q.m] 0)
        replace HW := Lib.hid (Below.setL (b := z9) (HZ9.out) [.slice A1 q.s.length n1, .slice B1 q.c.length m1, .int .i64 q.f, .bool q.x, .int .i64 q.b.n, .int .u64 q.b.c, .int .u64 q.b.b, .int .u64 q.b.o, .int .u64 q.b.p, .bool q.b.i, .bool q.b.r, .bool q.b.d, .int .u32 q.m] 0 HW.out)
        clear kx fx HS2 HO
        generalize hW : setL v4 z9 0 [.slice A1 q.s.length n1, .slice B1 q.c.length m1, .int .i64 q.f, .bool q.x, .int .i64 q.b.n, .int .u64 q.b.c, .int .u64 q.b.b, .int .u64 q.b.o, .int .u64 q.b.p, .bool q.b.i, .bool q.b.r, .bool q.b.d, .int .u32 q.m] = v5 at *
        simp only [setL, Nat.zero_add, Nat.reduceAdd] at hW
        simp only [hW] at hH5 ⊢
        clear hW hK K1 hH4
        refine wpAnyH_take (i := 12) (v := ?_) rfl (by kernel_rfl) (by kernel_rfl) (by kernel_rfl) (fun _ _ _ h => HP.out _ _ _ _ _ h) (Or.inl ⟨by rfl, ?_⟩) hH5 ?_
        rotate_left
        · (intro v hSw; go_simp; try with_reducible rfl)
        simp only [Act.put, List.setIfInBounds_toArray, List.set_cons_zero, List.set_cons_succ, List.getElem_toArray, List.getElem_cons_zero, List.getElem_cons_succ]
        refine wpAnyH_done (by kernel_rfl) ?_ _
        have H9 := Lib.hid hH5
        refine HK.out A1 n1 B1 m1 z9 _ (.tuple #[.agg #[.slice A1 q.s.length n1, .slice B1 q.c.length m1, .int .i64 q.f, .bool q.x, .int .i64 q.b.n, .int .u64 q.b.c, .int .u64 q.b.b, .int .u64 q.b.o, .int .u64 q.b.p, .bool q.b.i, .bool q.b.r, .bool q.b.d, .int .u32 q.m], .int .i64 0]) (.pointer (some ⟨z, 0, none⟩)) (.agg #[.slice A t.s.length n, .slice B t.c.length m, .int .i64 t.f, .bool t.x]) (.agg #[.slice A t.s.length n, .slice B t.c.length m, .int .i64 0, .bool true]) (.pointer (some ⟨ze, 1, none⟩)) (.slice KA kl.length kc) ((.agg #[.slice Ar q.s.length nr, .slice Br q.c.length mr, .int .i64 q.f, .bool false])) (.tuple #[.agg #[.slice A1 q.s.length n1, .slice B1 q.c.length m1, .int .i64 q.f, .bool q.x, .int .i64 q.b.n, .int .u64 q.b.c, .int .u64 q.b.b, .int .u64 q.b.o, .int .u64 q.b.p, .bool q.b.i, .bool q.b.r, .bool q.b.d, .int .u32 q.m], .int .i64 0]) (.agg #[.slice A1 q.s.length n1, .slice B1 q.c.length m1, .int .i64 q.f, .bool q.x, .int .i64 q.b.n, .int .u64 q.b.c, .int .u64 q.b.b, .int .u64 q.b.o, .int .u64 q.b.p, .bool q.b.i, .bool q.b.r, .bool q.b.d, .int .u32 q.m]) (.int .i64 0) H9.out HM1.out XB.out HW.out
      refine AllReadyH.cons rfl (fun K1 hK => ?_) AllReadyH.nil
      go_simp
      refine hK.out _ _ (hH2.alloc _) (fun hH6 => ?_)
      have HO := Lib.hid (hH2.own [.slice none 0 0, .slice none 0 0, .int .i64 0, .bool false, .int .i64 0, .int .u64 0, .int .u64 0, .int .u64 0, .int .u64 0, .bool false, .bool false, .bool false, .int .u32 0] 34 (n := 13) rfl)
      have HZ9 : Hid (w.heap.size ≤ v2.heap.size) := HW.out.size
      have XB := Lib.hid (Box.new v2 [.slice none 0 0, .slice none 0 0, .int .i64 0, .bool false, .int .i64 0, .int .u64 0, .int .u64 0, .int .u64 0, .int .u64 0, .bool false, .bool false, .bool false, .int .u32 0] 34)
      have hb : Below v2.heap.size v2 (v2.alloc (.cells ([.slice none 0 0, .slice none 0 0, .int .i64 0, .bool false, .int .i64 0, .int .u64 0, .int .u64 0, .int .u64 0, .int .u64 0, .bool false, .bool false, .bool false, .int .u32 0] : List Value).toArray 34)) := below1
      try replace MR := Lib.hid (MR.out.up hb)
      try replace HM1 := Lib.hid (HM1.out.up hb)
      replace HW := Lib.hid (ext HW.out hb)
      generalize v2.alloc (.cells #[.slice none 0 0, .slice none 0 0, .int .i64 0, .bool false, .int .i64 0, .int .u64 0, .int .u64 0, .int .u64 0, .int .u64 0, .bool false, .bool false, .bool false, .int .u32 0] 34) = v6 at *
      generalize hz : v2.heap.size = z9 at *
      clear hz hb hK K1 hH2
      refine wpAnyH_ready (rs := [6]) (by kernel_rfl) (by simp) ?_
      refine AllReadyH.cons rfl (fun K1 hK => ?_) AllReadyH.nil
      go_simp
      refine (HAT.out v6 Ar nr Br mr MR.out (HG.out.up HW.out)).mono ?_
      rintro e v7 ⟨A1, n1, B1, m1, rfl, hm1, hb⟩
      try replace XB := Lib.hid (XB.out.below hb)
      try replace HO := Lib.hid (HO.out.up hb)
      try replace MR := Lib.hid (MR.out.up hb)
      try replace HM1 := Lib.hid (HM1.out.up hb)
      replace HW := Lib.hid (ext HW.out hb)
      have HM1 := Lib.hid hm1
      clear hm1
      go_wp2_with fail
      refine hK.out _ _ (hH6.up hb) (fun hH7 => ?_)
      clear hK K1 hH6 hb
      refine wpAnyH_take (i := 7) (v := ?_) rfl (by kernel_rfl) (by kernel_rfl) (by kernel_rfl) (fun _ _ _ h => HP.out _ _ _ _ _ h) (Or.inl ⟨by rfl, ?_⟩) hH7 ?_
      rotate_left
      · (intro v hSw; go_simp; try with_reducible rfl)
      simp only [Act.put, List.setIfInBounds_toArray, List.set_cons_zero, List.set_cons_succ, List.getElem_toArray, List.getElem_cons_zero, List.getElem_cons_succ]
      refine wpAnyH_take (i := 8) (v := ?_) rfl (by kernel_rfl) (by kernel_rfl) (by kernel_rfl) (fun _ _ _ h => HP.out _ _ _ _ _ h) (Or.inl ⟨by rfl, ?_⟩) hH7 ?_
      rotate_left
      · (intro v hSw; go_simp; try with_reducible rfl)
      simp only [Act.put, List.setIfInBounds_toArray, List.set_cons_zero, List.set_cons_succ, List.getElem_toArray, List.getElem_cons_zero, List.getElem_cons_succ]
      refine wpAnyH_take (i := 9) (v := ?_) rfl (by kernel_rfl) (by kernel_rfl) (by kernel_rfl) (fun _ _ _ h => HP.out _ _ _ _ _ h) (Or.inl ⟨by rfl, ?_⟩) hH7 ?_
      rotate_left
      · (intro v hSw; go_simp; try with_reducible rfl)
      simp only [Act.put, List.setIfInBounds_toArray, List.set_cons_zero, List.set_cons_succ, List.getElem_toArray, List.getElem_cons_zero, List.getElem_cons_succ]
      refine wpAnyH_ready (rs := [11]) (by kernel_rfl) (by simp) ?_
      refine AllReadyH.cons rfl (fun K1 hK => ?_) AllReadyH.nil
      have kx := XB.out.cell
      have fx := XB.out.frozen
      have HS2 := HO.out.setL (b := z9) ⟨13, by simp⟩ [.slice A1 q.s.length n1, .slice B1 q.c.length m1, .int .i64 q.f, .bool q.x, .int .i64 q.b.n, .int .u64 q.b.c, .int .u64 q.b.b, .int .u64 q.b.o, .int .u64 q.b.p, .bool q.b.i, .bool q.b.r, .bool q.b.d, .int .u32 q.m] 0
      go_simp
      refine hK.out _ _ HS2.done (fun hH8 => ?_)
      replace HM1 := Lib.hid (HM1.out.setL [.slice A1 q.s.length n1, .slice B1 q.c.length m1, .int .i64 q.f, .bool q.x, .int .i64 q.b.n, .int .u64 q.b.c, .int .u64 q.b.b, .int .u64 q.b.o, .int .u64 q.b.p, .bool q.b.i, .bool q.b.r, .bool q.b.d, .int .u32 q.m] 0 XB.out (noText_st 0 0 0 false Sup.zero 0 none 0 none 0) (noText_st q.s.length q.c.length q.f q.x q.b q.m A1 n1 B1 m1))
      replace XB := Lib.hid (show Box _ z9 [.slice A1 q.s.length n1, .slice B1 q.c.length m1, .int .i64 q.f, .bool q.x, .int .i64 q.b.n, .int .u64 q.b.c, .int .u64 q.b.b, .int .u64 q.b.o, .int .u64 q.b.p, .bool q.b.i, .bool q.b.r, .bool q.b.d, .int .u32 q.m] from XB.out.setL [.slice A1 q.s.length n1, .slice B1 q.c.length m1, .int .i64 q.f, .bool q.x, .int .i64 q.b.n, .int .u64 q.b.c, .int .u64 q.b.b, .int .u64 q.b.o, .int .u64 q.b.p, .bool q.b.i, .bool q.b.r, .bool q.b.d, .int .u32 q.m] 0)
      replace HW := Lib.hid (Below.setL (b := z9) (HZ9.out) [.slice A1 q.s.length n1, .slice B1 q.c.length m1, .int .i64 q.f, .bool q.x, .int .i64 q.b.n, .int .u64 q.b.c, .int .u64 q.b.b, .int .u64 q.b.o, .int .u64 q.b.p, .bool q.b.i, .bool q.b.r, .bool q.b.d, .int .u32 q.m] 0 HW.out)
      clear kx fx HS2 HO
      generalize hW : setL v7 z9 0 [.slice A1 q.s.length n1, .slice B1 q.c.length m1, .int .i64 q.f, .bool q.x, .int .i64 q.b.n, .int .u64 q.b.c, .int .u64 q.b.b, .int .u64 q.b.o, .int .u64 q.b.p, .bool q.b.i, .bool q.b.r, .bool q.b.d, .int .u32 q.m] = v8 at *
      simp only [setL, Nat.zero_add, Nat.reduceAdd] at hW
      simp only [hW] at hH8 ⊢
      clear hW hK K1 hH7
      refine wpAnyH_take (i := 12) (v := ?_) rfl (by kernel_rfl) (by kernel_rfl) (by kernel_rfl) (fun _ _ _ h => HP.out _ _ _ _ _ h) (Or.inl ⟨by rfl, ?_⟩) hH8 ?_
      rotate_left
      · (intro v hSw; go_simp; try with_reducible rfl)
      simp only [Act.put, List.setIfInBounds_toArray, List.set_cons_zero, List.set_cons_succ, List.getElem_toArray, List.getElem_cons_zero, List.getElem_cons_succ]
      refine wpAnyH_done (by kernel_rfl) ?_ _
      have H9 := Lib.hid hH8
      refine HK.out A1 n1 B1 m1 z9 _ (.tuple #[.agg #[.slice A1 q.s.length n1, .slice B1 q.c.length m1, .int .i64 q.f, .bool q.x, .int .i64 q.b.n, .int .u64 q.b.c, .int .u64 q.b.b, .int .u64 q.b.o, .int .u64 q.b.p, .bool q.b.i, .bool q.b.r, .bool q.b.d, .int .u32 q.m], .int .i64 0]) (.pointer (some ⟨z, 0, none⟩)) (.agg #[.slice A t.s.length n, .slice B t.c.length m, .int .i64 t.f, .bool t.x]) (.agg #[.slice A t.s.length n, .slice B t.c.length m, .int .i64 0, .bool true]) (.pointer (some ⟨ze, 1, none⟩)) (.slice KA kl.length kc) ((.agg #[.slice Ar q.s.length nr, .slice Br q.c.length mr, .int .i64 q.f, .bool false])) (.tuple #[.agg #[.slice A1 q.s.length n1, .slice B1 q.c.length m1, .int .i64 q.f, .bool q.x, .int .i64 q.b.n, .int .u64 q.b.c, .int .u64 q.b.b, .int .u64 q.b.o, .int .u64 q.b.p, .bool q.b.i, .bool q.b.r, .bool q.b.d, .int .u32 q.m], .int .i64 0]) (.agg #[.slice A1 q.s.length n1, .slice B1 q.c.length m1, .int .i64 q.f, .bool q.x, .int .i64 q.b.n, .int .u64 q.b.c, .int .u64 q.b.b, .int .u64 q.b.o, .int .u64 q.b.p, .bool q.b.i, .bool q.b.r, .bool q.b.d, .int .u32 q.m]) (.int .i64 0) H9.out HM1.out XB.out HW.out
    refine AllReadyH.cons rfl (fun K1 hK => ?_) AllReadyH.nil
    go_simp
    refine hK.out _ _ (hH1.alloc _) (fun hH9 => ?_)
    have HO := Lib.hid (hH1.own [.slice none 0 0, .slice none 0 0, .int .i64 0, .bool false, .int .i64 0, .int .u64 0, .int .u64 0, .int .u64 0, .int .u64 0, .bool false, .bool false, .bool false, .int .u32 0] 34 (n := 13) rfl)
    have HZ9 : Hid (w.heap.size ≤ v1.heap.size) := HW.out.size
    have XB := Lib.hid (Box.new v1 [.slice none 0 0, .slice none 0 0, .int .i64 0, .bool false, .int .i64 0, .int .u64 0, .int .u64 0, .int .u64 0, .int .u64 0, .bool false, .bool false, .bool false, .int .u32 0] 34)
    have hb : Below v1.heap.size v1 (v1.alloc (.cells ([.slice none 0 0, .slice none 0 0, .int .i64 0, .bool false, .int .i64 0, .int .u64 0, .int .u64 0, .int .u64 0, .int .u64 0, .bool false, .bool false, .bool false, .int .u32 0] : List Value).toArray 34)) := below1
    try replace MR := Lib.hid (MR.out.up hb)
    try replace HM1 := Lib.hid (HM1.out.up hb)
    replace HW := Lib.hid (ext HW.out hb)
    generalize v1.alloc (.cells #[.slice none 0 0, .slice none 0 0, .int .i64 0, .bool false, .int .i64 0, .int .u64 0, .int .u64 0, .int .u64 0, .int .u64 0, .bool false, .bool false, .bool false, .int .u32 0] 34) = v9 at *
    generalize hz : v1.heap.size = z9 at *
    clear hz hb hK K1 hH1
    refine wpAnyH_ready (rs := [5]) (by kernel_rfl) (by simp) ?_
    refine AllReadyH.cons rfl (fun K1 hK => ?_) AllReadyH.nil
    go_simp
    refine (HRV.out v9 HW.out).mono ?_
    rintro e v10 ⟨Ar, nr, Br, mr, rfl, hmr, hb⟩
    try replace XB := Lib.hid (XB.out.below hb)
    try replace HO := Lib.hid (HO.out.up hb)
    try replace MR := Lib.hid (MR.out.up hb)
    try replace HM1 := Lib.hid (HM1.out.up hb)
    replace HW := Lib.hid (ext HW.out hb)
    have MR := Lib.hid hmr
    clear hmr
    go_wp2_with fail
    refine hK.out _ _ (hH9.up hb) (fun hH10 => ?_)
    clear hK K1 hH9 hb
    refine wpAnyH_ready (rs := [6]) (by kernel_rfl) (by simp) ?_
    refine AllReadyH.cons rfl (fun K1 hK => ?_) AllReadyH.nil
    go_simp
    refine (HAT.out v10 Ar nr Br mr MR.out (HG.out.up HW.out)).mono ?_
    rintro e v11 ⟨A1, n1, B1, m1, rfl, hm1, hb⟩
    try replace XB := Lib.hid (XB.out.below hb)
    try replace HO := Lib.hid (HO.out.up hb)
    try replace MR := Lib.hid (MR.out.up hb)
    try replace HM1 := Lib.hid (HM1.out.up hb)
    replace HW := Lib.hid (ext HW.out hb)
    have HM1 := Lib.hid hm1
    clear hm1
    go_wp2_with fail
    refine hK.out _ _ (hH10.up hb) (fun hH11 => ?_)
    clear hK K1 hH10 hb
    refine wpAnyH_take (i := 7) (v := ?_) rfl (by kernel_rfl) (by kernel_rfl) (by kernel_rfl) (fun _ _ _ h => HP.out _ _ _ _ _ h) (Or.inl ⟨by rfl, ?_⟩) hH11 ?_
    rotate_left
    · (intro v hSw; go_simp; try with_reducible rfl)
    simp only [Act.put, List.setIfInBounds_toArray, List.set_cons_zero, List.set_cons_succ, List.getElem_toArray, List.getElem_cons_zero, List.getElem_cons_succ]
    refine wpAnyH_take (i := 8) (v := ?_) rfl (by kernel_rfl) (by kernel_rfl) (by kernel_rfl) (fun _ _ _ h => HP.out _ _ _ _ _ h) (Or.inl ⟨by rfl, ?_⟩) hH11 ?_
    rotate_left
    · (intro v hSw; go_simp; try with_reducible rfl)
    simp only [Act.put, List.setIfInBounds_toArray, List.set_cons_zero, List.set_cons_succ, List.getElem_toArray, List.getElem_cons_zero, List.getElem_cons_succ]
    refine wpAnyH_take (i := 9) (v := ?_) rfl (by kernel_rfl) (by kernel_rfl) (by kernel_rfl) (fun _ _ _ h => HP.out _ _ _ _ _ h) (Or.inl ⟨by rfl, ?_⟩) hH11 ?_
    rotate_left
    · (intro v hSw; go_simp; try with_reducible rfl)
    simp only [Act.put, List.setIfInBounds_toArray, List.set_cons_zero, List.set_cons_succ, List.getElem_toArray, List.getElem_cons_zero, List.getElem_cons_succ]
    refine wpAnyH_ready (rs := [11]) (by kernel_rfl) (by simp) ?_
    refine AllReadyH.cons rfl (fun K1 hK => ?_) AllReadyH.nil
    have kx := XB.out.cell
    have fx := XB.out.frozen
    have HS2 := HO.out.setL (b := z9) ⟨13, by simp⟩ [.slice A1 q.s.length n1, .slice B1 q.c.length m1, .int .i64 q.f, .bool q.x, .int .i64 q.b.n, .int .u64 q.b.c, .int .u64 q.b.b, .int .u64 q.b.o, .int .u64 q.b.p, .bool q.b.i, .bool q.b.r, .bool q.b.d, .int .u32 q.m] 0
    go_simp
    refine hK.out _ _ HS2.done (fun hH12 => ?_)
    replace HM1 := Lib.hid (HM1.out.setL [.slice A1 q.s.length n1, .slice B1 q.c.length m1, .int .i64 q.f, .bool q.x, .int .i64 q.b.n, .int .u64 q.b.c, .int .u64 q.b.b, .int .u64 q.b.o, .int .u64 q.b.p, .bool q.b.i, .bool q.b.r, .bool q.b.d, .int .u32 q.m] 0 XB.out (noText_st 0 0 0 false Sup.zero 0 none 0 none 0) (noText_st q.s.length q.c.length q.f q.x q.b q.m A1 n1 B1 m1))
    replace XB := Lib.hid (show Box _ z9 [.slice A1 q.s.length n1, .slice B1 q.c.length m1, .int .i64 q.f, .bool q.x, .int .i64 q.b.n, .int .u64 q.b.c, .int .u64 q.b.b, .int .u64 q.b.o, .int .u64 q.b.p, .bool q.b.i, .bool q.b.r, .bool q.b.d, .int .u32 q.m] from XB.out.setL [.slice A1 q.s.length n1, .slice B1 q.c.length m1, .int .i64 q.f, .bool q.x, .int .i64 q.b.n, .int .u64 q.b.c, .int .u64 q.b.b, .int .u64 q.b.o, .int .u64 q.b.p, .bool q.b.i, .bool q.b.r, .bool q.b.d, .int .u32 q.m] 0)
    replace HW := Lib.hid (Below.setL (b := z9) (HZ9.out) [.slice A1 q.s.length n1, .slice B1 q.c.length m1, .int .i64 q.f, .bool q.x, .int .i64 q.b.n, .int .u64 q.b.c, .int .u64 q.b.b, .int .u64 q.b.o, .int .u64 q.b.p, .bool q.b.i, .bool q.b.r, .bool q.b.d, .int .u32 q.m] 0 HW.out)
    clear kx fx HS2 HO
    generalize hW : setL v11 z9 0 [.slice A1 q.s.length n1, .slice B1 q.c.length m1, .int .i64 q.f, .bool q.x, .int .i64 q.b.n, .int .u64 q.b.c, .int .u64 q.b.b, .int .u64 q.b.o, .int .u64 q.b.p, .bool q.b.i, .bool q.b.r, .bool q.b.d, .int .u32 q.m] = v12 at *
    simp only [setL, Nat.zero_add, Nat.reduceAdd] at hW
    simp only [hW] at hH12 ⊢
    clear hW hK K1 hH11
    refine wpAnyH_take (i := 12) (v := ?_) rfl (by kernel_rfl) (by kernel_rfl) (by kernel_rfl) (fun _ _ _ h => HP.out _ _ _ _ _ h) (Or.inl ⟨by rfl, ?_⟩) hH12 ?_
    rotate_left
    · (intro v hSw; go_simp; try with_reducible rfl)
    simp only [Act.put, List.setIfInBounds_toArray, List.set_cons_zero, List.set_cons_succ, List.getElem_toArray, List.getElem_cons_zero, List.getElem_cons_succ]
    refine wpAnyH_done (by kernel_rfl) ?_ _
    have H9 := Lib.hid hH12
    refine HK.out A1 n1 B1 m1 z9 _ (.tuple #[.agg #[.slice A1 q.s.length n1, .slice B1 q.c.length m1, .int .i64 q.f, .bool q.x, .int .i64 q.b.n, .int .u64 q.b.c, .int .u64 q.b.b, .int .u64 q.b.o, .int .u64 q.b.p, .bool q.b.i, .bool q.b.r, .bool q.b.d, .int .u32 q.m], .int .i64 0]) (.pointer (some ⟨z, 0, none⟩)) (.agg #[.slice A t.s.length n, .slice B t.c.length m, .int .i64 t.f, .bool t.x]) (.agg #[.slice A t.s.length n, .slice B t.c.length m, .int .i64 0, .bool true]) (.pointer (some ⟨ze, 1, none⟩)) (.slice KA kl.length kc) ((.agg #[.slice Ar q.s.length nr, .slice Br q.c.length mr, .int .i64 q.f, .bool false])) (.tuple #[.agg #[.slice A1 q.s.length n1, .slice B1 q.c.length m1, .int .i64 q.f, .bool q.x, .int .i64 q.b.n, .int .u64 q.b.c, .int .u64 q.b.b, .int .u64 q.b.o, .int .u64 q.b.p, .bool q.b.i, .bool q.b.r, .bool q.b.d, .int .u32 q.m], .int .i64 0]) (.agg #[.slice A1 q.s.length n1, .slice B1 q.c.length m1, .int .i64 q.f, .bool q.x, .int .i64 q.b.n, .int .u64 q.b.c, .int .u64 q.b.b, .int .u64 q.b.o, .int .u64 q.b.p, .bool q.b.i, .bool q.b.r, .bool q.b.d, .int .u32 q.m]) (.int .i64 0) H9.out HM1.out XB.out HW.out
  refine AllReadyH.cons rfl (fun K1 hK => ?_) AllReadyH.nil
  go_simp
  refine hK.out _ _ (hH0.alloc _) (fun hH13 => ?_)
  have HO := Lib.hid (hH0.own [.slice none 0 0, .slice none 0 0, .int .i64 0, .bool false, .int .i64 0, .int .u64 0, .int .u64 0, .int .u64 0, .int .u64 0, .bool false, .bool false, .bool false, .int .u32 0] 34 (n := 13) rfl)
  have HZ9 : Hid (w.heap.size ≤ v0.heap.size) := HW.out.size
  have XB := Lib.hid (Box.new v0 [.slice none 0 0, .slice none 0 0, .int .i64 0, .bool false, .int .i64 0, .int .u64 0, .int .u64 0, .int .u64 0, .int .u64 0, .bool false, .bool false, .bool false, .int .u32 0] 34)
  have hb : Below v0.heap.size v0 (v0.alloc (.cells ([.slice none 0 0, .slice none 0 0, .int .i64 0, .bool false, .int .i64 0, .int .u64 0, .int .u64 0, .int .u64 0, .int .u64 0, .bool false, .bool false, .bool false, .int .u32 0] : List Value).toArray 34)) := below1
  try replace MR := Lib.hid (MR.out.up hb)
  try replace HM1 := Lib.hid (HM1.out.up hb)
  replace HW := Lib.hid (ext HW.out hb)
  generalize v0.alloc (.cells #[.slice none 0 0, .slice none 0 0, .int .i64 0, .bool false, .int .i64 0, .int .u64 0, .int .u64 0, .int .u64 0, .int .u64 0, .bool false, .bool false, .bool false, .int .u32 0] 34) = v13 at *
  generalize hz : v0.heap.size = z9 at *
  clear hz hb hK K1 hH0
  refine wpAnyH_ready (rs := [2]) (by kernel_rfl) (by simp) ?_
  refine AllReadyH.cons rfl (fun K1 hK => ?_) AllReadyH.nil
  go_simp
  refine (rcrash_any A B t.s.length n t.c.length m t.f t.x v13).mono ?_
  rintro e v14 ⟨rfl, hb⟩
  try replace XB := Lib.hid (XB.out.below hb)
  try replace HO := Lib.hid (HO.out.up hb)
  try replace MR := Lib.hid (MR.out.up hb)
  try replace HM1 := Lib.hid (HM1.out.up hb)
  replace HW := Lib.hid (ext HW.out hb)
  go_wp2_with fail
  refine hK.out _ _ (hH13.up hb) (fun hH14 => ?_)
  clear hK K1 hH13 hb
  refine wpAnyH_ready (rs := [5]) (by kernel_rfl) (by simp) ?_
  refine AllReadyH.cons rfl (fun K1 hK => ?_) AllReadyH.nil
  go_simp
  refine (HRV.out v14 HW.out).mono ?_
  rintro e v15 ⟨Ar, nr, Br, mr, rfl, hmr, hb⟩
  try replace XB := Lib.hid (XB.out.below hb)
  try replace HO := Lib.hid (HO.out.up hb)
  try replace MR := Lib.hid (MR.out.up hb)
  try replace HM1 := Lib.hid (HM1.out.up hb)
  replace HW := Lib.hid (ext HW.out hb)
  have MR := Lib.hid hmr
  clear hmr
  go_wp2_with fail
  refine hK.out _ _ (hH14.up hb) (fun hH15 => ?_)
  clear hK K1 hH14 hb
  refine wpAnyH_ready (rs := [6]) (by kernel_rfl) (by simp) ?_
  refine AllReadyH.cons rfl (fun K1 hK => ?_) AllReadyH.nil
  go_simp
  refine (HAT.out v15 Ar nr Br mr MR.out (HG.out.up HW.out)).mono ?_
  rintro e v16 ⟨A1, n1, B1, m1, rfl, hm1, hb⟩
  try replace XB := Lib.hid (XB.out.below hb)
  try replace HO := Lib.hid (HO.out.up hb)
  try replace MR := Lib.hid (MR.out.up hb)
  try replace HM1 := Lib.hid (HM1.out.up hb)
  replace HW := Lib.hid (ext HW.out hb)
  have HM1 := Lib.hid hm1
  clear hm1
  go_wp2_with fail
  refine hK.out _ _ (hH15.up hb) (fun hH16 => ?_)
  clear hK K1 hH15 hb
  refine wpAnyH_take (i := 7) (v := ?_) rfl (by kernel_rfl) (by kernel_rfl) (by kernel_rfl) (fun _ _ _ h => HP.out _ _ _ _ _ h) (Or.inl ⟨by rfl, ?_⟩) hH16 ?_
  rotate_left
  · (intro v hSw; go_simp; try with_reducible rfl)
  simp only [Act.put, List.setIfInBounds_toArray, List.set_cons_zero, List.set_cons_succ, List.getElem_toArray, List.getElem_cons_zero, List.getElem_cons_succ]
  refine wpAnyH_take (i := 8) (v := ?_) rfl (by kernel_rfl) (by kernel_rfl) (by kernel_rfl) (fun _ _ _ h => HP.out _ _ _ _ _ h) (Or.inl ⟨by rfl, ?_⟩) hH16 ?_
  rotate_left
  · (intro v hSw; go_simp; try with_reducible rfl)
  simp only [Act.put, List.setIfInBounds_toArray, List.set_cons_zero, List.set_cons_succ, List.getElem_toArray, List.getElem_cons_zero, List.getElem_cons_succ]
  refine wpAnyH_take (i := 9) (v := ?_) rfl (by kernel_rfl) (by kernel_rfl) (by kernel_rfl) (fun _ _ _ h => HP.out _ _ _ _ _ h) (Or.inl ⟨by rfl, ?_⟩) hH16 ?_
  rotate_left
  · (intro v hSw; go_simp; try with_reducible rfl)
  simp only [Act.put, List.setIfInBounds_toArray, List.set_cons_zero, List.set_cons_succ, List.getElem_toArray, List.getElem_cons_zero, List.getElem_cons_succ]
  refine wpAnyH_ready (rs := [11]) (by kernel_rfl) (by simp) ?_
  refine AllReadyH.cons rfl (fun K1 hK => ?_) AllReadyH.nil
  have kx := XB.out.cell
  have fx := XB.out.frozen
  have HS2 := HO.out.setL (b := z9) ⟨13, by simp⟩ [.slice A1 q.s.length n1, .slice B1 q.c.length m1, .int .i64 q.f, .bool q.x, .int .i64 q.b.n, .int .u64 q.b.c, .int .u64 q.b.b, .int .u64 q.b.o, .int .u64 q.b.p, .bool q.b.i, .bool q.b.r, .bool q.b.d, .int .u32 q.m] 0
  go_simp
  refine hK.out _ _ HS2.done (fun hH17 => ?_)
  replace HM1 := Lib.hid (HM1.out.setL [.slice A1 q.s.length n1, .slice B1 q.c.length m1, .int .i64 q.f, .bool q.x, .int .i64 q.b.n, .int .u64 q.b.c, .int .u64 q.b.b, .int .u64 q.b.o, .int .u64 q.b.p, .bool q.b.i, .bool q.b.r, .bool q.b.d, .int .u32 q.m] 0 XB.out (noText_st 0 0 0 false Sup.zero 0 none 0 none 0) (noText_st q.s.length q.c.length q.f q.x q.b q.m A1 n1 B1 m1))
  replace XB := Lib.hid (show Box _ z9 [.slice A1 q.s.length n1, .slice B1 q.c.length m1, .int .i64 q.f, .bool q.x, .int .i64 q.b.n, .int .u64 q.b.c, .int .u64 q.b.b, .int .u64 q.b.o, .int .u64 q.b.p, .bool q.b.i, .bool q.b.r, .bool q.b.d, .int .u32 q.m] from XB.out.setL [.slice A1 q.s.length n1, .slice B1 q.c.length m1, .int .i64 q.f, .bool q.x, .int .i64 q.b.n, .int .u64 q.b.c, .int .u64 q.b.b, .int .u64 q.b.o, .int .u64 q.b.p, .bool q.b.i, .bool q.b.r, .bool q.b.d, .int .u32 q.m] 0)
  replace HW := Lib.hid (Below.setL (b := z9) (HZ9.out) [.slice A1 q.s.length n1, .slice B1 q.c.length m1, .int .i64 q.f, .bool q.x, .int .i64 q.b.n, .int .u64 q.b.c, .int .u64 q.b.b, .int .u64 q.b.o, .int .u64 q.b.p, .bool q.b.i, .bool q.b.r, .bool q.b.d, .int .u32 q.m] 0 HW.out)
  clear kx fx HS2 HO
  generalize hW : setL v16 z9 0 [.slice A1 q.s.length n1, .slice B1 q.c.length m1, .int .i64 q.f, .bool q.x, .int .i64 q.b.n, .int .u64 q.b.c, .int .u64 q.b.b, .int .u64 q.b.o, .int .u64 q.b.p, .bool q.b.i, .bool q.b.r, .bool q.b.d, .int .u32 q.m] = v17 at *
  simp only [setL, Nat.zero_add, Nat.reduceAdd] at hW
  simp only [hW] at hH17 ⊢
  clear hW hK K1 hH16
  refine wpAnyH_take (i := 12) (v := ?_) rfl (by kernel_rfl) (by kernel_rfl) (by kernel_rfl) (fun _ _ _ h => HP.out _ _ _ _ _ h) (Or.inl ⟨by rfl, ?_⟩) hH17 ?_
  rotate_left
  · (intro v hSw; go_simp; try with_reducible rfl)
  simp only [Act.put, List.setIfInBounds_toArray, List.set_cons_zero, List.set_cons_succ, List.getElem_toArray, List.getElem_cons_zero, List.getElem_cons_succ]
  refine wpAnyH_done (by kernel_rfl) ?_ _
  have H9 := Lib.hid hH17
  refine HK.out A1 n1 B1 m1 z9 _ (.tuple #[.agg #[.slice A1 q.s.length n1, .slice B1 q.c.length m1, .int .i64 q.f, .bool q.x, .int .i64 q.b.n, .int .u64 q.b.c, .int .u64 q.b.b, .int .u64 q.b.o, .int .u64 q.b.p, .bool q.b.i, .bool q.b.r, .bool q.b.d, .int .u32 q.m], .int .i64 0]) (.pointer (some ⟨z, 0, none⟩)) (.agg #[.slice A t.s.length n, .slice B t.c.length m, .int .i64 t.f, .bool t.x]) (.agg #[.slice A t.s.length n, .slice B t.c.length m, .int .i64 0, .bool true]) (.pointer (some ⟨ze, 1, none⟩)) (.slice KA kl.length kc) ((.agg #[.slice Ar q.s.length nr, .slice Br q.c.length mr, .int .i64 q.f, .bool false])) (.tuple #[.agg #[.slice A1 q.s.length n1, .slice B1 q.c.length m1, .int .i64 q.f, .bool q.x, .int .i64 q.b.n, .int .u64 q.b.c, .int .u64 q.b.b, .int .u64 q.b.o, .int .u64 q.b.p, .bool q.b.i, .bool q.b.r, .bool q.b.d, .int .u32 q.m], .int .i64 0]) (.agg #[.slice A1 q.s.length n1, .slice B1 q.c.length m1, .int .i64 q.f, .bool q.x, .int .i64 q.b.n, .int .u64 q.b.c, .int .u64 q.b.b, .int .u64 q.b.o, .int .u64 q.b.p, .bool q.b.i, .bool q.b.r, .bool q.b.d, .int .u32 q.m]) (.int .i64 0) H9.out HM1.out XB.out HW.out

theorem held_two {w v : World} {z ze : Nat} {vs ve : List Value} (hb : Below w.heap.size w v) (hx : Box v z vs) (he : Box v ze ve) : Held w [(z, vs), (ze, ve)] [] v :=
  ⟨hb, Boxs.cons hx (Boxs.cons he (Boxs.nil v)), by simp, by simp, by simp⟩

theorem revive_q {N : Nat} {t q : Sto} (hF : Fine N t.s t.c) (hC : t.c.length ≤ 900) (kl : List Bool) (hkl : kl.length ≤ 50) (hqs : q.s = layL t.s (keptL t.c kl t.c.length)) (hqc : q.c = []) (hqf : q.f = 0) (A B KA : Option Addr) (n m kc : Nat) (v : World) (hm : Mem v A n B m t.s t.c) (hk : Es Value.bool v v.heap.size KA kl) :
    Calls Tryz.prog 20 #[.agg #[.slice A t.s.length n, .slice B t.c.length m, .int .i64 0, .bool true], .slice KA kl.length kc] v fun e v' => ∃ Ar nr Br mr, e = .returned (.agg #[.slice Ar q.s.length nr, .slice Br q.c.length mr, .int .i64 q.f, .bool false]) ∧ Mem v' Ar nr Br mr q.s q.c ∧ Below v.heap.size v v' := by
  have hl := hF.len
  have h32 := hF.n32
  have h := rrevive_any A B KA n m kc t.s t.c kl 0 true v hm hk (by omega) (by omega) (by unfold maxLen; omega) hF.misfit
  rw [hqs, hqc, hqf]
  refine h.mono fun e w' g => ?_
  obtain ⟨A1, B1, n1, m1, g1, g2, g3⟩ := g
  exact ⟨A1, n1, B1, m1, g1, g2, g3⟩

set_option maxRecDepth 100000 in
set_option maxHeartbeats 8000000 in
theorem zwhole_great (nn fu : Int) (LA : Option Addr) (lc : Nat) (l : List Act) (KA : Option Addr) (kl : List Bool) (kc : Nat) (a : Addr) (w : World) (hl : As w w.heap.size LA l) (hkl : Es Value.bool w w.heap.size KA kl) (hg : Glob w a) (hG : greatA l = true) : Calls Tryz.prog 5 #[.int .u8 nn, .slice LA l.length lc, .agg #[.int .u8 fu, .slice KA kl.length kc]] w (Yes w) := by
  have hGA := fun (v : World) (h : As v v.heap.size LA l) => great_acts LA lc l v h
  rw [hG] at hGA
  have HB := Lib.hid (below1 (w := w) (o := .cells ([.int .u8 fu, .slice KA kl.length kc] : List Value).toArray 53))
  have XE := Lib.hid (Box.new w [.int .u8 fu, .slice KA kl.length kc] 53)
  have HG := Lib.hid hg; clear hg
  have HL := Lib.hid hl; clear hl
  have HKL := Lib.hid hkl; clear hkl
  unfold Yes
  go_enter Tryz.func5, Tryz.ntmps5
  go_wp2_with fail
  refine (zalive_any _ a (HG.out.up HB.out)).mono ?_
  rintro e w1 ⟨rfl, hb⟩
  replace HB := Lib.hid (ext HB.out hb)
  replace XE := Lib.hid (XE.out.below hb); clear hb
  go_wp2_with fail
  refine (hGA _ (HL.out.up HB.out)).mono ?_
  rintro e w2 ⟨rfl, hb⟩
  replace HB := Lib.hid (ext HB.out hb)
  replace XE := Lib.hid (XE.out.below hb); clear hb
  go_wp2_with fail
  go_ret
  exact ⟨ret_bool (by simp), HB.out⟩

set_option maxRecDepth 100000 in
set_option maxHeartbeats 8000000 in
theorem zwhole_many (nn fu : Int) (LA : Option Addr) (lc : Nat) (l : List Act) (KA : Option Addr) (kl : List Bool) (kc : Nat) (a : Addr) (w : World) (hl : As w w.heap.size LA l) (hkl : Es Value.bool w w.heap.size KA kl) (hg : Glob w a) (hG : greatA l = false) (hK : 50 < kl.length) : Calls Tryz.prog 5 #[.int .u8 nn, .slice LA l.length lc, .agg #[.int .u8 fu, .slice KA kl.length kc]] w (Yes w) := by
  have hGA := fun (v : World) (h : As v v.heap.size LA l) => great_acts LA lc l v h
  rw [hG] at hGA
  have HB := Lib.hid (below1 (w := w) (o := .cells ([.int .u8 fu, .slice KA kl.length kc] : List Value).toArray 53))
  have XE := Lib.hid (Box.new w [.int .u8 fu, .slice KA kl.length kc] 53)
  have HG := Lib.hid hg; clear hg
  have HL := Lib.hid hl; clear hl
  have HKL := Lib.hid hkl; clear hkl
  unfold Yes
  go_enter Tryz.func5, Tryz.ntmps5
  go_wp2_with fail
  refine (zalive_any _ a (HG.out.up HB.out)).mono ?_
  rintro e w1 ⟨rfl, hb⟩
  replace HB := Lib.hid (ext HB.out hb)
  replace XE := Lib.hid (XE.out.below hb); clear hb
  go_wp2_with fail
  refine (hGA _ (HL.out.up HB.out)).mono ?_
  rintro e w2 ⟨rfl, hb⟩
  replace HB := Lib.hid (ext HB.out hb)
  replace XE := Lib.hid (XE.out.below hb); clear hb
  have ke := XE.out.cell
  go_wp2_with fail
  go_ret
  exact ⟨ret_bool (by simp), HB.out⟩

set_option maxRecDepth 100000 in
set_option maxHeartbeats 8000000 in
theorem zwhole_go (nn fu : Int) (LA : Option Addr) (lc : Nat) (l : List Act) (KA : Option Addr) (kl : List Bool) (kc : Nat) (a : Addr) (w : World) (hl : As w w.heap.size LA l) (hkl : Es Value.bool w w.heap.size KA kl) (hg : Glob w a) (hG : greatA l = false) (hK : kl.length ≤ 50) (hw : ∀ x ∈ l, x.m < 4294967296 ∧ x.b.wide) (h0 : 0 ≤ nn) (h1 : nn < 256) (f0 : 0 ≤ fu) (f1 : fu < 256) : Calls Tryz.prog 5 #[.int .u8 nn, .slice LA l.length lc, .agg #[.int .u8 fu, .slice KA kl.length kc]] w (Yes w) := by
  have hGA := fun (v : World) (h : As v v.heap.size LA l) => great_acts LA lc l v h
  rw [hG] at hGA
  have HB := Lib.hid (below1 (w := w) (o := .cells ([.int .u8 fu, .slice KA kl.length kc] : List Value).toArray 53))
  have XE := Lib.hid (Box.new w [.int .u8 fu, .slice KA kl.length kc] 53)
  have HG := Lib.hid hg; clear hg
  have HL := Lib.hid hl; clear hl
  have HKL := Lib.hid hkl; clear hkl
  have HN := Lib.hid (acts_some hG); clear hG
  have HWD := Lib.hid hw; clear hw
  have HKN := Lib.hid hK
  obtain ⟨N, hN, hN1, hN2⟩ : ∃ N : Nat, 1 + nn % 32 = (N : Int) ∧ 1 ≤ N ∧ N ≤ 32 := ⟨(1 + nn % 32).toNat, by omega, by omega, by omega⟩
  unfold Yes
  go_enter Tryz.func5, Tryz.ntmps5
  go_wp2_with fail
  refine (zalive_any _ a (HG.out.up HB.out)).mono ?_
  rintro e w1 ⟨rfl, hb⟩
  replace HB := Lib.hid (ext HB.out hb)
  replace XE := Lib.hid (XE.out.below hb); clear hb
  go_wp2_with fail
  refine (hGA _ (HL.out.up HB.out)).mono ?_
  rintro e w2 ⟨rfl, hb⟩
  replace HB := Lib.hid (ext HB.out hb)
  replace XE := Lib.hid (XE.out.below hb); clear hb
  have ke := XE.out.cell
  go_wp2_with fail
  clear ke
  refine (rznew_any hN1 hN2 _).mono ?_
  rintro e w3 ⟨A0, n0, B0, m0, rfl, hm, hb⟩
  have hb2 : Below w3.heap.size w3 (w3.alloc (.cells ([.slice A0 (newS N).s.length n0, .slice B0 (newS N).c.length m0, .int .i64 (newS N).f, .bool (newS N).x, .int .i64 (newS N).b.n, .int .u64 (newS N).b.c, .int .u64 (newS N).b.b, .int .u64 (newS N).b.o, .int .u64 (newS N).b.p, .bool (newS N).b.i, .bool (newS N).b.r, .bool (newS N).b.d, .int .u32 (newS N).m] : List Value).toArray 34)) := below1
  have HM := Lib.hid (hm.up hb2)
  have HX := Lib.hid (Box.new w3 [.slice A0 (newS N).s.length n0, .slice B0 (newS N).c.length m0, .int .i64 (newS N).f, .bool (newS N).x, .int .i64 (newS N).b.n, .int .u64 (newS N).b.c, .int .u64 (newS N).b.b, .int .u64 (newS N).b.o, .int .u64 (newS N).b.p, .bool (newS N).b.i, .bool (newS N).b.r, .bool (newS N).b.d, .int .u32 (newS N).m] 34)
  have HZ : Hid (w.heap.size ≤ w3.heap.size) := (ext HB.out hb).size
  have HZL : Hid (w.heap.size < w3.heap.size) := Nat.lt_of_lt_of_le XE.out.lt hb.size
  replace XE := Lib.hid ((XE.out.below hb).below hb2)
  replace HB := Lib.hid (ext (ext HB.out hb) hb2); clear hb hb2 hm
  go_upto_region 6 with fail
  generalize w3.alloc (.cells #[.slice A0 (newS N).s.length n0, .slice B0 (newS N).c.length m0, .int .i64 (newS N).f, .bool (newS N).x, .int .i64 (newS N).b.n, .int .u64 (newS N).b.c, .int .u64 (newS N).b.b, .int .u64 (newS N).b.o, .int .u64 (newS N).b.p, .bool (newS N).b.i, .bool (newS N).b.r, .bool (newS N).b.d, .int .u32 (newS N).m] 34) = w4 at *
  generalize w3.heap.size = z7 at *
  have kx := HX.out.cell
  have ke := XE.out.cell
  go_wp2_with fail
  refine (rarm_any A0 B0 (newS N).s.length n0 (newS N).c.length m0 (newS N).f fu (newS N).x _).mono ?_
  rw [if_neg (show ¬ fu < 0 by omega)]
  rintro e w5 ⟨rfl, hb⟩
  clear kx ke
  replace HM := Lib.hid (HM.out.up hb)
  replace HX := Lib.hid (HX.out.below hb)
  replace XE := Lib.hid (XE.out.below hb)
  replace HB := Lib.hid (ext HB.out hb); clear hb
  have kx := HX.out.cell
  have fx := HX.out.frozen
  go_upto_region 7 with fail
  have hW0 := whole_arm (whole_new hN1 hN2) f0
  obtain ⟨t0, ht0⟩ : ∃ t0 : Sto, (⟨(newS N).s, (newS N).c, fu, (newS N).x, (newS N).b, (newS N).m⟩ : Sto) = t0 := ⟨_, rfl⟩
  have HM1 : Hid (Mem (setL w5 z7 0 [.slice A0 (newS N).s.length n0, .slice B0 (newS N).c.length m0, .int .i64 fu, .bool (newS N).x]) A0 n0 B0 m0 t0.s t0.c) := by
    rw [← ht0]
    exact HM.out.setL _ 0 HX.out (noText_st _ _ _ _ _ _ _ _ _ _) (noText_four A0 B0 _ n0 _ m0 fu _)
  have HX1 : Hid (Box (setL w5 z7 0 [.slice A0 (newS N).s.length n0, .slice B0 (newS N).c.length m0, .int .i64 fu, .bool (newS N).x]) z7 [.slice A0 t0.s.length n0, .slice B0 t0.c.length m0, .int .i64 t0.f, .bool t0.x, .int .i64 t0.b.n, .int .u64 t0.b.c, .int .u64 t0.b.b, .int .u64 t0.b.o, .int .u64 t0.b.p, .bool t0.b.i, .bool t0.b.r, .bool t0.b.d, .int .u32 t0.m]) := by
    rw [← ht0]
    exact HX.out.setL [.slice A0 (newS N).s.length n0, .slice B0 (newS N).c.length m0, .int .i64 fu, .bool (newS N).x] 0
  have HB1 := Lib.hid (Below.setL (b := z7) HZ.out [.slice A0 (newS N).s.length n0, .slice B0 (newS N).c.length m0, .int .i64 fu, .bool (newS N).x] 0 HB.out)
  have XE1 := Lib.hid (XE.out.setO (b := z7) (by have := HZL.out; omega) [.slice A0 (newS N).s.length n0, .slice B0 (newS N).c.length m0, .int .i64 fu, .bool (newS N).x] 0)
  rw [ht0] at hW0
  have HW0 := Lib.hid hW0; clear hW0
  have HC0 : Hid (t0.c.length ≤ 0 ∧ t0.f ≤ 255) := by rw [← ht0]; exact ⟨Nat.le_refl _, by show fu ≤ 255; omega⟩
  generalize hW6 : setL w5 z7 0 [.slice A0 (newS N).s.length n0, .slice B0 (newS N).c.length m0, .int .i64 fu, .bool (newS N).x] = w6 at *
  simp only [setL, Nat.zero_add, Nat.reduceAdd] at hW6
  simp only [hW6]
  clear hW6 kx fx HM HX HB XE ht0
  go_wp2_with fail
  go_loopw [8] (fun i wr => ∃ (k : Nat) (t : Sto) (A1 : Option Addr) (n1 : Nat) (B1 : Option Addr) (m1 : Nat), k ≤ l.length ∧ i = .int .i64 k ∧ Hid (Whole N t) ∧ Hid (t.c.length ≤ k ∧ t.f ≤ 255) ∧ Hid (Mem wr A1 n1 B1 m1 t.s t.c) ∧ Hid (Box wr z7 [.slice A1 t.s.length n1, .slice B1 t.c.length m1, .int .i64 t.f, .bool t.x, .int .i64 t.b.n, .int .u64 t.b.c, .int .u64 t.b.b, .int .u64 t.b.o, .int .u64 t.b.p, .bool t.b.i, .bool t.b.r, .bool t.b.d, .int .u32 t.m]) ∧ Hid (Box wr w.heap.size [.int .u8 fu, .slice KA kl.length kc]) ∧ Hid (Below w.heap.size w wr)) (fun i _ => l.length - (intOf i).toNat)
  case atStart => exact ⟨0, t0, A0, n0, B0, m0, by omega, rfl, HW0.out, HC0.out, HM1.out, HX1.out, XE1.out, HB1.out⟩
  case round =>
    obtain ⟨k, t, A1, n1, B1, m1, hk, rfl, HWh, HC, HMm, HX, XEr, HBr⟩ := hrel
    clear HW0 HC0 HM1 HX1 HB1 XE1
    have h40 : l.length ≤ 40 := HN.out
    by_cases hlt : k < l.length
    · obtain ⟨la, hla, hlab, hat⟩ := HL.out k l[k] (List.getElem?_eq_getElem hlt)
      subst hla
      have hq := HWD.out l[k] (List.getElem_mem hlt)
      have HAT := Lib.hid hat; clear hat
      have HLB := Lib.hid hlab; clear hlab
      generalize l[k] = p at *
      have HF := Lib.hid (HWh.out.fine.fit (f := t.f) (by have := HC.out.1; have := HN.out; omega) (by have := HC.out.2; omega))
      have hD := fun (w0 v : World) (h : Mem w0 A1 n1 B1 m1 t.s t.c) (hb : Below w0.heap.size w0 v) => do_any A1 B1 n1 m1 t p v (h.up hb) HF.out (mask_small HWh.out.mr) hq.1 hq.2
      have g := goes_act HWh.out hq.2
      generalize t.act p = r at *
      obtain ⟨⟨t1, e1⟩, d1⟩ := r
      have HD := Lib.hid hD; clear hD
      have HGo := Lib.hid g; clear g hq
      have HCn : Hid (t1.c.length ≤ k + 1 ∧ t1.f ≤ 255) := ⟨by have := HGo.out.len; have := HC.out.1; dsimp only at *; omega, by have := HGo.out.f1; have := HC.out.2; dsimp only at *; omega⟩
      go_wp2_with fail
      refine rw10 w _ z7 t t1 e1 d1 A1 B1 n1 m1 la lc l k hlt p _ _ _ _ _ _ _ _ _ _ _ _ _ _ _ _ _ _ _ _ _ _ _ _ _ _ _ _ _ _ _ _ _ _ _ _ _ _ _ _ _ _ _ _ _ _ _ _ _ _ _ _ _ _ _ _ _ _ _ _ _ _ _ _ _ _ _ _ _ _ _ _ _ _ _ _ _ _ _ _ _ _ (held_one HBr.out HX.out) HAT.out HLB.out (fun _ _ d _ _ h => by cases d <;> exact h) (fun v hb => HD.out _ v HMm.out hb) ?_
      intro A2 n2 B2 m2 z9 w7 v42 v43 v44 v45 v46 v47 v48 v49 v50 v51 hH hM2 hX9 hb
      have H7 := Lib.hid hH; clear hH
      have M7 := Lib.hid hM2; clear hM2
      have X9 := Lib.hid hX9; clear hX9
      have XE7 := Lib.hid (XEr.out.below hb)
      clear hb HMm HX HBr XEr HD HAT HLB
      have BZ := Lib.hid H7.out.b0
      have k9 := X9.out.cell
      have kz := BZ.out.cell
      have fz := BZ.out.frozen
      go_upto_region 12 with fail
      have HMn := Lib.hid (M7.out.setL [.slice A2 t1.s.length n2, .slice B2 t1.c.length m2, .int .i64 t1.f, .bool t1.x, .int .i64 t1.b.n, .int .u64 t1.b.c, .int .u64 t1.b.b, .int .u64 t1.b.o, .int .u64 t1.b.p, .bool t1.b.i, .bool t1.b.r, .bool t1.b.d, .int .u32 t1.m] 0 BZ.out (noText_st _ _ _ _ _ _ _ _ _ _) (noText_st t1.s.length t1.c.length t1.f t1.x t1.b t1.m A2 n2 B2 m2))
      have HXn := Lib.hid (show Box _ z7 [.slice A2 t1.s.length n2, .slice B2 t1.c.length m2, .int .i64 t1.f, .bool t1.x, .int .i64 t1.b.n, .int .u64 t1.b.c, .int .u64 t1.b.b, .int .u64 t1.b.o, .int .u64 t1.b.p, .bool t1.b.i, .bool t1.b.r, .bool t1.b.d, .int .u32 t1.m] from BZ.out.setL [.slice A2 t1.s.length n2, .slice B2 t1.c.length m2, .int .i64 t1.f, .bool t1.x, .int .i64 t1.b.n, .int .u64 t1.b.c, .int .u64 t1.b.b, .int .u64 t1.b.o, .int .u64 t1.b.p, .bool t1.b.i, .bool t1.b.r, .bool t1.b.d, .int .u32 t1.m] 0)
      have HBn := Lib.hid (Below.setL (b := z7) HZ.out [.slice A2 t1.s.length n2, .slice B2 t1.c.length m2, .int .i64 t1.f, .bool t1.x, .int .i64 t1.b.n, .int .u64 t1.b.c, .int .u64 t1.b.b, .int .u64 t1.b.o, .int .u64 t1.b.p, .bool t1.b.i, .bool t1.b.r, .bool t1.b.d, .int .u32 t1.m] 0 H7.out.below)
      have XEn := Lib.hid (XE7.out.setO (b := z7) (by have := HZL.out; omega) [.slice A2 t1.s.length n2, .slice B2 t1.c.length m2, .int .i64 t1.f, .bool t1.x, .int .i64 t1.b.n, .int .u64 t1.b.c, .int .u64 t1.b.b, .int .u64 t1.b.o, .int .u64 t1.b.p, .bool t1.b.i, .bool t1.b.r, .bool t1.b.d, .int .u32 t1.m] 0)
      generalize hWn : setL w7 z7 0 [.slice A2 t1.s.length n2, .slice B2 t1.c.length m2, .int .i64 t1.f, .bool t1.x, .int .i64 t1.b.n, .int .u64 t1.b.c, .int .u64 t1.b.b, .int .u64 t1.b.o, .int .u64 t1.b.p, .bool t1.b.i, .bool t1.b.r, .bool t1.b.d, .int .u32 t1.m] = w8 at *
      simp only [setL, Nat.zero_add, Nat.reduceAdd] at hWn
      simp only [hWn]
      clear hWn k9 kz fz BZ H7 M7 X9 XE7
      have kz := HXn.out.cell
      cases hx1 : t1.x with
      | true =>
        have HFi : Hid (Fine N t1.s t1.c) := HGo.out.fine
        rw [hx1] at kz
        have HX1 := Lib.hid hx1; clear hx1
        go_upto_region 15 with fail
        clear kz
        obtain ⟨q, hWq, hqs, hqc, hqf, _, _⟩ := kept_again (t := t1) HFi.out kl
        have hRV := fun (v0 v : World) (h : Mem v0 A2 n2 B2 m2 t1.s t1.c) (hB0 : Below w.heap.size w v0) (hb : Below v0.heap.size v0 v) => revive_q (q := q) HFi.out (by have := HCn.out.1; omega) kl HKN.out hqs hqc hqf A2 B2 KA n2 m2 kc v (h.up hb) (HKL.out.up (ext hB0 hb))
        have hFq : Fit q.s q.c q.f := hWq.fine.fit (by rw [hqc]; decide) (by rw [hqf]; decide)
        have hAT := fun (v : World) (Ar : Option Addr) (nr : Nat) (Br : Option Addr) (mr : Nat) (h : Mem v Ar nr Br mr q.s q.c) (hg : Glob v a) => zattach_whole hWq Ar Br nr mr v h hFq a hg
        have hWH := fun (A9 B9 : Option Addr) (n9 m9 : Nat) (v : World) (h : Mem v A9 n9 B9 m9 q.s q.c) => rzwhole_any A9 B9 n9 m9 hWq v h hFq
        have HBN : Hid (q.b.n = (N : Int)) := hWq.bn
        have HRV := Lib.hid hRV; clear hRV
        have HAT := Lib.hid hAT; clear hAT
        have HWH := Lib.hid hWH; clear hWH
        clear hWq hqs hqc hqf hFq
        go_wp2_with fail
        refine rw15 w _ z7 w.heap.size t1 q A2 B2 n2 m2 fu KA kl kc a _ _ _ _ _ _ _ _ _ _ _ _ _ _ _ _ _ _ _ _ _ _ _ _ _ _ _ _ _ _ _ _ _ _ _ _ _ _ _ _ _ _ _ _ _ _ _ _ _ _ _ _ _ _ _ _ _ _ _ _ _ _ _ _ _ _ _ _ _ _ _ _ _ _ _ _ _ _ _ _ _ _ _ (held_two HBn.out HXn.out XEn.out) (HG.out.up HBn.out) (fun _ _ d _ _ h => by cases d <;> exact h) (fun v hb => HRV.out _ v HMn.out HBn.out hb) (fun v Ar nr Br mr h hg => HAT.out v Ar nr Br mr h hg) ?_
        intro A8 n8 B8 m8 z12 w12 v59 v60 v61 v62 v63 v64 v65 v66 v67 v68 hH hM8 hX8 hb
        have H12 := Lib.hid hH; clear hH
        have k12 := hX8.cell
        have M12 := Lib.hid hM8; clear hM8
        have HBt := Lib.hid HBn.out
        have X12 := Lib.hid hX8; clear hX8
        go_wp2_with fail
        refine (HWH.out A8 B8 n8 m8 _ M12.out).mono ?_
        rintro e w13 ⟨rfl, hb3⟩
        have hX13 := X12.out.below hb3
        clear k12
        have k12 := hX13.cell
        have HB13 := Lib.hid (ext (ext HBt.out hb) hb3)
        clear hb hb3 hX13 X12 M12 H12
        have hbn := HBN.out
        go_wp2_with fail
        go_ret
        exact ⟨ret_bool (by simp), HB13.out⟩
      | false =>
        have hWl : Whole N t1 := HGo.out.live hx1
        have HWl := Lib.hid hWl; clear hWl
        have HF1 := Lib.hid (HWl.out.fine.fit (f := t1.f) (by have := HCn.out.1; omega) (by have := HCn.out.2; omega))
        rw [hx1] at kz
        have hWH1 := fun (v : World) (h : Mem v A2 n2 B2 m2 t1.s t1.c) => rzwhole_any A2 B2 n2 m2 HWl.out v h HF1.out
        dsimp only [toV, stV] at hWH1
        rw [hx1] at hWH1
        go_wp2_with fail
        refine (hWH1 _ HMn.out).mono ?_
        rintro e w9 ⟨rfl, hb⟩
        have HMo := Lib.hid (HMn.out.up hb)
        have HXo := Lib.hid (HXn.out.below hb)
        have XEo := Lib.hid (XEn.out.below hb)
        have HBo := Lib.hid (ext HBn.out hb)
        clear hb kz hWH1 hx1 HMn HXn XEn HBn
        go_wp2_with fail
        go_roundw
        case rel => exact ⟨k + 1, t1, A2, n2, B2, m2, by omega, by go_num, HWl.out, HCn.out, HMo.out, HXo.out, XEo.out, HBo.out⟩
        case measure => simp [intOf]; omega
    · obtain rfl : k = l.length := by omega
      have HFi := Lib.hid HWh.out.fine
      go_upto_region 15 with fail
      obtain ⟨q, hWq, hqs, hqc, hqf, _, _⟩ := kept_again (t := t) HFi.out kl
      have hRV := fun (v0 v : World) (h : Mem v0 A1 n1 B1 m1 t.s t.c) (hB0 : Below w.heap.size w v0) (hb : Below v0.heap.size v0 v) => revive_q (q := q) HFi.out (by have := HC.out.1; omega) kl HKN.out hqs hqc hqf A1 B1 KA n1 m1 kc v (h.up hb) (HKL.out.up (ext hB0 hb))
      have hFq : Fit q.s q.c q.f := hWq.fine.fit (by rw [hqc]; decide) (by rw [hqf]; decide)
      have hAT := fun (v : World) (Ar : Option Addr) (nr : Nat) (Br : Option Addr) (mr : Nat) (h : Mem v Ar nr Br mr q.s q.c) (hg : Glob v a) => zattach_whole hWq Ar Br nr mr v h hFq a hg
      have hWH := fun (A9 B9 : Option Addr) (n9 m9 : Nat) (v : World) (h : Mem v A9 n9 B9 m9 q.s q.c) => rzwhole_any A9 B9 n9 m9 hWq v h hFq
      have HBN : Hid (q.b.n = (N : Int)) := hWq.bn
      have HRV := Lib.hid hRV; clear hRV
      have HAT := Lib.hid hAT; clear hAT
      have HWH := Lib.hid hWH; clear hWH
      clear hWq hqs hqc hqf hFq
      go_wp2_with fail
      refine rw15 w _ z7 w.heap.size t q A1 B1 n1 m1 fu KA kl kc a _ _ _ _ _ _ _ _ _ _ _ _ _ _ _ _ _ _ _ _ _ _ _ _ _ _ _ _ _ _ _ _ _ _ _ _ _ _ _ _ _ _ _ _ _ _ _ _ _ _ _ _ _ _ _ _ _ _ _ _ _ _ _ _ _ _ _ _ _ _ _ _ _ _ _ _ _ _ _ _ _ _ _ (held_two HBr.out HX.out XEr.out) (HG.out.up HBr.out) (fun _ _ d _ _ h => by cases d <;> exact h) (fun v hb => HRV.out _ v HMm.out HBr.out hb) (fun v Ar nr Br mr h hg => HAT.out v Ar nr Br mr h hg) ?_
      intro A8 n8 B8 m8 z12 w12 v59 v60 v61 v62 v63 v64 v65 v66 v67 v68 hH hM8 hX8 hb
      have H12 := Lib.hid hH; clear hH
      have k12 := hX8.cell
      have M12 := Lib.hid hM8; clear hM8
      have HBt := Lib.hid HBr.out
      have X12 := Lib.hid hX8; clear hX8
      go_wp2_with fail
      refine (HWH.out A8 B8 n8 m8 _ M12.out).mono ?_
      rintro e w13 ⟨rfl, hb3⟩
      have hX13 := X12.out.below hb3
      clear k12
      have k12 := hX13.cell
      have HB13 := Lib.hid (ext (ext HBt.out hb) hb3)
      clear hb hb3 hX13 X12 M12 H12
      have hbn := HBN.out
      go_wp2_with fail
      go_ret
      exact ⟨ret_bool (by simp), HB13.out⟩

theorem zwhole_law (nn fu : Int) (LA : Option Addr) (lc : Nat) (l : List Act) (KA : Option Addr) (kl : List Bool) (kc : Nat) (a : Addr) (w : World) (hl : As w w.heap.size LA l) (hkl : Es Value.bool w w.heap.size KA kl) (hg : Glob w a) (hw : ∀ x ∈ l, x.m < 4294967296 ∧ x.b.wide) (h0 : 0 ≤ nn) (h1 : nn < 256) (f0 : 0 ≤ fu) (f1 : fu < 256) : Calls Tryz.prog 5 #[.int .u8 nn, .slice LA l.length lc, .agg #[.int .u8 fu, .slice KA kl.length kc]] w (Yes w) := by
  cases hG : greatA l with
  | true => exact zwhole_great nn fu LA lc l KA kl kc a w hl hkl hg hG
  | false =>
    by_cases hK : 50 < kl.length
    · exact zwhole_many nn fu LA lc l KA kl kc a w hl hkl hg hG hK
    · exact zwhole_go nn fu LA lc l KA kl kc a w hl hkl hg hG (by omega) hw h0 h1 f0 f1
end Go.Proofs.YtjkgellkkjjnbaaGreatDoor
