/- StoreMarks, walked: for every number and every two rows of numbers. Under: both package variables as they are laid. -/
import Derived.Test.YtjkgellkkjjnbaaGreatDoorZR
namespace Go.Proofs.YtjkgellkkjjnbaaGreatDoor
open Go.RowKit

set_option maxRecDepth 100000 in
set_option maxHeartbeats 8000000 in
theorem rm9 {K : Go.Act → World → Prop} {Q : Exit → Go.Act → World → Prop} (w0 w : World) (z : Nat) (t t1 : Sto) (e1 : Int) (A B : Option Addr) (n m : Nat) (la : Addr) (lc : Nat) (l : List Int) (k : Nat) (hlt : k < l.length) (i : Int) (u0 u2 u3 u4 u5 u6 u9 u10 u11 u12 u13 u14 u15 u16 u17 u18 u19 u20 u21 u22 u23 u24 u25 u26 u27 u28 u29 u30 u31 u32 u33 u34 u35 u36 u37 u38 u39 u40 u41 u42 u43 u44 u45 u46 u47 u48 u49 u50 u51 u52 u53 u54 u55 u56 u57 u58 u59 u60 u61 u62 u63 u64 u65 u66 u67 u68 u69 u70 u71 u72 u73 u74 u75 u76 u77 u78 u79 u80 u81 u82 u83 u84 u85 u86 u87 u88 u89 u90 u91 u92 u93 u94 u95 u96 u97 u98 u99 u100 u101 u102 u103 u104 u105 u106 u107 u108 u109 u110 u111 u112 u113 u114 u115 u116 u117 u118 u119 : Value)
    (hx : Held w0 [(z, [.slice A t.s.length n, .slice B t.c.length m, .int .i64 t.f, .bool t.x, .int .i64 t.b.n, .int .u64 t.b.c, .int .u64 t.b.b, .int .u64 t.b.o, .int .u64 t.b.p, .bool t.b.i, .bool t.b.r, .bool t.b.d, .int .u32 t.m])] [] w) (ha : w0.cell? (la.add k) = some (.int .i64 i)) (hla : la.block < w0.heap.size) (hP : ∀ c (a : Go.Act) d v w, Q (.panic c) (a.put d v) w → Q (.panic c) a w)
    (hR : ∀ v, Below w.heap.size w v → Calls Tryz.prog 22 #[.agg #[.slice A t.s.length n, .slice B t.c.length m, .int .i64 t.f, .bool t.x, .int .i64 t.b.n, .int .u64 t.b.c, .int .u64 t.b.b, .int .u64 t.b.o, .int .u64 t.b.p, .bool t.b.i, .bool t.b.r, .bool t.b.d, .int .u32 t.m], .int .i64 i] v (GivesS t1 e1 v))
    (hK : ∀ A1 n1 B1 m1 z9 w2 v38 v39 v40 v41 v42 v43 v44 v45 v46, Held w0 [(z, [.slice A t.s.length n, .slice B t.c.length m, .int .i64 t.f, .bool t.x, .int .i64 t.b.n, .int .u64 t.b.c, .int .u64 t.b.b, .int .u64 t.b.o, .int .u64 t.b.p, .bool t.b.i, .bool t.b.r, .bool t.b.d, .int .u32 t.m])] [] w2 → Mem w2 A1 n1 B1 m1 t1.s t1.c → Box w2 z9 [.slice A1 t1.s.length n1, .slice B1 t1.c.length m1, .int .i64 t1.f, .bool t1.x, .int .i64 t1.b.n, .int .u64 t1.b.c, .int .u64 t1.b.b, .int .u64 t1.b.o, .int .u64 t1.b.p, .bool t1.b.i, .bool t1.b.r, .bool t1.b.d, .int .u32 t1.m] → Below w.heap.size w w2 → K { tmps := #[u0, .slice (some la) l.length lc, u2, u3, u4, u5, u6, .pointer (some ⟨z, 0, none⟩), .int .i64 (k : Int), .pointer (some ⟨z9, 0, none⟩), .int .i64 e1, u11, u12, u13, u14, u15, u16, u17, u18, u19, u20, u21, u22, u23, u24, u25, u26, u27, u28, u29, u30, u31, u32, u33, u34, u35, u36, u37, v38, v39, v40, v41, v42, v43, v44, v45, v46, u47, u48, u49, u50, u51, u52, u53, u54, u55, u56, u57, u58, u59, u60, u61, u62, u63, u64, u65, u66, u67, u68, u69, u70, u71, u72, u73, u74, u75, u76, u77, u78, u79, u80, u81, u82, u83, u84, u85, u86, u87, u88, u89, u90, u91, u92, u93, u94, u95, u96, u97, u98, u99, u100, u101, u102, u103, u104, u105, u106, u107, u108, u109, u110, u111, u112, u113, u114, u115, u116, u117, u118, u119], defers := [] } w2) :
    (regOf 9 Tryz.f6).wp Tryz.prog (Exit.then K Q) { tmps := #[u0, .slice (some la) l.length lc, u2, u3, u4, u5, u6, .pointer (some ⟨z, 0, none⟩), .int .i64 (k : Int), u9, u10, u11, u12, u13, u14, u15, u16, u17, u18, u19, u20, u21, u22, u23, u24, u25, u26, u27, u28, u29, u30, u31, u32, u33, u34, u35, u36, u37, u38, u39, u40, u41, u42, u43, u44, u45, u46, u47, u48, u49, u50, u51, u52, u53, u54, u55, u56, u57, u58, u59, u60, u61, u62, u63, u64, u65, u66, u67, u68, u69, u70, u71, u72, u73, u74, u75, u76, u77, u78, u79, u80, u81, u82, u83, u84, u85, u86, u87, u88, u89, u90, u91, u92, u93, u94, u95, u96, u97, u98, u99, u100, u101, u102, u103, u104, u105, u106, u107, u108, u109, u110, u111, u112, u113, u114, u115, u116, u117, u118, u119], defers := [] } w := by
  have HX := Lib.hid hx; clear hx
  have HA := Lib.hid ha; clear ha
  have HB : Hid (la.block < w0.heap.size) := hla
  clear hla
  have HR := Lib.hid hR; clear hR
  have HK := Lib.hid hK; clear hK
  have HP := Lib.hid hP; clear hP
  change Code.wp Tryz.prog (Code.region 9 _ true) _ _ _
  refine held_start (S := Held w0 [(z, [.slice A t.s.length n, .slice B t.c.length m, .int .i64 t.f, .bool t.x, .int .i64 t.b.n, .int .u64 t.b.c, .int .u64 t.b.b, .int .u64 t.b.o, .int .u64 t.b.p, .bool t.b.i, .bool t.b.r, .bool t.b.d, .int .u32 t.m])] []) (by kernel_rfl) HX.out.drew (fun v0 hv0 hH0 => ?_)
  have HW := Lib.hid hv0
  clear hv0
  refine wpAnyH_take (i := 0) (v := ?_) rfl (by kernel_rfl) (by kernel_rfl) (by kernel_rfl) (fun _ _ _ h => HP.out _ _ _ _ _ h) (Or.inl ⟨by rfl, ?_⟩) hH0 ?_
  rotate_left
  · (intro v hSw; have k0 := hSw.b0.cell; go_simp; try with_reducible rfl)
  simp only [Act.put, List.setIfInBounds_toArray, List.set_cons_zero, List.set_cons_succ, List.getElem_toArray, List.getElem_cons_zero]
  refine wpAnyH_take (i := 1) (v := ?_) rfl (by kernel_rfl) (by kernel_rfl) (by kernel_rfl) (fun _ _ _ h => HP.out _ _ _ _ _ h) (Or.inl ⟨by rfl, ?_⟩) hH0 ?_
  rotate_left
  · (intro v hSw; go_simp; try with_reducible rfl)
  simp only [Act.put, List.setIfInBounds_toArray, List.set_cons_zero, List.set_cons_succ, List.getElem_toArray, List.getElem_cons_zero, List.getElem_cons_succ]
  refine wpAnyH_take (i := 2) (v := ?_) rfl (by kernel_rfl) (by kernel_rfl) (by kernel_rfl) (fun _ _ _ h => HP.out _ _ _ _ _ h) (Or.inl ⟨by rfl, ?_⟩) hH0 ?_
  rotate_left
  · (intro v hSw; go_simp; try with_reducible rfl)
  simp only [Act.put, List.setIfInBounds_toArray, List.set_cons_zero, List.set_cons_succ, List.getElem_toArray, List.getElem_cons_zero, List.getElem_cons_succ]
  refine wpAnyH_take (i := 3) (v := ?_) rfl (by kernel_rfl) (by kernel_rfl) (by kernel_rfl) (fun _ _ _ h => HP.out _ _ _ _ _ h) (Or.inl ⟨by rfl, ?_⟩) hH0 ?_
  rotate_left
  · (intro v hSw; go_simp; try with_reducible rfl)
  simp only [Act.put, List.setIfInBounds_toArray, List.set_cons_zero, List.set_cons_succ, List.getElem_toArray, List.getElem_cons_zero, List.getElem_cons_succ]
  refine wpAnyH_take (i := 4) (v := ?_) rfl (by kernel_rfl) (by kernel_rfl) (by kernel_rfl) (fun _ _ _ h => HP.out _ _ _ _ _ h) (Or.inl ⟨by rfl, ?_⟩) hH0 ?_
  rotate_left
  · (intro v hSw; have c0 := (hSw.below.cell (p := la.add k) (by rw [zadd_block]; exact HB.out)).trans HA.out; go_simp; try with_reducible rfl)
  simp only [Act.put, List.setIfInBounds_toArray, List.set_cons_zero, List.set_cons_succ, List.getElem_toArray, List.getElem_cons_zero, List.getElem_cons_succ]
  refine wpAnyH_ready (rs := [5, 9]) (by kernel_rfl) (by simp) ?_
  refine AllReadyH.cons rfl (fun K1 hK => ?_) ?_
  · go_simp
    refine (HR.out v0 HW.out).mono ?_
    rintro e v1 ⟨A1, n1, B1, m1, rfl, hm1, hb⟩
    have HM1 := Lib.hid hm1
    try replace XB := Lib.hid (XB.out.below hb)
    try replace HO := Lib.hid (HO.out.up hb)
    replace HW := Lib.hid (ext HW.out hb)
    go_wp2_with fail
    refine hK.out _ _ (hH0.up hb) (fun hH1 => ?_)
    clear hK K1 hH0 hb hm1
    refine wpAnyH_take (i := 6) (v := ?_) rfl (by kernel_rfl) (by kernel_rfl) (by kernel_rfl) (fun _ _ _ h => HP.out _ _ _ _ _ h) (Or.inl ⟨by rfl, ?_⟩) hH1 ?_
    rotate_left
    · (intro v hSw; go_simp; try with_reducible rfl)
    simp only [Act.put, List.setIfInBounds_toArray, List.set_cons_zero, List.set_cons_succ, List.getElem_toArray, List.getElem_cons_zero, List.getElem_cons_succ]
    refine wpAnyH_take (i := 7) (v := ?_) rfl (by kernel_rfl) (by kernel_rfl) (by kernel_rfl) (fun _ _ _ h => HP.out _ _ _ _ _ h) (Or.inl ⟨by rfl, ?_⟩) hH1 ?_
    rotate_left
    · (intro v hSw; go_simp; try with_reducible rfl)
    simp only [Act.put, List.setIfInBounds_toArray, List.set_cons_zero, List.set_cons_succ, List.getElem_toArray, List.getElem_cons_zero, List.getElem_cons_succ]
    refine wpAnyH_take (i := 8) (v := ?_) rfl (by kernel_rfl) (by kernel_rfl) (by kernel_rfl) (fun _ _ _ h => HP.out _ _ _ _ _ h) (Or.inl ⟨by rfl, ?_⟩) hH1 ?_
    rotate_left
    · (intro v hSw; go_simp; try with_reducible rfl)
    simp only [Act.put, List.setIfInBounds_toArray, List.set_cons_zero, List.set_cons_succ, List.getElem_toArray, List.getElem_cons_zero, List.getElem_cons_succ]
    refine wpAnyH_ready (rs := [9]) (by kernel_rfl) (by simp) ?_
    refine AllReadyH.cons rfl (fun K1 hK => ?_) AllReadyH.nil
    go_simp
    refine hK.out _ _ (hH1.alloc _) (fun hH2 => ?_)
    have HO := Lib.hid (hH1.own [.slice none 0 0, .slice none 0 0, .int .i64 0, .bool false, .int .i64 0, .int .u64 0, .int .u64 0, .int .u64 0, .int .u64 0, .bool false, .bool false, .bool false, .int .u32 0] 34 (n := 13) rfl)
    have HZ9 : Hid (w.heap.size ≤ v1.heap.size) := HW.out.size
    have XB := Lib.hid (Box.new v1 [.slice none 0 0, .slice none 0 0, .int .i64 0, .bool false, .int .i64 0, .int .u64 0, .int .u64 0, .int .u64 0, .int .u64 0, .bool false, .bool false, .bool false, .int .u32 0] 34)
    have hb : Below v1.heap.size v1 (v1.alloc (.cells ([.slice none 0 0, .slice none 0 0, .int .i64 0, .bool false, .int .i64 0, .int .u64 0, .int .u64 0, .int .u64 0, .int .u64 0, .bool false, .bool false, .bool false, .int .u32 0] : List Value).toArray 34)) := below1
    try replace HM1 := Lib.hid (HM1.out.up hb)
    replace HW := Lib.hid (ext HW.out hb)
    generalize v1.alloc (.cells #[.slice none 0 0, .slice none 0 0, .int .i64 0, .bool false, .int .i64 0, .int .u64 0, .int .u64 0, .int .u64 0, .int .u64 0, .bool false, .bool false, .bool false, .int .u32 0] 34) = v2 at *
    generalize hz : v1.heap.size = z9 at *
    clear hz hb hK K1 hH1
    refine wpAnyH_ready (rs := [10]) (by kernel_rfl) (by simp) ?_
    refine AllReadyH.cons rfl (fun K1 hK => ?_) AllReadyH.nil
    have kx := XB.out.cell
    have fx := XB.out.frozen
    have HS2 := HO.out.setL (b := z9) ⟨13, by simp⟩ [.slice A1 t1.s.length n1, .slice B1 t1.c.length m1, .int .i64 t1.f, .bool t1.x, .int .i64 t1.b.n, .int .u64 t1.b.c, .int .u64 t1.b.b, .int .u64 t1.b.o, .int .u64 t1.b.p, .bool t1.b.i, .bool t1.b.r, .bool t1.b.d, .int .u32 t1.m] 0
    go_simp
    refine hK.out _ _ HS2.done (fun hH3 => ?_)
    replace HM1 := Lib.hid (HM1.out.setL [.slice A1 t1.s.length n1, .slice B1 t1.c.length m1, .int .i64 t1.f, .bool t1.x, .int .i64 t1.b.n, .int .u64 t1.b.c, .int .u64 t1.b.b, .int .u64 t1.b.o, .int .u64 t1.b.p, .bool t1.b.i, .bool t1.b.r, .bool t1.b.d, .int .u32 t1.m] 0 XB.out (noText_st 0 0 0 false Sup.zero 0 none 0 none 0) (noText_st t1.s.length t1.c.length t1.f t1.x t1.b t1.m A1 n1 B1 m1))
    replace XB := Lib.hid (show Box _ z9 [.slice A1 t1.s.length n1, .slice B1 t1.c.length m1, .int .i64 t1.f, .bool t1.x, .int .i64 t1.b.n, .int .u64 t1.b.c, .int .u64 t1.b.b, .int .u64 t1.b.o, .int .u64 t1.b.p, .bool t1.b.i, .bool t1.b.r, .bool t1.b.d, .int .u32 t1.m] from XB.out.setL [.slice A1 t1.s.length n1, .slice B1 t1.c.length m1, .int .i64 t1.f, .bool t1.x, .int .i64 t1.b.n, .int .u64 t1.b.c, .int .u64 t1.b.b, .int .u64 t1.b.o, .int .u64 t1.b.p, .bool t1.b.i, .bool t1.b.r, .bool t1.b.d, .int .u32 t1.m] 0)
    replace HW := Lib.hid (Below.setL (b := z9) (HZ9.out) [.slice A1 t1.s.length n1, .slice B1 t1.c.length m1, .int .i64 t1.f, .bool t1.x, .int .i64 t1.b.n, .int .u64 t1.b.c, .int .u64 t1.b.b, .int .u64 t1.b.o, .int .u64 t1.b.p, .bool t1.b.i, .bool t1.b.r, .bool t1.b.d, .int .u32 t1.m] 0 HW.out)
    clear kx fx HS2 HO
    generalize hW : setL v2 z9 0 [.slice A1 t1.s.length n1, .slice B1 t1.c.length m1, .int .i64 t1.f, .bool t1.x, .int .i64 t1.b.n, .int .u64 t1.b.c, .int .u64 t1.b.b, .int .u64 t1.b.o, .int .u64 t1.b.p, .bool t1.b.i, .bool t1.b.r, .bool t1.b.d, .int .u32 t1.m] = v3 at *
    simp only [setL, Nat.zero_add, Nat.reduceAdd] at hW
    simp only [hW] at hH3 ⊢
    clear hW hK K1 hH2
    refine wpAnyH_take (i := 11) (v := ?_) rfl (by kernel_rfl) (by kernel_rfl) (by kernel_rfl) (fun _ _ _ h => HP.out _ _ _ _ _ h) (Or.inl ⟨by rfl, ?_⟩) hH3 ?_
    rotate_left
    · (intro v hSw; go_simp; try with_reducible rfl)
    simp only [Act.put, List.setIfInBounds_toArray, List.set_cons_zero, List.set_cons_succ, List.getElem_toArray, List.getElem_cons_zero, List.getElem_cons_succ]
    refine wpAnyH_done (by kernel_rfl) ?_ _
    have H9 := Lib.hid hH3
    refine HK.out A1 n1 B1 m1 z9 _ (.tuple #[.agg #[.slice A1 t1.s.length n1, .slice B1 t1.c.length m1, .int .i64 t1.f, .bool t1.x, .int .i64 t1.b.n, .int .u64 t1.b.c, .int .u64 t1.b.b, .int .u64 t1.b.o, .int .u64 t1.b.p, .bool t1.b.i, .bool t1.b.r, .bool t1.b.d, .int .u32 t1.m], .int .i64 e1]) (.agg #[.slice A t.s.length n, .slice B t.c.length m, .int .i64 t.f, .bool t.x, .int .i64 t.b.n, .int .u64 t.b.c, .int .u64 t.b.b, .int .u64 t.b.o, .int .u64 t.b.p, .bool t.b.i, .bool t.b.r, .bool t.b.d, .int .u32 t.m]) (.slice (some la) l.length lc) (.int .i64 (k : Int)) (.pointer (some (la.add k))) (.int .i64 i) (.tuple #[.agg #[.slice A1 t1.s.length n1, .slice B1 t1.c.length m1, .int .i64 t1.f, .bool t1.x, .int .i64 t1.b.n, .int .u64 t1.b.c, .int .u64 t1.b.b, .int .u64 t1.b.o, .int .u64 t1.b.p, .bool t1.b.i, .bool t1.b.r, .bool t1.b.d, .int .u32 t1.m], .int .i64 e1]) (.agg #[.slice A1 t1.s.length n1, .slice B1 t1.c.length m1, .int .i64 t1.f, .bool t1.x, .int .i64 t1.b.n, .int .u64 t1.b.c, .int .u64 t1.b.b, .int .u64 t1.b.o, .int .u64 t1.b.p, .bool t1.b.i, .bool t1.b.r, .bool t1.b.d, .int .u32 t1.m]) (.int .i64 e1) H9.out HM1.out XB.out HW.out
  refine AllReadyH.cons rfl (fun K1 hK => ?_) AllReadyH.nil
  go_simp
  refine hK.out _ _ (hH0.alloc _) (fun hH4 => ?_)
  have HO := Lib.hid (hH0.own [.slice none 0 0, .slice none 0 0, .int .i64 0, .bool false, .int .i64 0, .int .u64 0, .int .u64 0, .int .u64 0, .int .u64 0, .bool false, .bool false, .bool false, .int .u32 0] 34 (n := 13) rfl)
  have HZ9 : Hid (w.heap.size ≤ v0.heap.size) := HW.out.size
  have XB := Lib.hid (Box.new v0 [.slice none 0 0, .slice none 0 0, .int .i64 0, .bool false, .int .i64 0, .int .u64 0, .int .u64 0, .int .u64 0, .int .u64 0, .bool false, .bool false, .bool false, .int .u32 0] 34)
  have hb : Below v0.heap.size v0 (v0.alloc (.cells ([.slice none 0 0, .slice none 0 0, .int .i64 0, .bool false, .int .i64 0, .int .u64 0, .int .u64 0, .int .u64 0, .int .u64 0, .bool false, .bool false, .bool false, .int .u32 0] : List Value).toArray 34)) := below1
  try replace HM1 := Lib.hid (HM1.out.up hb)
  replace HW := Lib.hid (ext HW.out hb)
  generalize v0.alloc (.cells #[.slice none 0 0, .slice none 0 0, .int .i64 0, .bool false, .int .i64 0, .int .u64 0, .int .u64 0, .int .u64 0, .int .u64 0, .bool false, .bool false, .bool false, .int .u32 0] 34) = v4 at *
  generalize hz : v0.heap.size = z9 at *
  clear hz hb hK K1 hH0
  refine wpAnyH_ready (rs := [5]) (by kernel_rfl) (by simp) ?_
  refine AllReadyH.cons rfl (fun K1 hK => ?_) AllReadyH.nil
  go_simp
  refine (HR.out v4 HW.out).mono ?_
  rintro e v5 ⟨A1, n1, B1, m1, rfl, hm1, hb⟩
  have HM1 := Lib.hid hm1
  try replace XB := Lib.hid (XB.out.below hb)
  try replace HO := Lib.hid (HO.out.up hb)
  replace HW := Lib.hid (ext HW.out hb)
  go_wp2_with fail
  refine hK.out _ _ (hH4.up hb) (fun hH5 => ?_)
  clear hK K1 hH4 hb hm1
  refine wpAnyH_take (i := 6) (v := ?_) rfl (by kernel_rfl) (by kernel_rfl) (by kernel_rfl) (fun _ _ _ h => HP.out _ _ _ _ _ h) (Or.inl ⟨by rfl, ?_⟩) hH5 ?_
  rotate_left
  · (intro v hSw; go_simp; try with_reducible rfl)
  simp only [Act.put, List.setIfInBounds_toArray, List.set_cons_zero, List.set_cons_succ, List.getElem_toArray, List.getElem_cons_zero, List.getElem_cons_succ]
  refine wpAnyH_take (i := 7) (v := ?_) rfl (by kernel_rfl) (by kernel_rfl) (by kernel_rfl) (fun _ _ _ h => HP.out _ _ _ _ _ h) (Or.inl ⟨by rfl, ?_⟩) hH5 ?_
  rotate_left
  · (intro v hSw; go_simp; try with_reducible rfl)
  simp only [Act.put, List.setIfInBounds_toArray, List.set_cons_zero, List.set_cons_succ, List.getElem_toArray, List.getElem_cons_zero, List.getElem_cons_succ]
  refine wpAnyH_take (i := 8) (v := ?_) rfl (by kernel_rfl) (by kernel_rfl) (by kernel_rfl) (fun _ _ _ h => HP.out _ _ _ _ _ h) (Or.inl ⟨by rfl, ?_⟩) hH5 ?_
  rotate_left
  · (intro v hSw; go_simp; try with_reducible rfl)
  simp only [Act.put, List.setIfInBounds_toArray, List.set_cons_zero, List.set_cons_succ, List.getElem_toArray, List.getElem_cons_zero, List.getElem_cons_succ]
  refine wpAnyH_ready (rs := [10]) (by kernel_rfl) (by simp) ?_
  refine AllReadyH.cons rfl (fun K1 hK => ?_) AllReadyH.nil
  have kx := XB.out.cell
  have fx := XB.out.frozen
  have HS2 := HO.out.setL (b := z9) ⟨13, by simp⟩ [.slice A1 t1.s.length n1, .slice B1 t1.c.length m1, .int .i64 t1.f, .bool t1.x, .int .i64 t1.b.n, .int .u64 t1.b.c, .int .u64 t1.b.b, .int .u64 t1.b.o, .int .u64 t1.b.p, .bool t1.b.i, .bool t1.b.r, .bool t1.b.d, .int .u32 t1.m] 0
  go_simp
  refine hK.out _ _ HS2.done (fun hH6 => ?_)
  replace HM1 := Lib.hid (HM1.out.setL [.slice A1 t1.s.length n1, .slice B1 t1.c.length m1, .int .i64 t1.f, .bool t1.x, .int .i64 t1.b.n, .int .u64 t1.b.c, .int .u64 t1.b.b, .int .u64 t1.b.o, .int .u64 t1.b.p, .bool t1.b.i, .bool t1.b.r, .bool t1.b.d, .int .u32 t1.m] 0 XB.out (noText_st 0 0 0 false Sup.zero 0 none 0 none 0) (noText_st t1.s.length t1.c.length t1.f t1.x t1.b t1.m A1 n1 B1 m1))
  replace XB := Lib.hid (show Box _ z9 [.slice A1 t1.s.length n1, .slice B1 t1.c.length m1, .int .i64 t1.f, .bool t1.x, .int .i64 t1.b.n, .int .u64 t1.b.c, .int .u64 t1.b.b, .int .u64 t1.b.o, .int .u64 t1.b.p, .bool t1.b.i, .bool t1.b.r, .bool t1.b.d, .int .u32 t1.m] from XB.out.setL [.slice A1 t1.s.length n1, .slice B1 t1.c.length m1, .int .i64 t1.f, .bool t1.x, .int .i64 t1.b.n, .int .u64 t1.b.c, .int .u64 t1.b.b, .int .u64 t1.b.o, .int .u64 t1.b.p, .bool t1.b.i, .bool t1.b.r, .bool t1.b.d, .int .u32 t1.m] 0)
  replace HW := Lib.hid (Below.setL (b := z9) (HZ9.out) [.slice A1 t1.s.length n1, .slice B1 t1.c.length m1, .int .i64 t1.f, .bool t1.x, .int .i64 t1.b.n, .int .u64 t1.b.c, .int .u64 t1.b.b, .int .u64 t1.b.o, .int .u64 t1.b.p, .bool t1.b.i, .bool t1.b.r, .bool t1.b.d, .int .u32 t1.m] 0 HW.out)
  clear kx fx HS2 HO
  generalize hW : setL v5 z9 0 [.slice A1 t1.s.length n1, .slice B1 t1.c.length m1, .int .i64 t1.f, .bool t1.x, .int .i64 t1.b.n, .int .u64 t1.b.c, .int .u64 t1.b.b, .int .u64 t1.b.o, .int .u64 t1.b.p, .bool t1.b.i, .bool t1.b.r, .bool t1.b.d, .int .u32 t1.m] = v6 at *
  simp only [setL, Nat.zero_add, Nat.reduceAdd] at hW
  simp only [hW] at hH6 ⊢
  clear hW hK K1 hH5
  refine wpAnyH_take (i := 11) (v := ?_) rfl (by kernel_rfl) (by kernel_rfl) (by kernel_rfl) (fun _ _ _ h => HP.out _ _ _ _ _ h) (Or.inl ⟨by rfl, ?_⟩) hH6 ?_
  rotate_left
  · (intro v hSw; go_simp; try with_reducible rfl)
  simp only [Act.put, List.setIfInBounds_toArray, List.set_cons_zero, List.set_cons_succ, List.getElem_toArray, List.getElem_cons_zero, List.getElem_cons_succ]
  refine wpAnyH_done (by kernel_rfl) ?_ _
  have H9 := Lib.hid hH6
  refine HK.out A1 n1 B1 m1 z9 _ (.tuple #[.agg #[.slice A1 t1.s.length n1, .slice B1 t1.c.length m1, .int .i64 t1.f, .bool t1.x, .int .i64 t1.b.n, .int .u64 t1.b.c, .int .u64 t1.b.b, .int .u64 t1.b.o, .int .u64 t1.b.p, .bool t1.b.i, .bool t1.b.r, .bool t1.b.d, .int .u32 t1.m], .int .i64 e1]) (.agg #[.slice A t.s.length n, .slice B t.c.length m, .int .i64 t.f, .bool t.x, .int .i64 t.b.n, .int .u64 t.b.c, .int .u64 t.b.b, .int .u64 t.b.o, .int .u64 t.b.p, .bool t.b.i, .bool t.b.r, .bool t.b.d, .int .u32 t.m]) (.slice (some la) l.length lc) (.int .i64 (k : Int)) (.pointer (some (la.add k))) (.int .i64 i) (.tuple #[.agg #[.slice A1 t1.s.length n1, .slice B1 t1.c.length m1, .int .i64 t1.f, .bool t1.x, .int .i64 t1.b.n, .int .u64 t1.b.c, .int .u64 t1.b.b, .int .u64 t1.b.o, .int .u64 t1.b.p, .bool t1.b.i, .bool t1.b.r, .bool t1.b.d, .int .u32 t1.m], .int .i64 e1]) (.agg #[.slice A1 t1.s.length n1, .slice B1 t1.c.length m1, .int .i64 t1.f, .bool t1.x, .int .i64 t1.b.n, .int .u64 t1.b.c, .int .u64 t1.b.b, .int .u64 t1.b.o, .int .u64 t1.b.p, .bool t1.b.i, .bool t1.b.r, .bool t1.b.d, .int .u32 t1.m]) (.int .i64 e1) H9.out HM1.out XB.out HW.out

set_option maxRecDepth 100000 in
set_option maxHeartbeats 8000000 in
theorem rm17 {K : Go.Act → World → Prop} {Q : Exit → Go.Act → World → Prop} (w0 w : World) (z : Nat) (t t1 : Sto) (e1 : Int) (A B : Option Addr) (n m : Nat) (la : Addr) (lc : Nat) (l : List Int) (k : Nat) (hlt : k < l.length) (i : Int) (u0 u1 u3 u4 u5 u6 u8 u9 u10 u11 u13 u14 u15 u16 u17 u18 u19 u20 u21 u22 u23 u24 u25 u26 u27 u28 u29 u30 u31 u32 u33 u34 u35 u36 u37 u38 u39 u40 u41 u42 u43 u44 u45 u46 u47 u48 u49 u50 u51 u52 u53 u54 u55 u56 u57 u58 u59 u60 u61 u62 u63 u64 u65 u66 u67 u68 u69 u70 u71 u72 u73 u74 u75 u76 u77 u78 u79 u80 u81 u82 u83 u84 u85 u86 u87 u88 u89 u90 u91 u92 u93 u94 u95 u96 u97 u98 u99 u100 u101 u102 u103 u104 u105 u106 u107 u108 u109 u110 u111 u112 u113 u114 u115 u116 u117 u118 u119 : Value)
    (hx : Held w0 [(z, [.slice A t.s.length n, .slice B t.c.length m, .int .i64 t.f, .bool t.x, .int .i64 t.b.n, .int .u64 t.b.c, .int .u64 t.b.b, .int .u64 t.b.o, .int .u64 t.b.p, .bool t.b.i, .bool t.b.r, .bool t.b.d, .int .u32 t.m])] [] w) (ha : w0.cell? (la.add k) = some (.int .i64 i)) (hla : la.block < w0.heap.size) (hP : ∀ c (a : Go.Act) d v w, Q (.panic c) (a.put d v) w → Q (.panic c) a w)
    (hR : ∀ v, Below w.heap.size w v → Calls Tryz.prog 23 #[.agg #[.slice A t.s.length n, .slice B t.c.length m, .int .i64 t.f, .bool t.x, .int .i64 t.b.n, .int .u64 t.b.c, .int .u64 t.b.b, .int .u64 t.b.o, .int .u64 t.b.p, .bool t.b.i, .bool t.b.r, .bool t.b.d, .int .u32 t.m], .int .i64 i] v (GivesS t1 e1 v))
    (hK : ∀ A1 n1 B1 m1 z9 w2 v74 v75 v76 v77 v78 v79 v80 v81 v82, Held w0 [(z, [.slice A t.s.length n, .slice B t.c.length m, .int .i64 t.f, .bool t.x, .int .i64 t.b.n, .int .u64 t.b.c, .int .u64 t.b.b, .int .u64 t.b.o, .int .u64 t.b.p, .bool t.b.i, .bool t.b.r, .bool t.b.d, .int .u32 t.m])] [] w2 → Mem w2 A1 n1 B1 m1 t1.s t1.c → Box w2 z9 [.slice A1 t1.s.length n1, .slice B1 t1.c.length m1, .int .i64 t1.f, .bool t1.x, .int .i64 t1.b.n, .int .u64 t1.b.c, .int .u64 t1.b.b, .int .u64 t1.b.o, .int .u64 t1.b.p, .bool t1.b.i, .bool t1.b.r, .bool t1.b.d, .int .u32 t1.m] → Below w.heap.size w w2 → K { tmps := #[u0, u1, .slice (some la) l.length lc, u3, u4, u5, u6, .pointer (some ⟨z, 0, none⟩), u8, u9, u10, u11, .int .i64 (k : Int), .pointer (some ⟨z9, 0, none⟩), .int .i64 e1, u15, u16, u17, u18, u19, u20, u21, u22, u23, u24, u25, u26, u27, u28, u29, u30, u31, u32, u33, u34, u35, u36, u37, u38, u39, u40, u41, u42, u43, u44, u45, u46, u47, u48, u49, u50, u51, u52, u53, u54, u55, u56, u57, u58, u59, u60, u61, u62, u63, u64, u65, u66, u67, u68, u69, u70, u71, u72, u73, v74, v75, v76, v77, v78, v79, v80, v81, v82, u83, u84, u85, u86, u87, u88, u89, u90, u91, u92, u93, u94, u95, u96, u97, u98, u99, u100, u101, u102, u103, u104, u105, u106, u107, u108, u109, u110, u111, u112, u113, u114, u115, u116, u117, u118, u119], defers := [] } w2) :
    (regOf 17 Tryz.f6).wp Tryz.prog (Exit.then K Q) { tmps := #[u0, u1, .slice (some la) l.length lc, u3, u4, u5, u6, .pointer (some ⟨z, 0, none⟩), u8, u9, u10, u11, .int .i64 (k : Int), u13, u14, u15, u16, u17, u18, u19, u20, u21, u22, u23, u24, u25, u26, u27, u28, u29, u30, u31, u32, u33, u34, u35, u36, u37, u38, u39, u40, u41, u42, u43, u44, u45, u46, u47, u48, u49, u50, u51, u52, u53, u54, u55, u56, u57, u58, u59, u60, u61, u62, u63, u64, u65, u66, u67, u68, u69, u70, u71, u72, u73, u74, u75, u76, u77, u78, u79, u80, u81, u82, u83, u84, u85, u86, u87, u88, u89, u90, u91, u92, u93, u94, u95, u96, u97, u98, u99, u100, u101, u102, u103, u104, u105, u106, u107, u108, u109, u110, u111, u112, u113, u114, u115, u116, u117, u118, u119], defers := [] } w := by
  have HX := Lib.hid hx; clear hx
  have HA := Lib.hid ha; clear ha
  have HB : Hid (la.block < w0.heap.size) := hla
  clear hla
  have HR := Lib.hid hR; clear hR
  have HK := Lib.hid hK; clear hK
  have HP := Lib.hid hP; clear hP
  change Code.wp Tryz.prog (Code.region 17 _ true) _ _ _
  refine held_start (S := Held w0 [(z, [.slice A t.s.length n, .slice B t.c.length m, .int .i64 t.f, .bool t.x, .int .i64 t.b.n, .int .u64 t.b.c, .int .u64 t.b.b, .int .u64 t.b.o, .int .u64 t.b.p, .bool t.b.i, .bool t.b.r, .bool t.b.d, .int .u32 t.m])] []) (by kernel_rfl) HX.out.drew (fun v0 hv0 hH0 => ?_)
  have HW := Lib.hid hv0
  clear hv0
  refine wpAnyH_take (i := 0) (v := ?_) rfl (by kernel_rfl) (by kernel_rfl) (by kernel_rfl) (fun _ _ _ h => HP.out _ _ _ _ _ h) (Or.inl ⟨by rfl, ?_⟩) hH0 ?_
  rotate_left
  · (intro v hSw; have k0 := hSw.b0.cell; go_simp; try with_reducible rfl)
  simp only [Act.put, List.setIfInBounds_toArray, List.set_cons_zero, List.set_cons_succ, List.getElem_toArray, List.getElem_cons_zero]
  refine wpAnyH_take (i := 1) (v := ?_) rfl (by kernel_rfl) (by kernel_rfl) (by kernel_rfl) (fun _ _ _ h => HP.out _ _ _ _ _ h) (Or.inl ⟨by rfl, ?_⟩) hH0 ?_
  rotate_left
  · (intro v hSw; go_simp; try with_reducible rfl)
  simp only [Act.put, List.setIfInBounds_toArray, List.set_cons_zero, List.set_cons_succ, List.getElem_toArray, List.getElem_cons_zero, List.getElem_cons_succ]
  refine wpAnyH_take (i := 2) (v := ?_) rfl (by kernel_rfl) (by kernel_rfl) (by kernel_rfl) (fun _ _ _ h => HP.out _ _ _ _ _ h) (Or.inl ⟨by rfl, ?_⟩) hH0 ?_
  rotate_left
  · (intro v hSw; go_simp; try with_reducible rfl)
  simp only [Act.put, List.setIfInBounds_toArray, List.set_cons_zero, List.set_cons_succ, List.getElem_toArray, List.getElem_cons_zero, List.getElem_cons_succ]
  refine wpAnyH_take (i := 3) (v := ?_) rfl (by kernel_rfl) (by kernel_rfl) (by kernel_rfl) (fun _ _ _ h => HP.out _ _ _ _ _ h) (Or.inl ⟨by rfl, ?_⟩) hH0 ?_
  rotate_left
  · (intro v hSw; go_simp; try with_reducible rfl)
  simp only [Act.put, List.setIfInBounds_toArray, List.set_cons_zero, List.set_cons_succ, List.getElem_toArray, List.getElem_cons_zero, List.getElem_cons_succ]
  refine wpAnyH_take (i := 4) (v := ?_) rfl (by kernel_rfl) (by kernel_rfl) (by kernel_rfl) (fun _ _ _ h => HP.out _ _ _ _ _ h) (Or.inl ⟨by rfl, ?_⟩) hH0 ?_
  rotate_left
  · (intro v hSw; have c0 := (hSw.below.cell (p := la.add k) (by rw [zadd_block]; exact HB.out)).trans HA.out; go_simp; try with_reducible rfl)
  simp only [Act.put, List.setIfInBounds_toArray, List.set_cons_zero, List.set_cons_succ, List.getElem_toArray, List.getElem_cons_zero, List.getElem_cons_succ]
  refine wpAnyH_ready (rs := [5, 9]) (by kernel_rfl) (by simp) ?_
  refine AllReadyH.cons rfl (fun K1 hK => ?_) ?_
  · go_simp
    refine (HR.out v0 HW.out).mono ?_
    rintro e v1 ⟨A1, n1, B1, m1, rfl, hm1, hb⟩
    have HM1 := Lib.hid hm1
    try replace XB := Lib.hid (XB.out.below hb)
    try replace HO := Lib.hid (HO.out.up hb)
    replace HW := Lib.hid (ext HW.out hb)
    go_wp2_with fail
    refine hK.out _ _ (hH0.up hb) (fun hH1 => ?_)
    clear hK K1 hH0 hb hm1
    refine wpAnyH_take (i := 6) (v := ?_) rfl (by kernel_rfl) (by kernel_rfl) (by kernel_rfl) (fun _ _ _ h => HP.out _ _ _ _ _ h) (Or.inl ⟨by rfl, ?_⟩) hH1 ?_
    rotate_left
    · (intro v hSw; go_simp; try with_reducible rfl)
    simp only [Act.put, List.setIfInBounds_toArray, List.set_cons_zero, List.set_cons_succ, List.getElem_toArray, List.getElem_cons_zero, List.getElem_cons_succ]
    refine wpAnyH_take (i := 7) (v := ?_) rfl (by kernel_rfl) (by kernel_rfl) (by kernel_rfl) (fun _ _ _ h => HP.out _ _ _ _ _ h) (Or.inl ⟨by rfl, ?_⟩) hH1 ?_
    rotate_left
    · (intro v hSw; go_simp; try with_reducible rfl)
    simp only [Act.put, List.setIfInBounds_toArray, List.set_cons_zero, List.set_cons_succ, List.getElem_toArray, List.getElem_cons_zero, List.getElem_cons_succ]
    refine wpAnyH_take (i := 8) (v := ?_) rfl (by kernel_rfl) (by kernel_rfl) (by kernel_rfl) (fun _ _ _ h => HP.out _ _ _ _ _ h) (Or.inl ⟨by rfl, ?_⟩) hH1 ?_
    rotate_left
    · (intro v hSw; go_simp; try with_reducible rfl)
    simp only [Act.put, List.setIfInBounds_toArray, List.set_cons_zero, List.set_cons_succ, List.getElem_toArray, List.getElem_cons_zero, List.getElem_cons_succ]
    refine wpAnyH_ready (rs := [9]) (by kernel_rfl) (by simp) ?_
    refine AllReadyH.cons rfl (fun K1 hK => ?_) AllReadyH.nil
    go_simp
    refine hK.out _ _ (hH1.alloc _) (fun hH2 => ?_)
    have HO := Lib.hid (hH1.own [.slice none 0 0, .slice none 0 0, .int .i64 0, .bool false, .int .i64 0, .int .u64 0, .int .u64 0, .int .u64 0, .int .u64 0, .bool false, .bool false, .bool false, .int .u32 0] 34 (n := 13) rfl)
    have HZ9 : Hid (w.heap.size ≤ v1.heap.size) := HW.out.size
    have XB := Lib.hid (Box.new v1 [.slice none 0 0, .slice none 0 0, .int .i64 0, .bool false, .int .i64 0, .int .u64 0, .int .u64 0, .int .u64 0, .int .u64 0, .bool false, .bool false, .bool false, .int .u32 0] 34)
    have hb : Below v1.heap.size v1 (v1.alloc (.cells ([.slice none 0 0, .slice none 0 0, .int .i64 0, .bool false, .int .i64 0, .int .u64 0, .int .u64 0, .int .u64 0, .int .u64 0, .bool false, .bool false, .bool false, .int .u32 0] : List Value).toArray 34)) := below1
    try replace HM1 := Lib.hid (HM1.out.up hb)
    replace HW := Lib.hid (ext HW.out hb)
    generalize v1.alloc (.cells #[.slice none 0 0, .slice none 0 0, .int .i64 0, .bool false, .int .i64 0, .int .u64 0, .int .u64 0, .int .u64 0, .int .u64 0, .bool false, .bool false, .bool false, .int .u32 0] 34) = v2 at *
    generalize hz : v1.heap.size = z9 at *
    clear hz hb hK K1 hH1
    refine wpAnyH_ready (rs := [10]) (by kernel_rfl) (by simp) ?_
    refine AllReadyH.cons rfl (fun K1 hK => ?_) AllReadyH.nil
    have kx := XB.out.cell
    have fx := XB.out.frozen
    have HS2 := HO.out.setL (b := z9) ⟨13, by simp⟩ [.slice A1 t1.s.length n1, .slice B1 t1.c.length m1, .int .i64 t1.f, .bool t1.x, .int .i64 t1.b.n, .int .u64 t1.b.c, .int .u64 t1.b.b, .int .u64 t1.b.o, .int .u64 t1.b.p, .bool t1.b.i, .bool t1.b.r, .bool t1.b.d, .int .u32 t1.m] 0
    go_simp
    refine hK.out _ _ HS2.done (fun hH3 => ?_)
    replace HM1 := Lib.hid (HM1.out.setL [.slice A1 t1.s.length n1, .slice B1 t1.c.length m1, .int .i64 t1.f, .bool t1.x, .int .i64 t1.b.n, .int .u64 t1.b.c, .int .u64 t1.b.b, .int .u64 t1.b.o, .int .u64 t1.b.p, .bool t1.b.i, .bool t1.b.r, .bool t1.b.d, .int .u32 t1.m] 0 XB.out (noText_st 0 0 0 false Sup.zero 0 none 0 none 0) (noText_st t1.s.length t1.c.length t1.f t1.x t1.b t1.m A1 n1 B1 m1))
    replace XB := Lib.hid (show Box _ z9 [.slice A1 t1.s.length n1, .slice B1 t1.c.length m1, .int .i64 t1.f, .bool t1.x, .int .i64 t1.b.n, .int .u64 t1.b.c, .int .u64 t1.b.b, .int .u64 t1.b.o, .int .u64 t1.b.p, .bool t1.b.i, .bool t1.b.r, .bool t1.b.d, .int .u32 t1.m] from XB.out.setL [.slice A1 t1.s.length n1, .slice B1 t1.c.length m1, .int .i64 t1.f, .bool t1.x, .int .i64 t1.b.n, .int .u64 t1.b.c, .int .u64 t1.b.b, .int .u64 t1.b.o, .int .u64 t1.b.p, .bool t1.b.i, .bool t1.b.r, .bool t1.b.d, .int .u32 t1.m] 0)
    replace HW := Lib.hid (Below.setL (b := z9) (HZ9.out) [.slice A1 t1.s.length n1, .slice B1 t1.c.length m1, .int .i64 t1.f, .bool t1.x, .int .i64 t1.b.n, .int .u64 t1.b.c, .int .u64 t1.b.b, .int .u64 t1.b.o, .int .u64 t1.b.p, .bool t1.b.i, .bool t1.b.r, .bool t1.b.d, .int .u32 t1.m] 0 HW.out)
    clear kx fx HS2 HO
    generalize hW : setL v2 z9 0 [.slice A1 t1.s.length n1, .slice B1 t1.c.length m1, .int .i64 t1.f, .bool t1.x, .int .i64 t1.b.n, .int .u64 t1.b.c, .int .u64 t1.b.b, .int .u64 t1.b.o, .int .u64 t1.b.p, .bool t1.b.i, .bool t1.b.r, .bool t1.b.d, .int .u32 t1.m] = v3 at *
    simp only [setL, Nat.zero_add, Nat.reduceAdd] at hW
    simp only [hW] at hH3 ⊢
    clear hW hK K1 hH2
    refine wpAnyH_take (i := 11) (v := ?_) rfl (by kernel_rfl) (by kernel_rfl) (by kernel_rfl) (fun _ _ _ h => HP.out _ _ _ _ _ h) (Or.inl ⟨by rfl, ?_⟩) hH3 ?_
    rotate_left
    · (intro v hSw; go_simp; try with_reducible rfl)
    simp only [Act.put, List.setIfInBounds_toArray, List.set_cons_zero, List.set_cons_succ, List.getElem_toArray, List.getElem_cons_zero, List.getElem_cons_succ]
    refine wpAnyH_done (by kernel_rfl) ?_ _
    have H9 := Lib.hid hH3
    refine HK.out A1 n1 B1 m1 z9 _ (.tuple #[.agg #[.slice A1 t1.s.length n1, .slice B1 t1.c.length m1, .int .i64 t1.f, .bool t1.x, .int .i64 t1.b.n, .int .u64 t1.b.c, .int .u64 t1.b.b, .int .u64 t1.b.o, .int .u64 t1.b.p, .bool t1.b.i, .bool t1.b.r, .bool t1.b.d, .int .u32 t1.m], .int .i64 e1]) (.agg #[.slice A t.s.length n, .slice B t.c.length m, .int .i64 t.f, .bool t.x, .int .i64 t.b.n, .int .u64 t.b.c, .int .u64 t.b.b, .int .u64 t.b.o, .int .u64 t.b.p, .bool t.b.i, .bool t.b.r, .bool t.b.d, .int .u32 t.m]) (.slice (some la) l.length lc) (.int .i64 (k : Int)) (.pointer (some (la.add k))) (.int .i64 i) (.tuple #[.agg #[.slice A1 t1.s.length n1, .slice B1 t1.c.length m1, .int .i64 t1.f, .bool t1.x, .int .i64 t1.b.n, .int .u64 t1.b.c, .int .u64 t1.b.b, .int .u64 t1.b.o, .int .u64 t1.b.p, .bool t1.b.i, .bool t1.b.r, .bool t1.b.d, .int .u32 t1.m], .int .i64 e1]) (.agg #[.slice A1 t1.s.length n1, .slice B1 t1.c.length m1, .int .i64 t1.f, .bool t1.x, .int .i64 t1.b.n, .int .u64 t1.b.c, .int .u64 t1.b.b, .int .u64 t1.b.o, .int .u64 t1.b.p, .bool t1.b.i, .bool t1.b.r, .bool t1.b.d, .int .u32 t1.m]) (.int .i64 e1) H9.out HM1.out XB.out HW.out
  refine AllReadyH.cons rfl (fun K1 hK => ?_) AllReadyH.nil
  go_simp
  refine hK.out _ _ (hH0.alloc _) (fun hH4 => ?_)
  have HO := Lib.hid (hH0.own [.slice none 0 0, .slice none 0 0, .int .i64 0, .bool false, .int .i64 0, .int .u64 0, .int .u64 0, .int .u64 0, .int .u64 0, .bool false, .bool false, .bool false, .int .u32 0] 34 (n := 13) rfl)
  have HZ9 : Hid (w.heap.size ≤ v0.heap.size) := HW.out.size
  have XB := Lib.hid (Box.new v0 [.slice none 0 0, .slice none 0 0, .int .i64 0, .bool false, .int .i64 0, .int .u64 0, .int .u64 0, .int .u64 0, .int .u64 0, .bool false, .bool false, .bool false, .int .u32 0] 34)
  have hb : Below v0.heap.size v0 (v0.alloc (.cells ([.slice none 0 0, .slice none 0 0, .int .i64 0, .bool false, .int .i64 0, .int .u64 0, .int .u64 0, .int .u64 0, .int .u64 0, .bool false, .bool false, .bool false, .int .u32 0] : List Value).toArray 34)) := below1
  try replace HM1 := Lib.hid (HM1.out.up hb)
  replace HW := Lib.hid (ext HW.out hb)
  generalize v0.alloc (.cells #[.slice none 0 0, .slice none 0 0, .int .i64 0, .bool false, .int .i64 0, .int .u64 0, .int .u64 0, .int .u64 0, .int .u64 0, .bool false, .bool false, .bool false, .int .u32 0] 34) = v4 at *
  generalize hz : v0.heap.size = z9 at *
  clear hz hb hK K1 hH0
  refine wpAnyH_ready (rs := [5]) (by kernel_rfl) (by simp) ?_
  refine AllReadyH.cons rfl (fun K1 hK => ?_) AllReadyH.nil
  go_simp
  refine (HR.out v4 HW.out).mono ?_
  rintro e v5 ⟨A1, n1, B1, m1, rfl, hm1, hb⟩
  have HM1 := Lib.hid hm1
  try replace XB := Lib.hid (XB.out.below hb)
  try replace HO := Lib.hid (HO.out.up hb)
  replace HW := Lib.hid (ext HW.out hb)
  go_wp2_with fail
  refine hK.out _ _ (hH4.up hb) (fun hH5 => ?_)
  clear hK K1 hH4 hb hm1
  refine wpAnyH_take (i := 6) (v := ?_) rfl (by kernel_rfl) (by kernel_rfl) (by kernel_rfl) (fun _ _ _ h => HP.out _ _ _ _ _ h) (Or.inl ⟨by rfl, ?_⟩) hH5 ?_
  rotate_left
  · (intro v hSw; go_simp; try with_reducible rfl)
  simp only [Act.put, List.setIfInBounds_toArray, List.set_cons_zero, List.set_cons_succ, List.getElem_toArray, List.getElem_cons_zero, List.getElem_cons_succ]
  refine wpAnyH_take (i := 7) (v := ?_) rfl (by kernel_rfl) (by kernel_rfl) (by kernel_rfl) (fun _ _ _ h => HP.out _ _ _ _ _ h) (Or.inl ⟨by rfl, ?_⟩) hH5 ?_
  rotate_left
  · (intro v hSw; go_simp; try with_reducible rfl)
  simp only [Act.put, List.setIfInBounds_toArray, List.set_cons_zero, List.set_cons_succ, List.getElem_toArray, List.getElem_cons_zero, List.getElem_cons_succ]
  refine wpAnyH_take (i := 8) (v := ?_) rfl (by kernel_rfl) (by kernel_rfl) (by kernel_rfl) (fun _ _ _ h => HP.out _ _ _ _ _ h) (Or.inl ⟨by rfl, ?_⟩) hH5 ?_
  rotate_left
  · (intro v hSw; go_simp; try with_reducible rfl)
  simp only [Act.put, List.setIfInBounds_toArray, List.set_cons_zero, List.set_cons_succ, List.getElem_toArray, List.getElem_cons_zero, List.getElem_cons_succ]
  refine wpAnyH_ready (rs := [10]) (by kernel_rfl) (by simp) ?_
  refine AllReadyH.cons rfl (fun K1 hK => ?_) AllReadyH.nil
  have kx := XB.out.cell
  have fx := XB.out.frozen
  have HS2 := HO.out.setL (b := z9) ⟨13, by simp⟩ [.slice A1 t1.s.length n1, .slice B1 t1.c.length m1, .int .i64 t1.f, .bool t1.x, .int .i64 t1.b.n, .int .u64 t1.b.c, .int .u64 t1.b.b, .int .u64 t1.b.o, .int .u64 t1.b.p, .bool t1.b.i, .bool t1.b.r, .bool t1.b.d, .int .u32 t1.m] 0
  go_simp
  refine hK.out _ _ HS2.done (fun hH6 => ?_)
  replace HM1 := Lib.hid (HM1.out.setL [.slice A1 t1.s.length n1, .slice B1 t1.c.length m1, .int .i64 t1.f, .bool t1.x, .int .i64 t1.b.n, .int .u64 t1.b.c, .int .u64 t1.b.b, .int .u64 t1.b.o, .int .u64 t1.b.p, .bool t1.b.i, .bool t1.b.r, .bool t1.b.d, .int .u32 t1.m] 0 XB.out (noText_st 0 0 0 false Sup.zero 0 none 0 none 0) (noText_st t1.s.length t1.c.length t1.f t1.x t1.b t1.m A1 n1 B1 m1))
  replace XB := Lib.hid (show Box _ z9 [.slice A1 t1.s.length n1, .slice B1 t1.c.length m1, .int .i64 t1.f, .bool t1.x, .int .i64 t1.b.n, .int .u64 t1.b.c, .int .u64 t1.b.b, .int .u64 t1.b.o, .int .u64 t1.b.p, .bool t1.b.i, .bool t1.b.r, .bool t1.b.d, .int .u32 t1.m] from XB.out.setL [.slice A1 t1.s.length n1, .slice B1 t1.c.length m1, .int .i64 t1.f, .bool t1.x, .int .i64 t1.b.n, .int .u64 t1.b.c, .int .u64 t1.b.b, .int .u64 t1.b.o, .int .u64 t1.b.p, .bool t1.b.i, .bool t1.b.r, .bool t1.b.d, .int .u32 t1.m] 0)
  replace HW := Lib.hid (Below.setL (b := z9) (HZ9.out) [.slice A1 t1.s.length n1, .slice B1 t1.c.length m1, .int .i64 t1.f, .bool t1.x, .int .i64 t1.b.n, .int .u64 t1.b.c, .int .u64 t1.b.b, .int .u64 t1.b.o, .int .u64 t1.b.p, .bool t1.b.i, .bool t1.b.r, .bool t1.b.d, .int .u32 t1.m] 0 HW.out)
  clear kx fx HS2 HO
  generalize hW : setL v5 z9 0 [.slice A1 t1.s.length n1, .slice B1 t1.c.length m1, .int .i64 t1.f, .bool t1.x, .int .i64 t1.b.n, .int .u64 t1.b.c, .int .u64 t1.b.b, .int .u64 t1.b.o, .int .u64 t1.b.p, .bool t1.b.i, .bool t1.b.r, .bool t1.b.d, .int .u32 t1.m] = v6 at *
  simp only [setL, Nat.zero_add, Nat.reduceAdd] at hW
  simp only [hW] at hH6 ⊢
  clear hW hK K1 hH5
  refine wpAnyH_take (i := 11) (v := ?_) rfl (by kernel_rfl) (by kernel_rfl) (by kernel_rfl) (fun _ _ _ h => HP.out _ _ _ _ _ h) (Or.inl ⟨by rfl, ?_⟩) hH6 ?_
  rotate_left
  · (intro v hSw; go_simp; try with_reducible rfl)
  simp only [Act.put, List.setIfInBounds_toArray, List.set_cons_zero, List.set_cons_succ, List.getElem_toArray, List.getElem_cons_zero, List.getElem_cons_succ]
  refine wpAnyH_done (by kernel_rfl) ?_ _
  have H9 := Lib.hid hH6
  refine HK.out A1 n1 B1 m1 z9 _ (.tuple #[.agg #[.slice A1 t1.s.length n1, .slice B1 t1.c.length m1, .int .i64 t1.f, .bool t1.x, .int .i64 t1.b.n, .int .u64 t1.b.c, .int .u64 t1.b.b, .int .u64 t1.b.o, .int .u64 t1.b.p, .bool t1.b.i, .bool t1.b.r, .bool t1.b.d, .int .u32 t1.m], .int .i64 e1]) (.agg #[.slice A t.s.length n, .slice B t.c.length m, .int .i64 t.f, .bool t.x, .int .i64 t.b.n, .int .u64 t.b.c, .int .u64 t.b.b, .int .u64 t.b.o, .int .u64 t.b.p, .bool t.b.i, .bool t.b.r, .bool t.b.d, .int .u32 t.m]) (.slice (some la) l.length lc) (.int .i64 (k : Int)) (.pointer (some (la.add k))) (.int .i64 i) (.tuple #[.agg #[.slice A1 t1.s.length n1, .slice B1 t1.c.length m1, .int .i64 t1.f, .bool t1.x, .int .i64 t1.b.n, .int .u64 t1.b.c, .int .u64 t1.b.b, .int .u64 t1.b.o, .int .u64 t1.b.p, .bool t1.b.i, .bool t1.b.r, .bool t1.b.d, .int .u32 t1.m], .int .i64 e1]) (.agg #[.slice A1 t1.s.length n1, .slice B1 t1.c.length m1, .int .i64 t1.f, .bool t1.x, .int .i64 t1.b.n, .int .u64 t1.b.c, .int .u64 t1.b.b, .int .u64 t1.b.o, .int .u64 t1.b.p, .bool t1.b.i, .bool t1.b.r, .bool t1.b.d, .int .u32 t1.m]) (.int .i64 e1) H9.out HM1.out XB.out HW.out

set_option maxRecDepth 100000 in
set_option maxHeartbeats 8000000 in
theorem zmarks_many1 (nn : Int) (LA : Option Addr) (lc : Nat) (l : List Int) (LB : Option Addr) (ld : Nat) (l2 : List Int) (a : Addr) (w : World) (hl : Es (Value.int .i64) w w.heap.size LA l) (hl2 : Es (Value.int .i64) w w.heap.size LB l2) (hg : Glob w a) (h50 : 50 < l.length) : Calls Tryz.prog 6 #[.int .u8 nn, .slice LA l.length lc, .slice LB l2.length ld] w (Yes w) := by
  have HG := Lib.hid hg; clear hg
  have HL := Lib.hid hl; clear hl
  have HL2 := Lib.hid hl2; clear hl2
  unfold Yes
  go_enter Tryz.func6, Tryz.ntmps6
  go_wp2_with fail
  refine (zalive_any _ a HG.out).mono ?_
  rintro e w1 ⟨rfl, hb⟩
  have HB := Lib.hid hb; clear hb
  go_wp2_with fail
  go_ret
  exact ⟨ret_bool (by simp), HB.out⟩

set_option maxRecDepth 100000 in
set_option maxHeartbeats 8000000 in
theorem zmarks_many2 (nn : Int) (LA : Option Addr) (lc : Nat) (l : List Int) (LB : Option Addr) (ld : Nat) (l2 : List Int) (a : Addr) (w : World) (hl : Es (Value.int .i64) w w.heap.size LA l) (hl2 : Es (Value.int .i64) w w.heap.size LB l2) (hg : Glob w a) (h50 : ¬ 50 < l.length) (h51 : 50 < l2.length) : Calls Tryz.prog 6 #[.int .u8 nn, .slice LA l.length lc, .slice LB l2.length ld] w (Yes w) := by
  have HG := Lib.hid hg; clear hg
  have HL := Lib.hid hl; clear hl
  have HL2 := Lib.hid hl2; clear hl2
  unfold Yes
  go_enter Tryz.func6, Tryz.ntmps6
  go_wp2_with fail
  refine (zalive_any _ a HG.out).mono ?_
  rintro e w1 ⟨rfl, hb⟩
  have HB := Lib.hid hb; clear hb
  go_wp2_with fail
  go_ret
  exact ⟨ret_bool (by simp), HB.out⟩

set_option maxRecDepth 100000 in
set_option maxHeartbeats 8000000 in
theorem zmarks_go (nn : Int) (LA : Option Addr) (lc : Nat) (l : List Int) (LB : Option Addr) (ld : Nat) (l2 : List Int) (a : Addr) (w : World) (hl : Es (Value.int .i64) w w.heap.size LA l) (hl2 : Es (Value.int .i64) w w.heap.size LB l2) (hg : Glob w a) (h50 : ¬ 50 < l.length) (h51 : ¬ 50 < l2.length) (h0 : 0 ≤ nn) (h1 : nn < 256) : Calls Tryz.prog 6 #[.int .u8 nn, .slice LA l.length lc, .slice LB l2.length ld] w (Yes w) := by
  obtain ⟨N, hN, hN1, hN2⟩ : ∃ N : Nat, 1 + nn % 32 = (N : Int) ∧ 1 ≤ N ∧ N ≤ 32 := ⟨(1 + nn % 32).toNat, by omega, by omega, by omega⟩
  have HG := Lib.hid hg; clear hg
  have HL := Lib.hid hl; clear hl
  have HL2 := Lib.hid hl2; clear hl2
  unfold Yes
  go_enter Tryz.func6, Tryz.ntmps6
  go_wp2_with fail
  refine (zalive_any _ a HG.out).mono ?_
  rintro e w1 ⟨rfl, hb⟩
  have HB := Lib.hid hb; clear hb
  go_wp2_with fail
  refine (rznew_any hN1 hN2 _).mono ?_
  rintro e w3 ⟨A0, n0, B0, m0, rfl, hm, hb⟩
  have hW0 := whole_new hN1 hN2
  have hC0 : (newS N).c = [] ∧ (newS N).f = 0 := ⟨rfl, rfl⟩
  have hm : Mem w3 A0 n0 B0 m0 (newS N).s (newS N).c := hm
  generalize newS N = t0 at *
  have hb2 : Below w3.heap.size w3 (w3.alloc (.cells ([.slice A0 t0.s.length n0, .slice B0 t0.c.length m0, .int .i64 t0.f, .bool t0.x, .int .i64 t0.b.n, .int .u64 t0.b.c, .int .u64 t0.b.b, .int .u64 t0.b.o, .int .u64 t0.b.p, .bool t0.b.i, .bool t0.b.r, .bool t0.b.d, .int .u32 t0.m] : List Value).toArray 34)) := below1
  have HM := Lib.hid (hm.up hb2)
  have HX := Lib.hid (Box.new w3 [.slice A0 t0.s.length n0, .slice B0 t0.c.length m0, .int .i64 t0.f, .bool t0.x, .int .i64 t0.b.n, .int .u64 t0.b.c, .int .u64 t0.b.b, .int .u64 t0.b.o, .int .u64 t0.b.p, .bool t0.b.i, .bool t0.b.r, .bool t0.b.d, .int .u32 t0.m] 34)
  have HZ : Hid (w.heap.size ≤ w3.heap.size) := (ext HB.out hb).size
  have HW0 := Lib.hid hW0; clear hW0
  have HC0 := Lib.hid hC0; clear hC0
  replace HB := Lib.hid (ext (ext HB.out hb) hb2); clear hb hb2 hm
  go_upto_region 6 with fail
  generalize w3.alloc (.cells #[.slice A0 t0.s.length n0, .slice B0 t0.c.length m0, .int .i64 t0.f, .bool t0.x, .int .i64 t0.b.n, .int .u64 t0.b.c, .int .u64 t0.b.b, .int .u64 t0.b.o, .int .u64 t0.b.p, .bool t0.b.i, .bool t0.b.r, .bool t0.b.d, .int .u32 t0.m] 34) = w4 at *
  generalize w3.heap.size = z7 at *
  go_wp2_with fail
  go_loopw [8] (fun i wr => ∃ (k : Nat) (q : Sto) (A5 : Option Addr) (n5 : Nat) (B5 : Option Addr) (m5 : Nat), k ≤ l.length ∧ i = .int .i64 k ∧ Hid (Whole N q) ∧ Hid (q.c = [] ∧ q.f = 0) ∧ Hid (Mem wr A5 n5 B5 m5 q.s q.c) ∧ Hid (Box wr z7 [.slice A5 q.s.length n5, .slice B5 q.c.length m5, .int .i64 q.f, .bool q.x, .int .i64 q.b.n, .int .u64 q.b.c, .int .u64 q.b.b, .int .u64 q.b.o, .int .u64 q.b.p, .bool q.b.i, .bool q.b.r, .bool q.b.d, .int .u32 q.m]) ∧ Hid (Below w.heap.size w wr)) (fun i _ => l.length - (intOf i).toNat)
  case atStart => exact ⟨0, t0, A0, n0, B0, m0, by omega, rfl, HW0.out, HC0.out, HM.out, HX.out, HB.out⟩
  case round =>
    obtain ⟨k, q, A5, n5, B5, m5, hk, rfl, HWh, HC, HMm, HX, HBr⟩ := hrel
    clear HW0 HC0 HM HB
    by_cases hlt : k < l.length
    · obtain ⟨la, hla, hlab, hat⟩ := HL.out k l[k] (List.getElem?_eq_getElem hlt)
      subst hla
      have HAT := Lib.hid hat; clear hat
      have HLB := Lib.hid hlab; clear hlab
      generalize l[k] = i at *
      have HF := Lib.hid (HWh.out.fine.fit (f := q.f) (by rw [HC.out.1]; decide) (by rw [HC.out.2]; decide))
      have hD := fun (w0 v : World) (h : Mem w0 A5 n5 B5 m5 q.s q.c) (hb : Below w0.heap.size w0 v) => zmark_of q A5 B5 n5 m5 i v (h.up hb) HF.out (mask_small HWh.out.mr)
      obtain ⟨t1, hs, hw1, hf1, hc1⟩ := mark_sure HWh.out HC.out.2 HC.out.1 i
      have hou : q.out i = (decide (i < 0) || decide (q.b.n ≤ i)) := rfl
      rw [hs, hou] at hD
      clear hs hou
      have HWn := Lib.hid hw1; clear hw1
      have HCn : Hid (t1.c = [] ∧ t1.f = 0) := ⟨hc1, hf1⟩
      clear hf1 hc1 HF
      have HD := Lib.hid hD; clear hD
      go_wp2_with fail
      by_cases g0 : 0 ≤ i
      · by_cases g1 : i < q.b.n
        · have q0 : decide (i < 0) = false := decide_eq_false (by omega)
          have q1 : decide (q.b.n ≤ i) = false := decide_eq_false (by omega)
          have d0 : decide (0 ≤ i) = true := decide_eq_true g0
          have d1 : decide (i < q.b.n) = true := decide_eq_true g1
          clear g0 g1
          have HD2 : Hid (∀ w0 v : World, Mem w0 A5 n5 B5 m5 q.s q.c → Below w0.heap.size w0 v → Calls Tryz.prog 22 #[toV q A5 n5 B5 m5, .int .i64 i] v (GivesS t1 0 v)) := by
            intro w0 v h hb
            have := HD.out w0 v h hb
            rw [q0, q1] at this
            exact this
          clear HD
          clear q0 q1
          refine rm9 w _ z7 q t1 0 A5 B5 n5 m5 la lc l k hlt i _ _ _ _ _ _ _ _ _ _ _ _ _ _ _ _ _ _ _ _ _ _ _ _ _ _ _ _ _ _ _ _ _ _ _ _ _ _ _ _ _ _ _ _ _ _ _ _ _ _ _ _ _ _ _ _ _ _ _ _ _ _ _ _ _ _ _ _ _ _ _ _ _ _ _ _ _ _ _ _ _ _ _ _ _ _ _ _ _ _ _ _ _ _ _ _ _ _ _ _ _ _ _ _ _ _ _ _ _ _ _ _ _ _ _ _ _ (held_one HBr.out HX.out) HAT.out HLB.out (fun _ _ d _ _ h => by cases d <;> exact h) (fun v hb => HD2.out _ v HMm.out hb) ?_
          intro A2 n2 B2 m2 z9 w6 v38 v39 v40 v41 v42 v43 v44 v45 v46 hH hM2 hX9 hb
          have H6 := Lib.hid hH; clear hH
          have M6 := Lib.hid hM2; clear hM2
          have X6 := Lib.hid hX9; clear hX9
          clear hb HMm HX HBr HD2
          have BZ := Lib.hid H6.out.b0
          have kz := BZ.out.cell
          have c0 := (H6.out.below.cell (p := la.add k) (by rw [zadd_block]; exact HLB.out)).trans HAT.out
          have hki : ((k : Nat) : Int) < (l.length : Int) := by omega
          go_wp2_with fail
          go_quiet (fail)
          rename_i nq
          have hb : Below w6.heap.size w6 (w6.drewN nq) := below_drewN (Below.refl _ _) nq
          have H7 := Lib.hid (H6.out.up hb)
          have M7 := Lib.hid (M6.out.up hb)
          have X9 := Lib.hid (X6.out.below hb)
          clear hb kz c0 BZ H6 M6 X6
          generalize w6.drewN nq = w7 at *
          have BZ := Lib.hid H7.out.b0
          have k9 := X9.out.cell
          have kz := BZ.out.cell
          have fz := BZ.out.frozen
          go_upto_region 8 with fail
          have HMn := Lib.hid (M7.out.setL [.slice A2 t1.s.length n2, .slice B2 t1.c.length m2, .int .i64 t1.f, .bool t1.x, .int .i64 t1.b.n, .int .u64 t1.b.c, .int .u64 t1.b.b, .int .u64 t1.b.o, .int .u64 t1.b.p, .bool t1.b.i, .bool t1.b.r, .bool t1.b.d, .int .u32 t1.m] 0 BZ.out (noText_st _ _ _ _ _ _ _ _ _ _) (noText_st t1.s.length t1.c.length t1.f t1.x t1.b t1.m A2 n2 B2 m2))
          have HXn := Lib.hid (show Box _ z7 [.slice A2 t1.s.length n2, .slice B2 t1.c.length m2, .int .i64 t1.f, .bool t1.x, .int .i64 t1.b.n, .int .u64 t1.b.c, .int .u64 t1.b.b, .int .u64 t1.b.o, .int .u64 t1.b.p, .bool t1.b.i, .bool t1.b.r, .bool t1.b.d, .int .u32 t1.m] from BZ.out.setL [.slice A2 t1.s.length n2, .slice B2 t1.c.length m2, .int .i64 t1.f, .bool t1.x, .int .i64 t1.b.n, .int .u64 t1.b.c, .int .u64 t1.b.b, .int .u64 t1.b.o, .int .u64 t1.b.p, .bool t1.b.i, .bool t1.b.r, .bool t1.b.d, .int .u32 t1.m] 0)
          have HBn := Lib.hid (Below.setL (b := z7) HZ.out [.slice A2 t1.s.length n2, .slice B2 t1.c.length m2, .int .i64 t1.f, .bool t1.x, .int .i64 t1.b.n, .int .u64 t1.b.c, .int .u64 t1.b.b, .int .u64 t1.b.o, .int .u64 t1.b.p, .bool t1.b.i, .bool t1.b.r, .bool t1.b.d, .int .u32 t1.m] 0 H7.out.below)
          generalize hWn : setL w7 z7 0 [.slice A2 t1.s.length n2, .slice B2 t1.c.length m2, .int .i64 t1.f, .bool t1.x, .int .i64 t1.b.n, .int .u64 t1.b.c, .int .u64 t1.b.b, .int .u64 t1.b.o, .int .u64 t1.b.p, .bool t1.b.i, .bool t1.b.r, .bool t1.b.d, .int .u32 t1.m] = w8 at *
          simp only [setL, Nat.zero_add, Nat.reduceAdd] at hWn
          simp only [hWn]
          clear hWn k9 kz fz BZ H7 M7 X9
          go_wp2_with fail
          go_roundw
          case rel => exact ⟨k + 1, t1, A2, n2, B2, m2, by omega, by go_num, HWn.out, HCn.out, HMn.out, HXn.out, HBn.out⟩
          case measure => simp [intOf]; omega
        · have q1 : decide (q.b.n ≤ i) = true := decide_eq_true (by omega)
          have d0 : decide (0 ≤ i) = true := decide_eq_true g0
          have d1 : decide (i < q.b.n) = false := decide_eq_false g1
          clear g0 g1
          have HD2 : Hid (∀ w0 v : World, Mem w0 A5 n5 B5 m5 q.s q.c → Below w0.heap.size w0 v → Calls Tryz.prog 22 #[toV q A5 n5 B5 m5, .int .i64 i] v (GivesS t1 4 v)) := by
            intro w0 v h hb
            have := HD.out w0 v h hb
            rw [q1, Bool.or_true] at this
            exact this
          clear HD
          clear q1
          refine rm9 w _ z7 q t1 4 A5 B5 n5 m5 la lc l k hlt i _ _ _ _ _ _ _ _ _ _ _ _ _ _ _ _ _ _ _ _ _ _ _ _ _ _ _ _ _ _ _ _ _ _ _ _ _ _ _ _ _ _ _ _ _ _ _ _ _ _ _ _ _ _ _ _ _ _ _ _ _ _ _ _ _ _ _ _ _ _ _ _ _ _ _ _ _ _ _ _ _ _ _ _ _ _ _ _ _ _ _ _ _ _ _ _ _ _ _ _ _ _ _ _ _ _ _ _ _ _ _ _ _ _ _ _ _ (held_one HBr.out HX.out) HAT.out HLB.out (fun _ _ d _ _ h => by cases d <;> exact h) (fun v hb => HD2.out _ v HMm.out hb) ?_
          intro A2 n2 B2 m2 z9 w6 v38 v39 v40 v41 v42 v43 v44 v45 v46 hH hM2 hX9 hb
          have H6 := Lib.hid hH; clear hH
          have M6 := Lib.hid hM2; clear hM2
          have X6 := Lib.hid hX9; clear hX9
          clear hb HMm HX HBr HD2
          have BZ := Lib.hid H6.out.b0
          have kz := BZ.out.cell
          have c0 := (H6.out.below.cell (p := la.add k) (by rw [zadd_block]; exact HLB.out)).trans HAT.out
          have hki : ((k : Nat) : Int) < (l.length : Int) := by omega
          go_wp2_with fail
          go_quiet (fail)
          rename_i nq
          have hb : Below w6.heap.size w6 (w6.drewN nq) := below_drewN (Below.refl _ _) nq
          have H7 := Lib.hid (H6.out.up hb)
          have M7 := Lib.hid (M6.out.up hb)
          have X9 := Lib.hid (X6.out.below hb)
          clear hb kz c0 BZ H6 M6 X6
          generalize w6.drewN nq = w7 at *
          have BZ := Lib.hid H7.out.b0
          have k9 := X9.out.cell
          have kz := BZ.out.cell
          have fz := BZ.out.frozen
          go_upto_region 8 with fail
          have HMn := Lib.hid (M7.out.setL [.slice A2 t1.s.length n2, .slice B2 t1.c.length m2, .int .i64 t1.f, .bool t1.x, .int .i64 t1.b.n, .int .u64 t1.b.c, .int .u64 t1.b.b, .int .u64 t1.b.o, .int .u64 t1.b.p, .bool t1.b.i, .bool t1.b.r, .bool t1.b.d, .int .u32 t1.m] 0 BZ.out (noText_st _ _ _ _ _ _ _ _ _ _) (noText_st t1.s.length t1.c.length t1.f t1.x t1.b t1.m A2 n2 B2 m2))
          have HXn := Lib.hid (show Box _ z7 [.slice A2 t1.s.length n2, .slice B2 t1.c.length m2, .int .i64 t1.f, .bool t1.x, .int .i64 t1.b.n, .int .u64 t1.b.c, .int .u64 t1.b.b, .int .u64 t1.b.o, .int .u64 t1.b.p, .bool t1.b.i, .bool t1.b.r, .bool t1.b.d, .int .u32 t1.m] from BZ.out.setL [.slice A2 t1.s.length n2, .slice B2 t1.c.length m2, .int .i64 t1.f, .bool t1.x, .int .i64 t1.b.n, .int .u64 t1.b.c, .int .u64 t1.b.b, .int .u64 t1.b.o, .int .u64 t1.b.p, .bool t1.b.i, .bool t1.b.r, .bool t1.b.d, .int .u32 t1.m] 0)
          have HBn := Lib.hid (Below.setL (b := z7) HZ.out [.slice A2 t1.s.length n2, .slice B2 t1.c.length m2, .int .i64 t1.f, .bool t1.x, .int .i64 t1.b.n, .int .u64 t1.b.c, .int .u64 t1.b.b, .int .u64 t1.b.o, .int .u64 t1.b.p, .bool t1.b.i, .bool t1.b.r, .bool t1.b.d, .int .u32 t1.m] 0 H7.out.below)
          generalize hWn : setL w7 z7 0 [.slice A2 t1.s.length n2, .slice B2 t1.c.length m2, .int .i64 t1.f, .bool t1.x, .int .i64 t1.b.n, .int .u64 t1.b.c, .int .u64 t1.b.b, .int .u64 t1.b.o, .int .u64 t1.b.p, .bool t1.b.i, .bool t1.b.r, .bool t1.b.d, .int .u32 t1.m] = w8 at *
          simp only [setL, Nat.zero_add, Nat.reduceAdd] at hWn
          simp only [hWn]
          clear hWn k9 kz fz BZ H7 M7 X9
          go_wp2_with fail
          go_roundw
          case rel => exact ⟨k + 1, t1, A2, n2, B2, m2, by omega, by go_num, HWn.out, HCn.out, HMn.out, HXn.out, HBn.out⟩
          case measure => simp [intOf]; omega
      · have q0 : decide (i < 0) = true := decide_eq_true (by omega)
        have d0 : decide (0 ≤ i) = false := decide_eq_false g0
        clear g0
        have HD2 : Hid (∀ w0 v : World, Mem w0 A5 n5 B5 m5 q.s q.c → Below w0.heap.size w0 v → Calls Tryz.prog 22 #[toV q A5 n5 B5 m5, .int .i64 i] v (GivesS t1 4 v)) := by
          intro w0 v h hb
          have := HD.out w0 v h hb
          rw [q0, Bool.true_or] at this
          exact this
        clear HD
        clear q0
        refine rm9 w _ z7 q t1 4 A5 B5 n5 m5 la lc l k hlt i _ _ _ _ _ _ _ _ _ _ _ _ _ _ _ _ _ _ _ _ _ _ _ _ _ _ _ _ _ _ _ _ _ _ _ _ _ _ _ _ _ _ _ _ _ _ _ _ _ _ _ _ _ _ _ _ _ _ _ _ _ _ _ _ _ _ _ _ _ _ _ _ _ _ _ _ _ _ _ _ _ _ _ _ _ _ _ _ _ _ _ _ _ _ _ _ _ _ _ _ _ _ _ _ _ _ _ _ _ _ _ _ _ _ _ _ _ (held_one HBr.out HX.out) HAT.out HLB.out (fun _ _ d _ _ h => by cases d <;> exact h) (fun v hb => HD2.out _ v HMm.out hb) ?_
        intro A2 n2 B2 m2 z9 w6 v38 v39 v40 v41 v42 v43 v44 v45 v46 hH hM2 hX9 hb
        have H6 := Lib.hid hH; clear hH
        have M6 := Lib.hid hM2; clear hM2
        have X6 := Lib.hid hX9; clear hX9
        clear hb HMm HX HBr HD2
        have BZ := Lib.hid H6.out.b0
        have kz := BZ.out.cell
        have c0 := (H6.out.below.cell (p := la.add k) (by rw [zadd_block]; exact HLB.out)).trans HAT.out
        have hki : ((k : Nat) : Int) < (l.length : Int) := by omega
        go_wp2_with fail
        go_quiet (fail)
        rename_i nq
        have hb : Below w6.heap.size w6 (w6.drewN nq) := below_drewN (Below.refl _ _) nq
        have H7 := Lib.hid (H6.out.up hb)
        have M7 := Lib.hid (M6.out.up hb)
        have X9 := Lib.hid (X6.out.below hb)
        clear hb kz c0 BZ H6 M6 X6
        generalize w6.drewN nq = w7 at *
        have BZ := Lib.hid H7.out.b0
        have k9 := X9.out.cell
        have kz := BZ.out.cell
        have fz := BZ.out.frozen
        go_upto_region 8 with fail
        have HMn := Lib.hid (M7.out.setL [.slice A2 t1.s.length n2, .slice B2 t1.c.length m2, .int .i64 t1.f, .bool t1.x, .int .i64 t1.b.n, .int .u64 t1.b.c, .int .u64 t1.b.b, .int .u64 t1.b.o, .int .u64 t1.b.p, .bool t1.b.i, .bool t1.b.r, .bool t1.b.d, .int .u32 t1.m] 0 BZ.out (noText_st _ _ _ _ _ _ _ _ _ _) (noText_st t1.s.length t1.c.length t1.f t1.x t1.b t1.m A2 n2 B2 m2))
        have HXn := Lib.hid (show Box _ z7 [.slice A2 t1.s.length n2, .slice B2 t1.c.length m2, .int .i64 t1.f, .bool t1.x, .int .i64 t1.b.n, .int .u64 t1.b.c, .int .u64 t1.b.b, .int .u64 t1.b.o, .int .u64 t1.b.p, .bool t1.b.i, .bool t1.b.r, .bool t1.b.d, .int .u32 t1.m] from BZ.out.setL [.slice A2 t1.s.length n2, .slice B2 t1.c.length m2, .int .i64 t1.f, .bool t1.x, .int .i64 t1.b.n, .int .u64 t1.b.c, .int .u64 t1.b.b, .int .u64 t1.b.o, .int .u64 t1.b.p, .bool t1.b.i, .bool t1.b.r, .bool t1.b.d, .int .u32 t1.m] 0)
        have HBn := Lib.hid (Below.setL (b := z7) HZ.out [.slice A2 t1.s.length n2, .slice B2 t1.c.length m2, .int .i64 t1.f, .bool t1.x, .int .i64 t1.b.n, .int .u64 t1.b.c, .int .u64 t1.b.b, .int .u64 t1.b.o, .int .u64 t1.b.p, .bool t1.b.i, .bool t1.b.r, .bool t1.b.d, .int .u32 t1.m] 0 H7.out.below)
        generalize hWn : setL w7 z7 0 [.slice A2 t1.s.length n2, .slice B2 t1.c.length m2, .int .i64 t1.f, .bool t1.x, .int .i64 t1.b.n, .int .u64 t1.b.c, .int .u64 t1.b.b, .int .u64 t1.b.o, .int .u64 t1.b.p, .bool t1.b.i, .bool t1.b.r, .bool t1.b.d, .int .u32 t1.m] = w8 at *
        simp only [setL, Nat.zero_add, Nat.reduceAdd] at hWn
        simp only [hWn]
        clear hWn k9 kz fz BZ H7 M7 X9
        go_wp2_with fail
        go_roundw
        case rel => exact ⟨k + 1, t1, A2, n2, B2, m2, by omega, by go_num, HWn.out, HCn.out, HMn.out, HXn.out, HBn.out⟩
        case measure => simp [intOf]; omega
    · obtain rfl : k = l.length := by omega
      have kz := HX.out.cell
      have HQC := HC
      have HQW := HWh
      clear HC HWh
      go_wp2_with fail
      clear kz
      go_loopw [12] (fun i wr => ∃ (k : Nat) (t : Sto) (A1 : Option Addr) (n1 : Nat) (B1 : Option Addr) (m1 : Nat), k ≤ l2.length ∧ i = .int .i64 k ∧ Hid (Whole N t) ∧ Hid (t.f = 0 ∧ t.s = q.s ∧ t.m ||| q.m = q.m ∧ t.c.length ≤ k) ∧ Hid (Mem wr A1 n1 B1 m1 t.s t.c) ∧ Hid (Box wr z7 [.slice A1 t.s.length n1, .slice B1 t.c.length m1, .int .i64 t.f, .bool t.x, .int .i64 t.b.n, .int .u64 t.b.c, .int .u64 t.b.b, .int .u64 t.b.o, .int .u64 t.b.p, .bool t.b.i, .bool t.b.r, .bool t.b.d, .int .u32 t.m]) ∧ Hid (Below w.heap.size w wr)) (fun i _ => l2.length - (intOf i).toNat)
      case atStart => exact ⟨0, q, A5, n5, B5, m5, by omega, rfl, HQW.out, ⟨HQC.out.2, rfl, Nat.or_self _, by rw [HQC.out.1]; decide⟩, HMm.out, HX.out, HBr.out⟩
      case round =>
        obtain ⟨k, t, A1, n1, B1, m1, hk, rfl, HWt, HC, HMt, HXt, HBt⟩ := hrel
        clear HMm HX HBr
        by_cases hlt : k < l2.length
        · obtain ⟨la, hla, hlab, hat⟩ := HL2.out k l2[k] (List.getElem?_eq_getElem hlt)
          subst hla
          have HAT := Lib.hid hat; clear hat
          have HLB := Lib.hid hlab; clear hlab
          generalize l2[k] = i at *
          have HF := Lib.hid (HWt.out.fine.fit (f := t.f) (by have := HC.out.2.2.2; omega) (by rw [HC.out.1]; decide))
          have hD := fun (w0 v : World) (h : Mem w0 A1 n1 B1 m1 t.s t.c) (hb : Below w0.heap.size w0 v) => zwipe_of t A1 B1 n1 m1 i v (h.up hb) HF.out (mask_small HWt.out.mr)
          obtain ⟨t1, e1, hs, hw1, hf1, hs1, ho1, hc1⟩ := wipe_sure HWt.out HC.out.1 HC.out.2.2.1 i
          rw [hs] at hD
          have HWn := Lib.hid hw1; clear hw1
          have HCn : Hid (t1.f = 0 ∧ t1.s = q.s ∧ t1.m ||| q.m = q.m ∧ t1.c.length ≤ k + 1) := ⟨hf1, hs1.trans HC.out.2.1, ho1, by have := HC.out.2.2.2; omega⟩
          clear hs hf1 hs1 ho1 hc1 HF
          have HD := Lib.hid hD; clear hD
          go_wp2_with fail
          refine rm17 w _ z7 t t1 e1 A1 B1 n1 m1 la ld l2 k hlt i _ _ _ _ _ _ _ _ _ _ _ _ _ _ _ _ _ _ _ _ _ _ _ _ _ _ _ _ _ _ _ _ _ _ _ _ _ _ _ _ _ _ _ _ _ _ _ _ _ _ _ _ _ _ _ _ _ _ _ _ _ _ _ _ _ _ _ _ _ _ _ _ _ _ _ _ _ _ _ _ _ _ _ _ _ _ _ _ _ _ _ _ _ _ _ _ _ _ _ _ _ _ _ _ _ _ _ _ _ _ _ _ _ _ _ _ _ (held_one HBt.out HXt.out) HAT.out HLB.out (fun _ _ d _ _ h => by cases d <;> exact h) (fun v hb => HD.out _ v HMt.out hb) ?_
          intro A2 n2 B2 m2 z9 w7 v74 v75 v76 v77 v78 v79 v80 v81 v82 hH hM2 hX9 hb
          have H7 := Lib.hid hH; clear hH
          have M7 := Lib.hid hM2; clear hM2
          have X9 := Lib.hid hX9; clear hX9
          clear hb HMt HXt HBt HD
          have BZ := Lib.hid H7.out.b0
          have k9 := X9.out.cell
          have kz := BZ.out.cell
          have fz := BZ.out.frozen
          go_upto_region 16 with fail
          have HMn := Lib.hid (M7.out.setL [.slice A2 t1.s.length n2, .slice B2 t1.c.length m2, .int .i64 t1.f, .bool t1.x, .int .i64 t1.b.n, .int .u64 t1.b.c, .int .u64 t1.b.b, .int .u64 t1.b.o, .int .u64 t1.b.p, .bool t1.b.i, .bool t1.b.r, .bool t1.b.d, .int .u32 t1.m] 0 BZ.out (noText_st _ _ _ _ _ _ _ _ _ _) (noText_st t1.s.length t1.c.length t1.f t1.x t1.b t1.m A2 n2 B2 m2))
          have HXn := Lib.hid (show Box _ z7 [.slice A2 t1.s.length n2, .slice B2 t1.c.length m2, .int .i64 t1.f, .bool t1.x, .int .i64 t1.b.n, .int .u64 t1.b.c, .int .u64 t1.b.b, .int .u64 t1.b.o, .int .u64 t1.b.p, .bool t1.b.i, .bool t1.b.r, .bool t1.b.d, .int .u32 t1.m] from BZ.out.setL [.slice A2 t1.s.length n2, .slice B2 t1.c.length m2, .int .i64 t1.f, .bool t1.x, .int .i64 t1.b.n, .int .u64 t1.b.c, .int .u64 t1.b.b, .int .u64 t1.b.o, .int .u64 t1.b.p, .bool t1.b.i, .bool t1.b.r, .bool t1.b.d, .int .u32 t1.m] 0)
          have HBn := Lib.hid (Below.setL (b := z7) HZ.out [.slice A2 t1.s.length n2, .slice B2 t1.c.length m2, .int .i64 t1.f, .bool t1.x, .int .i64 t1.b.n, .int .u64 t1.b.c, .int .u64 t1.b.b, .int .u64 t1.b.o, .int .u64 t1.b.p, .bool t1.b.i, .bool t1.b.r, .bool t1.b.d, .int .u32 t1.m] 0 H7.out.below)
          generalize hWn : setL w7 z7 0 [.slice A2 t1.s.length n2, .slice B2 t1.c.length m2, .int .i64 t1.f, .bool t1.x, .int .i64 t1.b.n, .int .u64 t1.b.c, .int .u64 t1.b.b, .int .u64 t1.b.o, .int .u64 t1.b.p, .bool t1.b.i, .bool t1.b.r, .bool t1.b.d, .int .u32 t1.m] = w8 at *
          simp only [setL, Nat.zero_add, Nat.reduceAdd] at hWn
          simp only [hWn]
          clear hWn k9 kz fz BZ H7 M7 X9
          go_wp2_with fail
          go_roundw
          case rel => exact ⟨k + 1, t1, A2, n2, B2, m2, by omega, by go_num, HWn.out, HCn.out, HMn.out, HXn.out, HBn.out⟩
          case measure => simp [intOf]; omega
        · obtain rfl : k = l2.length := by omega
          obtain ⟨hq1, _, _⟩ := sure_again HQW.out HQC.out.2 HQC.out.1 HC.out.2.1
          have hRV := fun (v : World) (h : Mem v A1 n1 B1 m1 t.s t.c) => revive_q (q := q) HWt.out.fine (by have := HC.out.2.2.2; omega) [] (by decide) hq1.symm HQC.out.1 HQC.out.2 A1 B1 none n1 m1 0 v h (es_nil _ _ _ _)
          have HRV := Lib.hid hRV
          have HFq := Lib.hid (HQW.out.fine.fit (f := q.f) (by rw [HQC.out.1]; decide) (by rw [HQC.out.2]; decide))
          clear hRV hq1
          have b1 : (bits .and .u32 (q.m : Int) (t.m : Int) == (t.m : Int)) = true := by
            rw [u32_and_nat q.m t.m (mask_small HQW.out.mr) (mask_small HWt.out.mr), and_of_or HC.out.2.2.1]
            simp
          have b2 : (bits .or .u32 (q.m : Int) (q.m : Int) == (q.m : Int)) = true := by
            rw [u32_or_nat q.m q.m (mask_small HQW.out.mr) (mask_small HQW.out.mr), Nat.or_self]
            simp
          have b3 : (bits .or .u32 (t.m : Int) (q.m : Int) == (q.m : Int)) = true := by
            rw [u32_or_nat t.m q.m (mask_small HWt.out.mr) (mask_small HQW.out.mr), HC.out.2.2.1]
            simp
          have kz := HXt.out.cell
          go_wp2_with fail
          refine (rcrash_any A1 B1 t.s.length n1 t.c.length m1 t.f t.x _).mono ?_
          rintro e w6 ⟨rfl, hb⟩
          have M6 := Lib.hid (HMt.out.up hb)
          have X6 := Lib.hid (HXt.out.below hb)
          have B6 := Lib.hid (ext HBt.out hb)
          clear hb kz HMt HXt HBt
          go_wp2_with fail
          refine (HRV.out _ M6.out).mono ?_
          rintro e w7 ⟨Ar, nr, Br, mr, rfl, hmr, hb⟩
          have M7 := Lib.hid hmr; clear hmr
          have X7 := Lib.hid (X6.out.below hb)
          have B7 := Lib.hid (ext B6.out hb)
          clear hb M6 X6 B6
          go_wp2_with fail
          refine (zattach_whole HQW.out Ar Br nr mr _ M7.out HFq.out a (HG.out.up B7.out)).mono ?_
          rintro e w8 ⟨A9, n9, B9, m9, rfl, hm9, hb⟩
          have hb2 : Below w8.heap.size w8 (w8.alloc (.cells ([.slice A9 q.s.length n9, .slice B9 q.c.length m9, .int .i64 q.f, .bool q.x, .int .i64 q.b.n, .int .u64 q.b.c, .int .u64 q.b.b, .int .u64 q.b.o, .int .u64 q.b.p, .bool q.b.i, .bool q.b.r, .bool q.b.d, .int .u32 q.m] : List Value).toArray 34)) := below1
          have X8 := Lib.hid ((X7.out.below hb).below hb2)
          have B8 := Lib.hid (ext (ext B7.out hb) hb2)
          have Y8 := Lib.hid (Box.new w8 [.slice A9 q.s.length n9, .slice B9 q.c.length m9, .int .i64 q.f, .bool q.x, .int .i64 q.b.n, .int .u64 q.b.c, .int .u64 q.b.b, .int .u64 q.b.o, .int .u64 q.b.p, .bool q.b.i, .bool q.b.r, .bool q.b.d, .int .u32 q.m] 34)
          clear hb hb2 hm9 M7 X7 B7
          go_upto_region 20 with fail
          generalize w8.alloc (.cells #[.slice A9 q.s.length n9, .slice B9 q.c.length m9, .int .i64 q.f, .bool q.x, .int .i64 q.b.n, .int .u64 q.b.c, .int .u64 q.b.b, .int .u64 q.b.o, .int .u64 q.b.p, .bool q.b.i, .bool q.b.r, .bool q.b.d, .int .u32 q.m] 34) = w9 at *
          generalize w8.heap.size = z8 at *
          have kz := X8.out.cell
          have ky := Y8.out.cell
          go_wp2_with fail
          go_ret
          exact ⟨ret_bool (by simp), B8.out⟩

theorem zmarks_law (nn : Int) (LA : Option Addr) (lc : Nat) (l : List Int) (LB : Option Addr) (ld : Nat) (l2 : List Int) (a : Addr) (w : World) (hl : Es (Value.int .i64) w w.heap.size LA l) (hl2 : Es (Value.int .i64) w w.heap.size LB l2) (hg : Glob w a) (h0 : 0 ≤ nn) (h1 : nn < 256) : Calls Tryz.prog 6 #[.int .u8 nn, .slice LA l.length lc, .slice LB l2.length ld] w (Yes w) := by
  by_cases h50 : 50 < l.length
  · exact zmarks_many1 nn LA lc l LB ld l2 a w hl hl2 hg h50
  · by_cases h51 : 50 < l2.length
    · exact zmarks_many2 nn LA lc l LB ld l2 a w hl hl2 hg h50 h51
    · exact zmarks_go nn LA lc l LB ld l2 a w hl hl2 hg h50 h51 h0 h1
end Go.Proofs.YtjkgellkkjjnbaaGreatDoor
