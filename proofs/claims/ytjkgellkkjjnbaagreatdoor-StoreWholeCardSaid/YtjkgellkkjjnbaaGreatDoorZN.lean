/- The regions of StoreActs and StoreWhole in which an act is done, each by itself: the order is drawn. -/
import Derived.Test.YtjkgellkkjjnbaaGreatDoorZI
namespace Go.Proofs.YtjkgellkkjjnbaaGreatDoor
open Go.RowKit

/-- A region of a function's code. -/
def regIn (id : Nat) : Code → Option Code
  | .region i ops d => if i = id then some (.region i ops d) else none
  | .seq a b => (regIn id a).orElse fun _ => regIn id b
  | .cond _ a b => (regIn id a).orElse fun _ => regIn id b
  | .block _ b => regIn id b
  | .loop b => regIn id b
  | .scope b => regIn id b
  | _ => none
def regOf (id : Nat) (f : Func) : Code := (f.body.bind (regIn id)).getD .skip

theorem ActAt.up {w w' : World} {p : Addr} {a : Act} (h : ActAt w p a) (hp : p.block < w.heap.size) (hb : Below w.heap.size w w') : ActAt w' p a := h.same (hb.block _ hp)

set_option maxRecDepth 100000 in
set_option maxHeartbeats 8000000 in
theorem ra10 {K : Go.Act → World → Prop} {Q : Exit → Go.Act → World → Prop} (w0 w : World) (z : Nat) (t t1 : Sto) (e1 : Int) (d1 : ByteArray) (A B : Option Addr) (n m : Nat) (la : Addr) (lc : Nat) (l : List Act) (k : Nat) (hlt : k < l.length) (a : Act) (u0 u2 u3 u4 u5 u6 u9 u10 u11 u12 u13 u14 u15 u16 u17 u18 u19 u20 u21 u22 u23 u24 u25 u26 u27 u28 u29 u30 u31 u32 u33 u34 u35 u36 u37 u38 u39 u40 u41 u42 u43 u44 u45 u46 u47 u48 u49 u50 u51 u52 u53 u54 u55 u56 u57 u58 u59 u60 u61 u62 u63 u64 u65 u66 u67 u68 u69 u70 u71 u72 u73 u74 u75 : Value)
    (hx : Held w0 [(z, [.slice A t.s.length n, .slice B t.c.length m, .int .i64 t.f, .bool t.x, .int .i64 t.b.n, .int .u64 t.b.c, .int .u64 t.b.b, .int .u64 t.b.o, .int .u64 t.b.p, .bool t.b.i, .bool t.b.r, .bool t.b.d, .int .u32 t.m])] [] w) (ha : ActAt w0 (la.add (k * 12)) a) (hla : la.block < w0.heap.size) (hP : ∀ c (a : Go.Act) d v w, Q (.panic c) (a.put d v) w → Q (.panic c) a w)
    (hR : ∀ v, Below w.heap.size w v → Calls Tryz.prog 17 #[.agg #[.slice A t.s.length n, .slice B t.c.length m, .int .i64 t.f, .bool t.x, .int .i64 t.b.n, .int .u64 t.b.c, .int .u64 t.b.b, .int .u64 t.b.o, .int .u64 t.b.p, .bool t.b.i, .bool t.b.r, .bool t.b.d, .int .u32 t.m], .agg #[.int .i64 a.k, .int .i64 a.i, .int .u32 a.m, .string a.d, .int .i64 a.b.n, .int .u64 a.b.c, .int .u64 a.b.b, .int .u64 a.b.o, .int .u64 a.b.p, .bool a.b.i, .bool a.b.r, .bool a.b.d]] v (GivesP ((t1, e1), d1) v))
    (hK : ∀ A1 n1 B1 m1 z9 w2 v36 v37 v38 v39 v40 v41 v42 v43 v44 v45, Held w0 [(z, [.slice A t.s.length n, .slice B t.c.length m, .int .i64 t.f, .bool t.x, .int .i64 t.b.n, .int .u64 t.b.c, .int .u64 t.b.b, .int .u64 t.b.o, .int .u64 t.b.p, .bool t.b.i, .bool t.b.r, .bool t.b.d, .int .u32 t.m])] [] w2 → Mem w2 A1 n1 B1 m1 t1.s t1.c → Box w2 z9 [.slice A1 t1.s.length n1, .slice B1 t1.c.length m1, .int .i64 t1.f, .bool t1.x, .int .i64 t1.b.n, .int .u64 t1.b.c, .int .u64 t1.b.b, .int .u64 t1.b.o, .int .u64 t1.b.p, .bool t1.b.i, .bool t1.b.r, .bool t1.b.d, .int .u32 t1.m] → Below w.heap.size w w2 → K { tmps := #[u0, .slice (some la) l.length lc, u2, u3, u4, u5, u6, .pointer (some ⟨z, 0, none⟩), .int .i64 (k : Int), .pointer (some ⟨z9, 0, none⟩), .string d1, .int .i64 e1, u12, u13, u14, u15, u16, u17, u18, u19, u20, u21, u22, u23, u24, u25, u26, u27, u28, u29, u30, u31, u32, u33, u34, u35, v36, v37, v38, v39, v40, v41, v42, v43, v44, v45, u46, u47, u48, u49, u50, u51, u52, u53, u54, u55, u56, u57, u58, u59, u60, u61, u62, u63, u64, u65, u66, u67, u68, u69, u70, u71, u72, u73, u74, u75], defers := [] } w2) :
    (regOf 10 Tryz.f4).wp Tryz.prog (Exit.then K Q) { tmps := #[u0, .slice (some la) l.length lc, u2, u3, u4, u5, u6, .pointer (some ⟨z, 0, none⟩), .int .i64 (k : Int), u9, u10, u11, u12, u13, u14, u15, u16, u17, u18, u19, u20, u21, u22, u23, u24, u25, u26, u27, u28, u29, u30, u31, u32, u33, u34, u35, u36, u37, u38, u39, u40, u41, u42, u43, u44, u45, u46, u47, u48, u49, u50, u51, u52, u53, u54, u55, u56, u57, u58, u59, u60, u61, u62, u63, u64, u65, u66, u67, u68, u69, u70, u71, u72, u73, u74, u75], defers := [] } w := by
  have HX := Lib.hid hx; clear hx
  have HA := Lib.hid ha; clear ha
  have HB : Hid ((la.add (k * 12)).block < w0.heap.size) := by rw [zadd_block]; exact hla
  clear hla
  have HR := Lib.hid hR; clear hR
  have HK := Lib.hid hK; clear hK
  have HP := Lib.hid hP; clear hP
  change Code.wp Tryz.prog (Code.region 10 _ true) _ _ _

  refine held_start (S := Held w0 [(z, [.slice A t.s.length n, .slice B t.c.length m, .int .i64 t.f, .bool t.x, .int .i64 t.b.n, .int .u64 t.b.c, .int .u64 t.b.b, .int .u64 t.b.o, .int .u64 t.b.p, .bool t.b.i, .bool t.b.r, .bool t.b.d, .int .u32 t.m])] []) (by kernel_rfl) HX.out.drew (fun v0 hv0 hH0 => ?_)
  have HW := Lib.hid hv0
  clear hv0
  refine wpAnyH_take (i := 0) (v := ?_) rfl (by kernel_rfl) (by kernel_rfl) (by kernel_rfl) (fun _ _ _ h => HP.out _ _ _ _ _ h) (Or.inl ⟨by rfl, ?_⟩) hH0 ?_
  rotate_left
  · (intro v hSw; have k0 := hSw.b0.cell; go_simp; try with_reducible rfl)
  simp only [Act.put, List.setIfInBounds_toArray, List.set_cons_zero, List.set_cons_succ, List.getElem_toArray, List.getElem_cons_zero]
  refine wpAnyH_take (i := 1) (v := ?_) rfl (by kernel_rfl) (by kernel_rfl) (by kernel_rfl) (fun _ _ _ h => HP.out _ _ _ _ _ h) (Or.inl ⟨by rfl, ?_⟩) hH0 ?_
  rotate_left
  · (intro v hSw; go_simp; try with_reducible rfl)
  simp only [Act.put, List.setIfInBounds_toArray, List.set_cons_zero, List.set_cons_succ, List.getElem_toArray, List.getElem_cons_zero, List.getElem_cons_succ]
  refine wpAnyH_take (i := 2) (v := ?_) rfl (by kernel_rfl) (by kernel_rfl) (by kernel_rfl) (fun _ _ _ h => HP.out _ _ _ _ _ h) (Or.inl ⟨by rfl, ?_⟩) hH0 ?_
  rotate_left
  · (intro v hSw; go_simp; try with_reducible rfl)
  simp only [Act.put, List.setIfInBounds_toArray, List.set_cons_zero, List.set_cons_succ, List.getElem_toArray, List.getElem_cons_zero, List.getElem_cons_succ]
  refine wpAnyH_take (i := 3) (v := ?_) rfl (by kernel_rfl) (by kernel_rfl) (by kernel_rfl) (fun _ _ _ h => HP.out _ _ _ _ _ h) (Or.inl ⟨by rfl, ?_⟩) hH0 ?_
  rotate_left
  · (intro v hSw; go_simp; try with_reducible rfl)
  simp only [Act.put, List.setIfInBounds_toArray, List.set_cons_zero, List.set_cons_succ, List.getElem_toArray, List.getElem_cons_zero, List.getElem_cons_succ]
  refine wpAnyH_take (i := 4) (v := ?_) rfl (by kernel_rfl) (by kernel_rfl) (by kernel_rfl) (fun _ _ _ h => HP.out _ _ _ _ _ h) (Or.inl ⟨by rfl, ?_⟩) hH0 ?_
  rotate_left
  · (intro v hSw; have ca := HA.out.up HB.out hSw.below; have c0 := ca.c0; have c1 := ca.c1; have c2 := ca.c2; have c3 := ca.c3; have c4 := ca.c4; have c5 := ca.c5; have c6 := ca.c6; have c7 := ca.c7; have c8 := ca.c8; have c9 := ca.c9; have c10 := ca.c10; have c11 := ca.c11; go_simp; try with_reducible rfl)
  simp only [Act.put, List.setIfInBounds_toArray, List.set_cons_zero, List.set_cons_succ, List.getElem_toArray, List.getElem_cons_zero, List.getElem_cons_succ]
  refine wpAnyH_ready (rs := [5, 10]) (by kernel_rfl) (by simp) ?_
  refine AllReadyH.cons rfl (fun K1 hK => ?_) ?_
  · go_simp
    refine (HR.out v0 HW.out).mono ?_
    rintro e v1 ⟨A1, n1, B1, m1, rfl, hm1, hb⟩
    have HM1 := Lib.hid hm1
    try replace XB := Lib.hid (XB.out.below hb)
    try replace HO := Lib.hid (HO.out.up hb)
    replace HW := Lib.hid (ext HW.out hb)
    go_wp2_with fail
    refine hK.out _ _ (hH0.up hb) (fun hH1 => ?_)
    clear hK K1 hH0 hb hm1
    refine wpAnyH_take (i := 6) (v := ?_) rfl (by kernel_rfl) (by kernel_rfl) (by kernel_rfl) (fun _ _ _ h => HP.out _ _ _ _ _ h) (Or.inl ⟨by rfl, ?_⟩) hH1 ?_
    rotate_left
    · (intro v hSw; go_simp; try with_reducible rfl)
    simp only [Act.put, List.setIfInBounds_toArray, List.set_cons_zero, List.set_cons_succ, List.getElem_toArray, List.getElem_cons_zero, List.getElem_cons_succ]
    refine wpAnyH_take (i := 7) (v := ?_) rfl (by kernel_rfl) (by kernel_rfl) (by kernel_rfl) (fun _ _ _ h => HP.out _ _ _ _ _ h) (Or.inl ⟨by rfl, ?_⟩) hH1 ?_
    rotate_left
    · (intro v hSw; go_simp; try with_reducible rfl)
    simp only [Act.put, List.setIfInBounds_toArray, List.set_cons_zero, List.set_cons_succ, List.getElem_toArray, List.getElem_cons_zero, List.getElem_cons_succ]
    refine wpAnyH_take (i := 8) (v := ?_) rfl (by kernel_rfl) (by kernel_rfl) (by kernel_rfl) (fun _ _ _ h => HP.out _ _ _ _ _ h) (Or.inl ⟨by rfl, ?_⟩) hH1 ?_
    rotate_left
    · (intro v hSw; go_simp; try with_reducible rfl)
    simp only [Act.put, List.setIfInBounds_toArray, List.set_cons_zero, List.set_cons_succ, List.getElem_toArray, List.getElem_cons_zero, List.getElem_cons_succ]
    refine wpAnyH_take (i := 9) (v := ?_) rfl (by kernel_rfl) (by kernel_rfl) (by kernel_rfl) (fun _ _ _ h => HP.out _ _ _ _ _ h) (Or.inl ⟨by rfl, ?_⟩) hH1 ?_
    rotate_left
    · (intro v hSw; go_simp; try with_reducible rfl)
    simp only [Act.put, List.setIfInBounds_toArray, List.set_cons_zero, List.set_cons_succ, List.getElem_toArray, List.getElem_cons_zero, List.getElem_cons_succ]
    refine wpAnyH_ready (rs := [10]) (by kernel_rfl) (by simp) ?_
    refine AllReadyH.cons rfl (fun K1 hK => ?_) AllReadyH.nil
    go_simp
    refine hK.out _ _ (hH1.alloc _) (fun hH2 => ?_)
    have HO := Lib.hid (hH1.own [.slice none 0 0, .slice none 0 0, .int .i64 0, .bool false, .int .i64 0, .int .u64 0, .int .u64 0, .int .u64 0, .int .u64 0, .bool false, .bool false, .bool false, .int .u32 0] 34 (n := 13) rfl)
    have HZ9 : Hid (w.heap.size ≤ v1.heap.size) := HW.out.size
    have XB := Lib.hid (Box.new v1 [.slice none 0 0, .slice none 0 0, .int .i64 0, .bool false, .int .i64 0, .int .u64 0, .int .u64 0, .int .u64 0, .int .u64 0, .bool false, .bool false, .bool false, .int .u32 0] 34)
    have hb : Below v1.heap.size v1 (v1.alloc (.cells ([.slice none 0 0, .slice none 0 0, .int .i64 0, .bool false, .int .i64 0, .int .u64 0, .int .u64 0, .int .u64 0, .int .u64 0, .bool false, .bool false, .bool false, .int .u32 0] : List Value).toArray 34)) := below1
    try replace HM1 := Lib.hid (HM1.out.up hb)
    replace HW := Lib.hid (ext HW.out hb)
    generalize v1.alloc (.cells #[.slice none 0 0, .slice none 0 0, .int .i64 0, .bool false, .int .i64 0, .int .u64 0, .int .u64 0, .int .u64 0, .int .u64 0, .bool false, .bool false, .bool false, .int .u32 0] 34) = v2 at *
    generalize hz : v1.heap.size = z9 at *
    clear hz hb hK K1 hH1
    refine wpAnyH_ready (rs := [11]) (by kernel_rfl) (by simp) ?_
    refine AllReadyH.cons rfl (fun K1 hK => ?_) AllReadyH.nil
    have kx := XB.out.cell
    have fx := XB.out.frozen
    have HS2 := HO.out.setL (b := z9) ⟨13, by simp⟩ [.slice A1 t1.s.length n1, .slice B1 t1.c.length m1, .int .i64 t1.f, .bool t1.x, .int .i64 t1.b.n, .int .u64 t1.b.c, .int .u64 t1.b.b, .int .u64 t1.b.o, .int .u64 t1.b.p, .bool t1.b.i, .bool t1.b.r, .bool t1.b.d, .int .u32 t1.m] 0
    go_simp
    refine hK.out _ _ HS2.done (fun hH3 => ?_)
    replace HM1 := Lib.hid (HM1.out.setL [.slice A1 t1.s.length n1, .slice B1 t1.c.length m1, .int .i64 t1.f, .bool t1.x, .int .i64 t1.b.n, .int .u64 t1.b.c, .int .u64 t1.b.b, .int .u64 t1.b.o, .int .u64 t1.b.p, .bool t1.b.i, .bool t1.b.r, .bool t1.b.d, .int .u32 t1.m] 0 XB.out (noText_st 0 0 0 false Sup.zero 0 none 0 none 0) (noText_st t1.s.length t1.c.length t1.f t1.x t1.b t1.m A1 n1 B1 m1))
    replace XB := Lib.hid (show Box _ z9 [.slice A1 t1.s.length n1, .slice B1 t1.c.length m1, .int .i64 t1.f, .bool t1.x, .int .i64 t1.b.n, .int .u64 t1.b.c, .int .u64 t1.b.b, .int .u64 t1.b.o, .int .u64 t1.b.p, .bool t1.b.i, .bool t1.b.r, .bool t1.b.d, .int .u32 t1.m] from XB.out.setL [.slice A1 t1.s.length n1, .slice B1 t1.c.length m1, .int .i64 t1.f, .bool t1.x, .int .i64 t1.b.n, .int .u64 t1.b.c, .int .u64 t1.b.b, .int .u64 t1.b.o, .int .u64 t1.b.p, .bool t1.b.i, .bool t1.b.r, .bool t1.b.d, .int .u32 t1.m] 0)
    replace HW := Lib.hid (Below.setL (b := z9) (HZ9.out) [.slice A1 t1.s.length n1, .slice B1 t1.c.length m1, .int .i64 t1.f, .bool t1.x, .int .i64 t1.b.n, .int .u64 t1.b.c, .int .u64 t1.b.b, .int .u64 t1.b.o, .int .u64 t1.b.p, .bool t1.b.i, .bool t1.b.r, .bool t1.b.d, .int .u32 t1.m] 0 HW.out)
    clear kx fx HS2 HO
    generalize hW : setL v2 z9 0 [.slice A1 t1.s.length n1, .slice B1 t1.c.length m1, .int .i64 t1.f, .bool t1.x, .int .i64 t1.b.n, .int .u64 t1.b.c, .int .u64 t1.b.b, .int .u64 t1.b.o, .int .u64 t1.b.p, .bool t1.b.i, .bool t1.b.r, .bool t1.b.d, .int .u32 t1.m] = v3 at *
    simp only [setL, Nat.zero_add, Nat.reduceAdd] at hW
    simp only [hW] at hH3 ⊢
    clear hW hK K1 hH2
    refine wpAnyH_take (i := 12) (v := ?_) rfl (by kernel_rfl) (by kernel_rfl) (by kernel_rfl) (fun _ _ _ h => HP.out _ _ _ _ _ h) (Or.inl ⟨by rfl, ?_⟩) hH3 ?_
    rotate_left
    · (intro v hSw; go_simp; try with_reducible rfl)
    simp only [Act.put, List.setIfInBounds_toArray, List.set_cons_zero, List.set_cons_succ, List.getElem_toArray, List.getElem_cons_zero, List.getElem_cons_succ]
    refine wpAnyH_take (i := 13) (v := ?_) rfl (by kernel_rfl) (by kernel_rfl) (by kernel_rfl) (fun _ _ _ h => HP.out _ _ _ _ _ h) (Or.inl ⟨by rfl, ?_⟩) hH3 ?_
    rotate_left
    · (intro v hSw; go_simp; try with_reducible rfl)
    simp only [Act.put, List.setIfInBounds_toArray, List.set_cons_zero, List.set_cons_succ, List.getElem_toArray, List.getElem_cons_zero, List.getElem_cons_succ]
    refine wpAnyH_done (by kernel_rfl) ?_ _
    have H9 := Lib.hid hH3
    refine HK.out A1 n1 B1 m1 z9 _ (.tuple #[.agg #[.slice A1 t1.s.length n1, .slice B1 t1.c.length m1, .int .i64 t1.f, .bool t1.x, .int .i64 t1.b.n, .int .u64 t1.b.c, .int .u64 t1.b.b, .int .u64 t1.b.o, .int .u64 t1.b.p, .bool t1.b.i, .bool t1.b.r, .bool t1.b.d, .int .u32 t1.m], .string d1, .int .i64 e1]) (.agg #[.slice A t.s.length n, .slice B t.c.length m, .int .i64 t.f, .bool t.x, .int .i64 t.b.n, .int .u64 t.b.c, .int .u64 t.b.b, .int .u64 t.b.o, .int .u64 t.b.p, .bool t.b.i, .bool t.b.r, .bool t.b.d, .int .u32 t.m]) (.slice (some la) l.length lc) (.int .i64 (k : Int)) (.pointer (some (la.add (k * 12)))) (.agg #[.int .i64 a.k, .int .i64 a.i, .int .u32 a.m, .string a.d, .int .i64 a.b.n, .int .u64 a.b.c, .int .u64 a.b.b, .int .u64 a.b.o, .int .u64 a.b.p, .bool a.b.i, .bool a.b.r, .bool a.b.d]) (.tuple #[.agg #[.slice A1 t1.s.length n1, .slice B1 t1.c.length m1, .int .i64 t1.f, .bool t1.x, .int .i64 t1.b.n, .int .u64 t1.b.c, .int .u64 t1.b.b, .int .u64 t1.b.o, .int .u64 t1.b.p, .bool t1.b.i, .bool t1.b.r, .bool t1.b.d, .int .u32 t1.m], .string d1, .int .i64 e1]) (.agg #[.slice A1 t1.s.length n1, .slice B1 t1.c.length m1, .int .i64 t1.f, .bool t1.x, .int .i64 t1.b.n, .int .u64 t1.b.c, .int .u64 t1.b.b, .int .u64 t1.b.o, .int .u64 t1.b.p, .bool t1.b.i, .bool t1.b.r, .bool t1.b.d, .int .u32 t1.m]) (.string d1) (.int .i64 e1) H9.out HM1.out XB.out HW.out
  refine AllReadyH.cons rfl (fun K1 hK => ?_) AllReadyH.nil
  go_simp
  refine hK.out _ _ (hH0.alloc _) (fun hH4 => ?_)
  have HO := Lib.hid (hH0.own [.slice none 0 0, .slice none 0 0, .int .i64 0, .bool false, .int .i64 0, .int .u64 0, .int .u64 0, .int .u64 0, .int .u64 0, .bool false, .bool false, .bool false, .int .u32 0] 34 (n := 13) rfl)
  have HZ9 : Hid (w.heap.size ≤ v0.heap.size) := HW.out.size
  have XB := Lib.hid (Box.new v0 [.slice none 0 0, .slice none 0 0, .int .i64 0, .bool false, .int .i64 0, .int .u64 0, .int .u64 0, .int .u64 0, .int .u64 0, .bool false, .bool false, .bool false, .int .u32 0] 34)
  have hb : Below v0.heap.size v0 (v0.alloc (.cells ([.slice none 0 0, .slice none 0 0, .int .i64 0, .bool false, .int .i64 0, .int .u64 0, .int .u64 0, .int .u64 0, .int .u64 0, .bool false, .bool false, .bool false, .int .u32 0] : List Value).toArray 34)) := below1
  try replace HM1 := Lib.hid (HM1.out.up hb)
  replace HW := Lib.hid (ext HW.out hb)
  generalize v0.alloc (.cells #[.slice none 0 0, .slice none 0 0, .int .i64 0, .bool false, .int .i64 0, .int .u64 0, .int .u64 0, .int .u64 0, .int .u64 0, .bool false, .bool false, .bool false, .int .u32 0] 34) = v4 at *
  generalize hz : v0.heap.size = z9 at *
  clear hz hb hK K1 hH0
  refine wpAnyH_ready (rs := [5]) (by kernel_rfl) (by simp) ?_
  refine AllReadyH.cons rfl (fun K1 hK => ?_) AllReadyH.nil
  go_simp
  refine (HR.out v4 HW.out).mono ?_
  rintro e v5 ⟨A1, n1, B1, m1, rfl, hm1, hb⟩
  have HM1 := Lib.hid hm1
  try replace XB := Lib.hid (XB.out.below hb)
  try replace HO := Lib.hid (HO.out.up hb)
  replace HW := Lib.hid (ext HW.out hb)
  go_wp2_with fail
  refine hK.out _ _ (hH4.up hb) (fun hH5 => ?_)
  clear hK K1 hH4 hb hm1
  refine wpAnyH_take (i := 6) (v := ?_) rfl (by kernel_rfl) (by kernel_rfl) (by kernel_rfl) (fun _ _ _ h => HP.out _ _ _ _ _ h) (Or.inl ⟨by rfl, ?_⟩) hH5 ?_
  rotate_left
  · (intro v hSw; go_simp; try with_reducible rfl)
  simp only [Act.put, List.setIfInBounds_toArray, List.set_cons_zero, List.set_cons_succ, List.getElem_toArray, List.getElem_cons_zero, List.getElem_cons_succ]
  refine wpAnyH_take (i := 7) (v := ?_) rfl (by kernel_rfl) (by kernel_rfl) (by kernel_rfl) (fun _ _ _ h => HP.out _ _ _ _ _ h) (Or.inl ⟨by rfl, ?_⟩) hH5 ?_
  rotate_left
  · (intro v hSw; go_simp; try with_reducible rfl)
  simp only [Act.put, List.setIfInBounds_toArray, List.set_cons_zero, List.set_cons_succ, List.getElem_toArray, List.getElem_cons_zero, List.getElem_cons_succ]
  refine wpAnyH_take (i := 8) (v := ?_) rfl (by kernel_rfl) (by kernel_rfl) (by kernel_rfl) (fun _ _ _ h => HP.out _ _ _ _ _ h) (Or.inl ⟨by rfl, ?_⟩) hH5 ?_
  rotate_left
  · (intro v hSw; go_simp; try with_reducible rfl)
  simp only [Act.put, List.setIfInBounds_toArray, List.set_cons_zero, List.set_cons_succ, List.getElem_toArray, List.getElem_cons_zero, List.getElem_cons_succ]
  refine wpAnyH_take (i := 9) (v := ?_) rfl (by kernel_rfl) (by kernel_rfl) (by kernel_rfl) (fun _ _ _ h => HP.out _ _ _ _ _ h) (Or.inl ⟨by rfl, ?_⟩) hH5 ?_
  rotate_left
  · (intro v hSw; go_simp; try with_reducible rfl)
  simp only [Act.put, List.setIfInBounds_toArray, List.set_cons_zero, List.set_cons_succ, List.getElem_toArray, List.getElem_cons_zero, List.getElem_cons_succ]
  refine wpAnyH_ready (rs := [11]) (by kernel_rfl) (by simp) ?_
  refine AllReadyH.cons rfl (fun K1 hK => ?_) AllReadyH.nil
  have kx := XB.out.cell
  have fx := XB.out.frozen
  have HS2 := HO.out.setL (b := z9) ⟨13, by simp⟩ [.slice A1 t1.s.length n1, .slice B1 t1.c.length m1, .int .i64 t1.f, .bool t1.x, .int .i64 t1.b.n, .int .u64 t1.b.c, .int .u64 t1.b.b, .int .u64 t1.b.o, .int .u64 t1.b.p, .bool t1.b.i, .bool t1.b.r, .bool t1.b.d, .int .u32 t1.m] 0
  go_simp
  refine hK.out _ _ HS2.done (fun hH6 => ?_)
  replace HM1 := Lib.hid (HM1.out.setL [.slice A1 t1.s.length n1, .slice B1 t1.c.length m1, .int .i64 t1.f, .bool t1.x, .int .i64 t1.b.n, .int .u64 t1.b.c, .int .u64 t1.b.b, .int .u64 t1.b.o, .int .u64 t1.b.p, .bool t1.b.i, .bool t1.b.r, .bool t1.b.d, .int .u32 t1.m] 0 XB.out (noText_st 0 0 0 false Sup.zero 0 none 0 none 0) (noText_st t1.s.length t1.c.length t1.f t1.x t1.b t1.m A1 n1 B1 m1))
  replace XB := Lib.hid (show Box _ z9 [.slice A1 t1.s.length n1, .slice B1 t1.c.length m1, .int .i64 t1.f, .bool t1.x, .int .i64 t1.b.n, .int .u64 t1.b.c, .int .u64 t1.b.b, .int .u64 t1.b.o, .int .u64 t1.b.p, .bool t1.b.i, .bool t1.b.r, .bool t1.b.d, .int .u32 t1.m] from XB.out.setL [.slice A1 t1.s.length n1, .slice B1 t1.c.length m1, .int .i64 t1.f, .bool t1.x, .int .i64 t1.b.n, .int .u64 t1.b.c, .int .u64 t1.b.b, .int .u64 t1.b.o, .int .u64 t1.b.p, .bool t1.b.i, .bool t1.b.r, .bool t1.b.d, .int .u32 t1.m] 0)
  replace HW := Lib.hid (Below.setL (b := z9) (HZ9.out) [.slice A1 t1.s.length n1, .slice B1 t1.c.length m1, .int .i64 t1.f, .bool t1.x, .int .i64 t1.b.n, .int .u64 t1.b.c, .int .u64 t1.b.b, .int .u64 t1.b.o, .int .u64 t1.b.p, .bool t1.b.i, .bool t1.b.r, .bool t1.b.d, .int .u32 t1.m] 0 HW.out)
  clear kx fx HS2 HO
  generalize hW : setL v5 z9 0 [.slice A1 t1.s.length n1, .slice B1 t1.c.length m1, .int .i64 t1.f, .bool t1.x, .int .i64 t1.b.n, .int .u64 t1.b.c, .int .u64 t1.b.b, .int .u64 t1.b.o, .int .u64 t1.b.p, .bool t1.b.i, .bool t1.b.r, .bool t1.b.d, .int .u32 t1.m] = v6 at *
  simp only [setL, Nat.zero_add, Nat.reduceAdd] at hW
  simp only [hW] at hH6 ⊢
  clear hW hK K1 hH5
  refine wpAnyH_take (i := 12) (v := ?_) rfl (by kernel_rfl) (by kernel_rfl) (by kernel_rfl) (fun _ _ _ h => HP.out _ _ _ _ _ h) (Or.inl ⟨by rfl, ?_⟩) hH6 ?_
  rotate_left
  · (intro v hSw; go_simp; try with_reducible rfl)
  simp only [Act.put, List.setIfInBounds_toArray, List.set_cons_zero, List.set_cons_succ, List.getElem_toArray, List.getElem_cons_zero, List.getElem_cons_succ]
  refine wpAnyH_take (i := 13) (v := ?_) rfl (by kernel_rfl) (by kernel_rfl) (by kernel_rfl) (fun _ _ _ h => HP.out _ _ _ _ _ h) (Or.inl ⟨by rfl, ?_⟩) hH6 ?_
  rotate_left
  · (intro v hSw; go_simp; try with_reducible rfl)
  simp only [Act.put, List.setIfInBounds_toArray, List.set_cons_zero, List.set_cons_succ, List.getElem_toArray, List.getElem_cons_zero, List.getElem_cons_succ]
  refine wpAnyH_done (by kernel_rfl) ?_ _
  have H9 := Lib.hid hH6
  refine HK.out A1 n1 B1 m1 z9 _ (.tuple #[.agg #[.slice A1 t1.s.length n1, .slice B1 t1.c.length m1, .int .i64 t1.f, .bool t1.x, .int .i64 t1.b.n, .int .u64 t1.b.c, .int .u64 t1.b.b, .int .u64 t1.b.o, .int .u64 t1.b.p, .bool t1.b.i, .bool t1.b.r, .bool t1.b.d, .int .u32 t1.m], .string d1, .int .i64 e1]) (.agg #[.slice A t.s.length n, .slice B t.c.length m, .int .i64 t.f, .bool t.x, .int .i64 t.b.n, .int .u64 t.b.c, .int .u64 t.b.b, .int .u64 t.b.o, .int .u64 t.b.p, .bool t.b.i, .bool t.b.r, .bool t.b.d, .int .u32 t.m]) (.slice (some la) l.length lc) (.int .i64 (k : Int)) (.pointer (some (la.add (k * 12)))) (.agg #[.int .i64 a.k, .int .i64 a.i, .int .u32 a.m, .string a.d, .int .i64 a.b.n, .int .u64 a.b.c, .int .u64 a.b.b, .int .u64 a.b.o, .int .u64 a.b.p, .bool a.b.i, .bool a.b.r, .bool a.b.d]) (.tuple #[.agg #[.slice A1 t1.s.length n1, .slice B1 t1.c.length m1, .int .i64 t1.f, .bool t1.x, .int .i64 t1.b.n, .int .u64 t1.b.c, .int .u64 t1.b.b, .int .u64 t1.b.o, .int .u64 t1.b.p, .bool t1.b.i, .bool t1.b.r, .bool t1.b.d, .int .u32 t1.m], .string d1, .int .i64 e1]) (.agg #[.slice A1 t1.s.length n1, .slice B1 t1.c.length m1, .int .i64 t1.f, .bool t1.x, .int .i64 t1.b.n, .int .u64 t1.b.c, .int .u64 t1.b.b, .int .u64 t1.b.o, .int .u64 t1.b.p, .bool t1.b.i, .bool t1.b.r, .bool t1.b.d, .int .u32 t1.m]) (.string d1) (.int .i64 e1) H9.out HM1.out XB.out HW.out

set_option maxRecDepth 100000 in
set_option maxHeartbeats 8000000 in
theorem ra11 {K : Go.Act → World → Prop} {Q : Exit → Go.Act → World → Prop} (w0 w : World) (z : Nat) (t t1 : Sto) (e1 : Int) (d1 : ByteArray) (A B : Option Addr) (n m : Nat) (la : Addr) (lc : Nat) (l : List Act) (k : Nat) (hlt : k < l.length) (a : Act) (u0 u2 u3 u4 u5 u6 u9 u10 u11 u12 u13 u14 u15 u16 u17 u18 u19 u20 u21 u22 u23 u24 u25 u26 u27 u28 u29 u30 u31 u32 u33 u34 u35 u36 u37 u38 u39 u40 u41 u42 u43 u44 u45 u46 u47 u48 u49 u50 u51 u52 u53 u54 u55 u56 u57 u58 u59 u60 u61 u62 u63 u64 u65 u66 u67 u68 u69 u70 u71 u72 u73 u74 u75 : Value)
    (hx : Held w0 [(z, [.slice A t.s.length n, .slice B t.c.length m, .int .i64 t.f, .bool t.x, .int .i64 t.b.n, .int .u64 t.b.c, .int .u64 t.b.b, .int .u64 t.b.o, .int .u64 t.b.p, .bool t.b.i, .bool t.b.r, .bool t.b.d, .int .u32 t.m])] [] w) (ha : ActAt w0 (la.add (k * 12)) a) (hla : la.block < w0.heap.size) (hP : ∀ c (a : Go.Act) d v w, Q (.panic c) (a.put d v) w → Q (.panic c) a w)
    (hR : ∀ v, Below w.heap.size w v → Calls Tryz.prog 18 #[.agg #[.slice A t.s.length n, .slice B t.c.length m, .int .i64 t.f, .bool t.x, .int .i64 t.b.n, .int .u64 t.b.c, .int .u64 t.b.b, .int .u64 t.b.o, .int .u64 t.b.p, .bool t.b.i, .bool t.b.r, .bool t.b.d, .int .u32 t.m], .agg #[.int .i64 a.k, .int .i64 a.i, .int .u32 a.m, .string a.d, .int .i64 a.b.n, .int .u64 a.b.c, .int .u64 a.b.b, .int .u64 a.b.o, .int .u64 a.b.p, .bool a.b.i, .bool a.b.r, .bool a.b.d]] v (GivesP ((t1, e1), d1) v))
    (hK : ∀ A1 n1 B1 m1 z9 w2 v46 v47 v48 v49 v50 v51 v52 v53 v54 v55, Held w0 [(z, [.slice A t.s.length n, .slice B t.c.length m, .int .i64 t.f, .bool t.x, .int .i64 t.b.n, .int .u64 t.b.c, .int .u64 t.b.b, .int .u64 t.b.o, .int .u64 t.b.p, .bool t.b.i, .bool t.b.r, .bool t.b.d, .int .u32 t.m])] [] w2 → Mem w2 A1 n1 B1 m1 t1.s t1.c → Box w2 z9 [.slice A1 t1.s.length n1, .slice B1 t1.c.length m1, .int .i64 t1.f, .bool t1.x, .int .i64 t1.b.n, .int .u64 t1.b.c, .int .u64 t1.b.b, .int .u64 t1.b.o, .int .u64 t1.b.p, .bool t1.b.i, .bool t1.b.r, .bool t1.b.d, .int .u32 t1.m] → Below w.heap.size w w2 → K { tmps := #[u0, .slice (some la) l.length lc, u2, u3, u4, u5, u6, .pointer (some ⟨z, 0, none⟩), .int .i64 (k : Int), u9, u10, u11, .pointer (some ⟨z9, 0, none⟩), .string d1, .int .i64 e1, u15, u16, u17, u18, u19, u20, u21, u22, u23, u24, u25, u26, u27, u28, u29, u30, u31, u32, u33, u34, u35, u36, u37, u38, u39, u40, u41, u42, u43, u44, u45, v46, v47, v48, v49, v50, v51, v52, v53, v54, v55, u56, u57, u58, u59, u60, u61, u62, u63, u64, u65, u66, u67, u68, u69, u70, u71, u72, u73, u74, u75], defers := [] } w2) :
    (regOf 11 Tryz.f4).wp Tryz.prog (Exit.then K Q) { tmps := #[u0, .slice (some la) l.length lc, u2, u3, u4, u5, u6, .pointer (some ⟨z, 0, none⟩), .int .i64 (k : Int), u9, u10, u11, u12, u13, u14, u15, u16, u17, u18, u19, u20, u21, u22, u23, u24, u25, u26, u27, u28, u29, u30, u31, u32, u33, u34, u35, u36, u37, u38, u39, u40, u41, u42, u43, u44, u45, u46, u47, u48, u49, u50, u51, u52, u53, u54, u55, u56, u57, u58, u59, u60, u61, u62, u63, u64, u65, u66, u67, u68, u69, u70, u71, u72, u73, u74, u75], defers := [] } w := by
  have HX := Lib.hid hx; clear hx
  have HA := Lib.hid ha; clear ha
  have HB : Hid ((la.add (k * 12)).block < w0.heap.size) := by rw [zadd_block]; exact hla
  clear hla
  have HR := Lib.hid hR; clear hR
  have HK := Lib.hid hK; clear hK
  have HP := Lib.hid hP; clear hP
  change Code.wp Tryz.prog (Code.region 11 _ true) _ _ _

  refine held_start (S := Held w0 [(z, [.slice A t.s.length n, .slice B t.c.length m, .int .i64 t.f, .bool t.x, .int .i64 t.b.n, .int .u64 t.b.c, .int .u64 t.b.b, .int .u64 t.b.o, .int .u64 t.b.p, .bool t.b.i, .bool t.b.r, .bool t.b.d, .int .u32 t.m])] []) (by kernel_rfl) HX.out.drew (fun v0 hv0 hH0 => ?_)
  have HW := Lib.hid hv0
  clear hv0
  refine wpAnyH_take (i := 0) (v := ?_) rfl (by kernel_rfl) (by kernel_rfl) (by kernel_rfl) (fun _ _ _ h => HP.out _ _ _ _ _ h) (Or.inl ⟨by rfl, ?_⟩) hH0 ?_
  rotate_left
  · (intro v hSw; have k0 := hSw.b0.cell; go_simp; try with_reducible rfl)
  simp only [Act.put, List.setIfInBounds_toArray, List.set_cons_zero, List.set_cons_succ, List.getElem_toArray, List.getElem_cons_zero]
  refine wpAnyH_take (i := 1) (v := ?_) rfl (by kernel_rfl) (by kernel_rfl) (by kernel_rfl) (fun _ _ _ h => HP.out _ _ _ _ _ h) (Or.inl ⟨by rfl, ?_⟩) hH0 ?_
  rotate_left
  · (intro v hSw; go_simp; try with_reducible rfl)
  simp only [Act.put, List.setIfInBounds_toArray, List.set_cons_zero, List.set_cons_succ, List.getElem_toArray, List.getElem_cons_zero, List.getElem_cons_succ]
  refine wpAnyH_take (i := 2) (v := ?_) rfl (by kernel_rfl) (by kernel_rfl) (by kernel_rfl) (fun _ _ _ h => HP.out _ _ _ _ _ h) (Or.inl ⟨by rfl, ?_⟩) hH0 ?_
  rotate_left
  · (intro v hSw; go_simp; try with_reducible rfl)
  simp only [Act.put, List.setIfInBounds_toArray, List.set_cons_zero, List.set_cons_succ, List.getElem_toArray, List.getElem_cons_zero, List.getElem_cons_succ]
  refine wpAnyH_take (i := 3) (v := ?_) rfl (by kernel_rfl) (by kernel_rfl) (by kernel_rfl) (fun _ _ _ h => HP.out _ _ _ _ _ h) (Or.inl ⟨by rfl, ?_⟩) hH0 ?_
  rotate_left
  · (intro v hSw; go_simp; try with_reducible rfl)
  simp only [Act.put, List.setIfInBounds_toArray, List.set_cons_zero, List.set_cons_succ, List.getElem_toArray, List.getElem_cons_zero, List.getElem_cons_succ]
  refine wpAnyH_take (i := 4) (v := ?_) rfl (by kernel_rfl) (by kernel_rfl) (by kernel_rfl) (fun _ _ _ h => HP.out _ _ _ _ _ h) (Or.inl ⟨by rfl, ?_⟩) hH0 ?_
  rotate_left
  · (intro v hSw; have ca := HA.out.up HB.out hSw.below; have c0 := ca.c0; have c1 := ca.c1; have c2 := ca.c2; have c3 := ca.c3; have c4 := ca.c4; have c5 := ca.c5; have c6 := ca.c6; have c7 := ca.c7; have c8 := ca.c8; have c9 := ca.c9; have c10 := ca.c10; have c11 := ca.c11; go_simp; try with_reducible rfl)
  simp only [Act.put, List.setIfInBounds_toArray, List.set_cons_zero, List.set_cons_succ, List.getElem_toArray, List.getElem_cons_zero, List.getElem_cons_succ]
  refine wpAnyH_ready (rs := [5, 10]) (by kernel_rfl) (by simp) ?_
  refine AllReadyH.cons rfl (fun K1 hK => ?_) ?_
  · go_simp
    refine (HR.out v0 HW.out).mono ?_
    rintro e v1 ⟨A1, n1, B1, m1, rfl, hm1, hb⟩
    have HM1 := Lib.hid hm1
    try replace XB := Lib.hid (XB.out.below hb)
    try replace HO := Lib.hid (HO.out.up hb)
    replace HW := Lib.hid (ext HW.out hb)
    go_wp2_with fail
    refine hK.out _ _ (hH0.up hb) (fun hH1 => ?_)
    clear hK K1 hH0 hb hm1
    refine wpAnyH_take (i := 6) (v := ?_) rfl (by kernel_rfl) (by kernel_rfl) (by kernel_rfl) (fun _ _ _ h => HP.out _ _ _ _ _ h) (Or.inl ⟨by rfl, ?_⟩) hH1 ?_
    rotate_left
    · (intro v hSw; go_simp; try with_reducible rfl)
    simp only [Act.put, List.setIfInBounds_toArray, List.set_cons_zero, List.set_cons_succ, List.getElem_toArray, List.getElem_cons_zero, List.getElem_cons_succ]
    refine wpAnyH_take (i := 7) (v := ?_) rfl (by kernel_rfl) (by kernel_rfl) (by kernel_rfl) (fun _ _ _ h => HP.out _ _ _ _ _ h) (Or.inl ⟨by rfl, ?_⟩) hH1 ?_
    rotate_left
    · (intro v hSw; go_simp; try with_reducible rfl)
    simp only [Act.put, List.setIfInBounds_toArray, List.set_cons_zero, List.set_cons_succ, List.getElem_toArray, List.getElem_cons_zero, List.getElem_cons_succ]
    refine wpAnyH_take (i := 8) (v := ?_) rfl (by kernel_rfl) (by kernel_rfl) (by kernel_rfl) (fun _ _ _ h => HP.out _ _ _ _ _ h) (Or.inl ⟨by rfl, ?_⟩) hH1 ?_
    rotate_left
    · (intro v hSw; go_simp; try with_reducible rfl)
    simp only [Act.put, List.setIfInBounds_toArray, List.set_cons_zero, List.set_cons_succ, List.getElem_toArray, List.getElem_cons_zero, List.getElem_cons_succ]
    refine wpAnyH_take (i := 9) (v := ?_) rfl (by kernel_rfl) (by kernel_rfl) (by kernel_rfl) (fun _ _ _ h => HP.out _ _ _ _ _ h) (Or.inl ⟨by rfl, ?_⟩) hH1 ?_
    rotate_left
    · (intro v hSw; go_simp; try with_reducible rfl)
    simp only [Act.put, List.setIfInBounds_toArray, List.set_cons_zero, List.set_cons_succ, List.getElem_toArray, List.getElem_cons_zero, List.getElem_cons_succ]
    refine wpAnyH_ready (rs := [10]) (by kernel_rfl) (by simp) ?_
    refine AllReadyH.cons rfl (fun K1 hK => ?_) AllReadyH.nil
    go_simp
    refine hK.out _ _ (hH1.alloc _) (fun hH2 => ?_)
    have HO := Lib.hid (hH1.own [.slice none 0 0, .slice none 0 0, .int .i64 0, .bool false, .int .i64 0, .int .u64 0, .int .u64 0, .int .u64 0, .int .u64 0, .bool false, .bool false, .bool false, .int .u32 0] 34 (n := 13) rfl)
    have HZ9 : Hid (w.heap.size ≤ v1.heap.size) := HW.out.size
    have XB := Lib.hid (Box.new v1 [.slice none 0 0, .slice none 0 0, .int .i64 0, .bool false, .int .i64 0, .int .u64 0, .int .u64 0, .int .u64 0, .int .u64 0, .bool false, .bool false, .bool false, .int .u32 0] 34)
    have hb : Below v1.heap.size v1 (v1.alloc (.cells ([.slice none 0 0, .slice none 0 0, .int .i64 0, .bool false, .int .i64 0, .int .u64 0, .int .u64 0, .int .u64 0, .int .u64 0, .bool false, .bool false, .bool false, .int .u32 0] : List Value).toArray 34)) := below1
    try replace HM1 := Lib.hid (HM1.out.up hb)
    replace HW := Lib.hid (ext HW.out hb)
    generalize v1.alloc (.cells #[.slice none 0 0, .slice none 0 0, .int .i64 0, .bool false, .int .i64 0, .int .u64 0, .int .u64 0, .int .u64 0, .int .u64 0, .bool false, .bool false, .bool false, .int .u32 0] 34) = v2 at *
    generalize hz : v1.heap.size = z9 at *
    clear hz hb hK K1 hH1
    refine wpAnyH_ready (rs := [11]) (by kernel_rfl) (by simp) ?_
    refine AllReadyH.cons rfl (fun K1 hK => ?_) AllReadyH.nil
    have kx := XB.out.cell
    have fx := XB.out.frozen
    have HS2 := HO.out.setL (b := z9) ⟨13, by simp⟩ [.slice A1 t1.s.length n1, .slice B1 t1.c.length m1, .int .i64 t1.f, .bool t1.x, .int .i64 t1.b.n, .int .u64 t1.b.c, .int .u64 t1.b.b, .int .u64 t1.b.o, .int .u64 t1.b.p, .bool t1.b.i, .bool t1.b.r, .bool t1.b.d, .int .u32 t1.m] 0
    go_simp
    refine hK.out _ _ HS2.done (fun hH3 => ?_)
    replace HM1 := Lib.hid (HM1.out.setL [.slice A1 t1.s.length n1, .slice B1 t1.c.length m1, .int .i64 t1.f, .bool t1.x, .int .i64 t1.b.n, .int .u64 t1.b.c, .int .u64 t1.b.b, .int .u64 t1.b.o, .int .u64 t1.b.p, .bool t1.b.i, .bool t1.b.r, .bool t1.b.d, .int .u32 t1.m] 0 XB.out (noText_st 0 0 0 false Sup.zero 0 none 0 none 0) (noText_st t1.s.length t1.c.length t1.f t1.x t1.b t1.m A1 n1 B1 m1))
    replace XB := Lib.hid (show Box _ z9 [.slice A1 t1.s.length n1, .slice B1 t1.c.length m1, .int .i64 t1.f, .bool t1.x, .int .i64 t1.b.n, .int .u64 t1.b.c, .int .u64 t1.b.b, .int .u64 t1.b.o, .int .u64 t1.b.p, .bool t1.b.i, .bool t1.b.r, .bool t1.b.d, .int .u32 t1.m] from XB.out.setL [.slice A1 t1.s.length n1, .slice B1 t1.c.length m1, .int .i64 t1.f, .bool t1.x, .int .i64 t1.b.n, .int .u64 t1.b.c, .int .u64 t1.b.b, .int .u64 t1.b.o, .int .u64 t1.b.p, .bool t1.b.i, .bool t1.b.r, .bool t1.b.d, .int .u32 t1.m] 0)
    replace HW := Lib.hid (Below.setL (b := z9) (HZ9.out) [.slice A1 t1.s.length n1, .slice B1 t1.c.length m1, .int .i64 t1.f, .bool t1.x, .int .i64 t1.b.n, .int .u64 t1.b.c, .int .u64 t1.b.b, .int .u64 t1.b.o, .int .u64 t1.b.p, .bool t1.b.i, .bool t1.b.r, .bool t1.b.d, .int .u32 t1.m] 0 HW.out)
    clear kx fx HS2 HO
    generalize hW : setL v2 z9 0 [.slice A1 t1.s.length n1, .slice B1 t1.c.length m1, .int .i64 t1.f, .bool t1.x, .int .i64 t1.b.n, .int .u64 t1.b.c, .int .u64 t1.b.b, .int .u64 t1.b.o, .int .u64 t1.b.p, .bool t1.b.i, .bool t1.b.r, .bool t1.b.d, .int .u32 t1.m] = v3 at *
    simp only [setL, Nat.zero_add, Nat.reduceAdd] at hW
    simp only [hW] at hH3 ⊢
    clear hW hK K1 hH2
    refine wpAnyH_take (i := 12) (v := ?_) rfl (by kernel_rfl) (by kernel_rfl) (by kernel_rfl) (fun _ _ _ h => HP.out _ _ _ _ _ h) (Or.inl ⟨by rfl, ?_⟩) hH3 ?_
    rotate_left
    · (intro v hSw; go_simp; try with_reducible rfl)
    simp only [Act.put, List.setIfInBounds_toArray, List.set_cons_zero, List.set_cons_succ, List.getElem_toArray, List.getElem_cons_zero, List.getElem_cons_succ]
    refine wpAnyH_take (i := 13) (v := ?_) rfl (by kernel_rfl) (by kernel_rfl) (by kernel_rfl) (fun _ _ _ h => HP.out _ _ _ _ _ h) (Or.inl ⟨by rfl, ?_⟩) hH3 ?_
    rotate_left
    · (intro v hSw; go_simp; try with_reducible rfl)
    simp only [Act.put, List.setIfInBounds_toArray, List.set_cons_zero, List.set_cons_succ, List.getElem_toArray, List.getElem_cons_zero, List.getElem_cons_succ]
    refine wpAnyH_done (by kernel_rfl) ?_ _
    have H9 := Lib.hid hH3
    refine HK.out A1 n1 B1 m1 z9 _ (.tuple #[.agg #[.slice A1 t1.s.length n1, .slice B1 t1.c.length m1, .int .i64 t1.f, .bool t1.x, .int .i64 t1.b.n, .int .u64 t1.b.c, .int .u64 t1.b.b, .int .u64 t1.b.o, .int .u64 t1.b.p, .bool t1.b.i, .bool t1.b.r, .bool t1.b.d, .int .u32 t1.m], .string d1, .int .i64 e1]) (.agg #[.slice A t.s.length n, .slice B t.c.length m, .int .i64 t.f, .bool t.x, .int .i64 t.b.n, .int .u64 t.b.c, .int .u64 t.b.b, .int .u64 t.b.o, .int .u64 t.b.p, .bool t.b.i, .bool t.b.r, .bool t.b.d, .int .u32 t.m]) (.slice (some la) l.length lc) (.int .i64 (k : Int)) (.pointer (some (la.add (k * 12)))) (.agg #[.int .i64 a.k, .int .i64 a.i, .int .u32 a.m, .string a.d, .int .i64 a.b.n, .int .u64 a.b.c, .int .u64 a.b.b, .int .u64 a.b.o, .int .u64 a.b.p, .bool a.b.i, .bool a.b.r, .bool a.b.d]) (.tuple #[.agg #[.slice A1 t1.s.length n1, .slice B1 t1.c.length m1, .int .i64 t1.f, .bool t1.x, .int .i64 t1.b.n, .int .u64 t1.b.c, .int .u64 t1.b.b, .int .u64 t1.b.o, .int .u64 t1.b.p, .bool t1.b.i, .bool t1.b.r, .bool t1.b.d, .int .u32 t1.m], .string d1, .int .i64 e1]) (.agg #[.slice A1 t1.s.length n1, .slice B1 t1.c.length m1, .int .i64 t1.f, .bool t1.x, .int .i64 t1.b.n, .int .u64 t1.b.c, .int .u64 t1.b.b, .int .u64 t1.b.o, .int .u64 t1.b.p, .bool t1.b.i, .bool t1.b.r, .bool t1.b.d, .int .u32 t1.m]) (.string d1) (.int .i64 e1) H9.out HM1.out XB.out HW.out
  refine AllReadyH.cons rfl (fun K1 hK => ?_) AllReadyH.nil
  go_simp
  refine hK.out _ _ (hH0.alloc _) (fun hH4 => ?_)
  have HO := Lib.hid (hH0.own [.slice none 0 0, .slice none 0 0, .int .i64 0, .bool false, .int .i64 0, .int .u64 0, .int .u64 0, .int .u64 0, .int .u64 0, .bool false, .bool false, .bool false, .int .u32 0] 34 (n := 13) rfl)
  have HZ9 : Hid (w.heap.size ≤ v0.heap.size) := HW.out.size
  have XB := Lib.hid (Box.new v0 [.slice none 0 0, .slice none 0 0, .int .i64 0, .bool false, .int .i64 0, .int .u64 0, .int .u64 0, .int .u64 0, .int .u64 0, .bool false, .bool false, .bool false, .int .u32 0] 34)
  have hb : Below v0.heap.size v0 (v0.alloc (.cells ([.slice none 0 0, .slice none 0 0, .int .i64 0, .bool false, .int .i64 0, .int .u64 0, .int .u64 0, .int .u64 0, .int .u64 0, .bool false, .bool false, .bool false, .int .u32 0] : List Value).toArray 34)) := below1
  try replace HM1 := Lib.hid (HM1.out.up hb)
  replace HW := Lib.hid (ext HW.out hb)
  generalize v0.alloc (.cells #[.slice none 0 0, .slice none 0 0, .int .i64 0, .bool false, .int .i64 0, .int .u64 0, .int .u64 0, .int .u64 0, .int .u64 0, .bool false, .bool false, .bool false, .int .u32 0] 34) = v4 at *
  generalize hz : v0.heap.size = z9 at *
  clear hz hb hK K1 hH0
  refine wpAnyH_ready (rs := [5]) (by kernel_rfl) (by simp) ?_
  refine AllReadyH.cons rfl (fun K1 hK => ?_) AllReadyH.nil
  go_simp
  refine (HR.out v4 HW.out).mono ?_
  rintro e v5 ⟨A1, n1, B1, m1, rfl, hm1, hb⟩
  have HM1 := Lib.hid hm1
  try replace XB := Lib.hid (XB.out.below hb)
  try replace HO := Lib.hid (HO.out.up hb)
  replace HW := Lib.hid (ext HW.out hb)
  go_wp2_with fail
  refine hK.out _ _ (hH4.up hb) (fun hH5 => ?_)
  clear hK K1 hH4 hb hm1
  refine wpAnyH_take (i := 6) (v := ?_) rfl (by kernel_rfl) (by kernel_rfl) (by kernel_rfl) (fun _ _ _ h => HP.out _ _ _ _ _ h) (Or.inl ⟨by rfl, ?_⟩) hH5 ?_
  rotate_left
  · (intro v hSw; go_simp; try with_reducible rfl)
  simp only [Act.put, List.setIfInBounds_toArray, List.set_cons_zero, List.set_cons_succ, List.getElem_toArray, List.getElem_cons_zero, List.getElem_cons_succ]
  refine wpAnyH_take (i := 7) (v := ?_) rfl (by kernel_rfl) (by kernel_rfl) (by kernel_rfl) (fun _ _ _ h => HP.out _ _ _ _ _ h) (Or.inl ⟨by rfl, ?_⟩) hH5 ?_
  rotate_left
  · (intro v hSw; go_simp; try with_reducible rfl)
  simp only [Act.put, List.setIfInBounds_toArray, List.set_cons_zero, List.set_cons_succ, List.getElem_toArray, List.getElem_cons_zero, List.getElem_cons_succ]
  refine wpAnyH_take (i := 8) (v := ?_) rfl (by kernel_rfl) (by kernel_rfl) (by kernel_rfl) (fun _ _ _ h => HP.out _ _ _ _ _ h) (Or.inl ⟨by rfl, ?_⟩) hH5 ?_
  rotate_left
  · (intro v hSw; go_simp; try with_reducible rfl)
  simp only [Act.put, List.setIfInBounds_toArray, List.set_cons_zero, List.set_cons_succ, List.getElem_toArray, List.getElem_cons_zero, List.getElem_cons_succ]
  refine wpAnyH_take (i := 9) (v := ?_) rfl (by kernel_rfl) (by kernel_rfl) (by kernel_rfl) (fun _ _ _ h => HP.out _ _ _ _ _ h) (Or.inl ⟨by rfl, ?_⟩) hH5 ?_
  rotate_left
  · (intro v hSw; go_simp; try with_reducible rfl)
  simp only [Act.put, List.setIfInBounds_toArray, List.set_cons_zero, List.set_cons_succ, List.getElem_toArray, List.getElem_cons_zero, List.getElem_cons_succ]
  refine wpAnyH_ready (rs := [11]) (by kernel_rfl) (by simp) ?_
  refine AllReadyH.cons rfl (fun K1 hK => ?_) AllReadyH.nil
  have kx := XB.out.cell
  have fx := XB.out.frozen
  have HS2 := HO.out.setL (b := z9) ⟨13, by simp⟩ [.slice A1 t1.s.length n1, .slice B1 t1.c.length m1, .int .i64 t1.f, .bool t1.x, .int .i64 t1.b.n, .int .u64 t1.b.c, .int .u64 t1.b.b, .int .u64 t1.b.o, .int .u64 t1.b.p, .bool t1.b.i, .bool t1.b.r, .bool t1.b.d, .int .u32 t1.m] 0
  go_simp
  refine hK.out _ _ HS2.done (fun hH6 => ?_)
  replace HM1 := Lib.hid (HM1.out.setL [.slice A1 t1.s.length n1, .slice B1 t1.c.length m1, .int .i64 t1.f, .bool t1.x, .int .i64 t1.b.n, .int .u64 t1.b.c, .int .u64 t1.b.b, .int .u64 t1.b.o, .int .u64 t1.b.p, .bool t1.b.i, .bool t1.b.r, .bool t1.b.d, .int .u32 t1.m] 0 XB.out (noText_st 0 0 0 false Sup.zero 0 none 0 none 0) (noText_st t1.s.length t1.c.length t1.f t1.x t1.b t1.m A1 n1 B1 m1))
  replace XB := Lib.hid (show Box _ z9 [.slice A1 t1.s.length n1, .slice B1 t1.c.length m1, .int .i64 t1.f, .bool t1.x, .int .i64 t1.b.n, .int .u64 t1.b.c, .int .u64 t1.b.b, .int .u64 t1.b.o, .int .u64 t1.b.p, .bool t1.b.i, .bool t1.b.r, .bool t1.b.d, .int .u32 t1.m] from XB.out.setL [.slice A1 t1.s.length n1, .slice B1 t1.c.length m1, .int .i64 t1.f, .bool t1.x, .int .i64 t1.b.n, .int .u64 t1.b.c, .int .u64 t1.b.b, .int .u64 t1.b.o, .int .u64 t1.b.p, .bool t1.b.i, .bool t1.b.r, .bool t1.b.d, .int .u32 t1.m] 0)
  replace HW := Lib.hid (Below.setL (b := z9) (HZ9.out) [.slice A1 t1.s.length n1, .slice B1 t1.c.length m1, .int .i64 t1.f, .bool t1.x, .int .i64 t1.b.n, .int .u64 t1.b.c, .int .u64 t1.b.b, .int .u64 t1.b.o, .int .u64 t1.b.p, .bool t1.b.i, .bool t1.b.r, .bool t1.b.d, .int .u32 t1.m] 0 HW.out)
  clear kx fx HS2 HO
  generalize hW : setL v5 z9 0 [.slice A1 t1.s.length n1, .slice B1 t1.c.length m1, .int .i64 t1.f, .bool t1.x, .int .i64 t1.b.n, .int .u64 t1.b.c, .int .u64 t1.b.b, .int .u64 t1.b.o, .int .u64 t1.b.p, .bool t1.b.i, .bool t1.b.r, .bool t1.b.d, .int .u32 t1.m] = v6 at *
  simp only [setL, Nat.zero_add, Nat.reduceAdd] at hW
  simp only [hW] at hH6 ⊢
  clear hW hK K1 hH5
  refine wpAnyH_take (i := 12) (v := ?_) rfl (by kernel_rfl) (by kernel_rfl) (by kernel_rfl) (fun _ _ _ h => HP.out _ _ _ _ _ h) (Or.inl ⟨by rfl, ?_⟩) hH6 ?_
  rotate_left
  · (intro v hSw; go_simp; try with_reducible rfl)
  simp only [Act.put, List.setIfInBounds_toArray, List.set_cons_zero, List.set_cons_succ, List.getElem_toArray, List.getElem_cons_zero, List.getElem_cons_succ]
  refine wpAnyH_take (i := 13) (v := ?_) rfl (by kernel_rfl) (by kernel_rfl) (by kernel_rfl) (fun _ _ _ h => HP.out _ _ _ _ _ h) (Or.inl ⟨by rfl, ?_⟩) hH6 ?_
  rotate_left
  · (intro v hSw; go_simp; try with_reducible rfl)
  simp only [Act.put, List.setIfInBounds_toArray, List.set_cons_zero, List.set_cons_succ, List.getElem_toArray, List.getElem_cons_zero, List.getElem_cons_succ]
  refine wpAnyH_done (by kernel_rfl) ?_ _
  have H9 := Lib.hid hH6
  refine HK.out A1 n1 B1 m1 z9 _ (.tuple #[.agg #[.slice A1 t1.s.length n1, .slice B1 t1.c.length m1, .int .i64 t1.f, .bool t1.x, .int .i64 t1.b.n, .int .u64 t1.b.c, .int .u64 t1.b.b, .int .u64 t1.b.o, .int .u64 t1.b.p, .bool t1.b.i, .bool t1.b.r, .bool t1.b.d, .int .u32 t1.m], .string d1, .int .i64 e1]) (.agg #[.slice A t.s.length n, .slice B t.c.length m, .int .i64 t.f, .bool t.x, .int .i64 t.b.n, .int .u64 t.b.c, .int .u64 t.b.b, .int .u64 t.b.o, .int .u64 t.b.p, .bool t.b.i, .bool t.b.r, .bool t.b.d, .int .u32 t.m]) (.slice (some la) l.length lc) (.int .i64 (k : Int)) (.pointer (some (la.add (k * 12)))) (.agg #[.int .i64 a.k, .int .i64 a.i, .int .u32 a.m, .string a.d, .int .i64 a.b.n, .int .u64 a.b.c, .int .u64 a.b.b, .int .u64 a.b.o, .int .u64 a.b.p, .bool a.b.i, .bool a.b.r, .bool a.b.d]) (.tuple #[.agg #[.slice A1 t1.s.length n1, .slice B1 t1.c.length m1, .int .i64 t1.f, .bool t1.x, .int .i64 t1.b.n, .int .u64 t1.b.c, .int .u64 t1.b.b, .int .u64 t1.b.o, .int .u64 t1.b.p, .bool t1.b.i, .bool t1.b.r, .bool t1.b.d, .int .u32 t1.m], .string d1, .int .i64 e1]) (.agg #[.slice A1 t1.s.length n1, .slice B1 t1.c.length m1, .int .i64 t1.f, .bool t1.x, .int .i64 t1.b.n, .int .u64 t1.b.c, .int .u64 t1.b.b, .int .u64 t1.b.o, .int .u64 t1.b.p, .bool t1.b.i, .bool t1.b.r, .bool t1.b.d, .int .u32 t1.m]) (.string d1) (.int .i64 e1) H9.out HM1.out XB.out HW.out

set_option maxRecDepth 100000 in
set_option maxHeartbeats 8000000 in
theorem rw10 {K : Go.Act → World → Prop} {Q : Exit → Go.Act → World → Prop} (w0 w : World) (z : Nat) (t t1 : Sto) (e1 : Int) (d1 : ByteArray) (A B : Option Addr) (n m : Nat) (la : Addr) (lc : Nat) (l : List Act) (k : Nat) (hlt : k < l.length) (a : Act) (u0 u2 u3 u4 u5 u6 u9 u10 u11 u12 u13 u14 u15 u16 u17 u18 u19 u20 u21 u22 u23 u24 u25 u26 u27 u28 u29 u30 u31 u32 u33 u34 u35 u36 u37 u38 u39 u40 u41 u42 u43 u44 u45 u46 u47 u48 u49 u50 u51 u52 u53 u54 u55 u56 u57 u58 u59 u60 u61 u62 u63 u64 u65 u66 u67 u68 u69 u70 u71 u72 u73 u74 u75 u76 u77 u78 u79 u80 u81 u82 u83 u84 : Value)
    (hx : Held w0 [(z, [.slice A t.s.length n, .slice B t.c.length m, .int .i64 t.f, .bool t.x, .int .i64 t.b.n, .int .u64 t.b.c, .int .u64 t.b.b, .int .u64 t.b.o, .int .u64 t.b.p, .bool t.b.i, .bool t.b.r, .bool t.b.d, .int .u32 t.m])] [] w) (ha : ActAt w0 (la.add (k * 12)) a) (hla : la.block < w0.heap.size) (hP : ∀ c (a : Go.Act) d v w, Q (.panic c) (a.put d v) w → Q (.panic c) a w)
    (hR : ∀ v, Below w.heap.size w v → Calls Tryz.prog 17 #[.agg #[.slice A t.s.length n, .slice B t.c.length m, .int .i64 t.f, .bool t.x, .int .i64 t.b.n, .int .u64 t.b.c, .int .u64 t.b.b, .int .u64 t.b.o, .int .u64 t.b.p, .bool t.b.i, .bool t.b.r, .bool t.b.d, .int .u32 t.m], .agg #[.int .i64 a.k, .int .i64 a.i, .int .u32 a.m, .string a.d, .int .i64 a.b.n, .int .u64 a.b.c, .int .u64 a.b.b, .int .u64 a.b.o, .int .u64 a.b.p, .bool a.b.i, .bool a.b.r, .bool a.b.d]] v (GivesP ((t1, e1), d1) v))
    (hK : ∀ A1 n1 B1 m1 z9 w2 v42 v43 v44 v45 v46 v47 v48 v49 v50 v51, Held w0 [(z, [.slice A t.s.length n, .slice B t.c.length m, .int .i64 t.f, .bool t.x, .int .i64 t.b.n, .int .u64 t.b.c, .int .u64 t.b.b, .int .u64 t.b.o, .int .u64 t.b.p, .bool t.b.i, .bool t.b.r, .bool t.b.d, .int .u32 t.m])] [] w2 → Mem w2 A1 n1 B1 m1 t1.s t1.c → Box w2 z9 [.slice A1 t1.s.length n1, .slice B1 t1.c.length m1, .int .i64 t1.f, .bool t1.x, .int .i64 t1.b.n, .int .u64 t1.b.c, .int .u64 t1.b.b, .int .u64 t1.b.o, .int .u64 t1.b.p, .bool t1.b.i, .bool t1.b.r, .bool t1.b.d, .int .u32 t1.m] → Below w.heap.size w w2 → K { tmps := #[u0, .slice (some la) l.length lc, u2, u3, u4, u5, u6, .pointer (some ⟨z, 0, none⟩), .int .i64 (k : Int), .pointer (some ⟨z9, 0, none⟩), .string d1, .int .i64 e1, u12, u13, u14, u15, u16, u17, u18, u19, u20, u21, u22, u23, u24, u25, u26, u27, u28, u29, u30, u31, u32, u33, u34, u35, u36, u37, u38, u39, u40, u41, v42, v43, v44, v45, v46, v47, v48, v49, v50, v51, u52, u53, u54, u55, u56, u57, u58, u59, u60, u61, u62, u63, u64, u65, u66, u67, u68, u69, u70, u71, u72, u73, u74, u75, u76, u77, u78, u79, u80, u81, u82, u83, u84], defers := [] } w2) :
    (regOf 10 Tryz.f5).wp Tryz.prog (Exit.then K Q) { tmps := #[u0, .slice (some la) l.length lc, u2, u3, u4, u5, u6, .pointer (some ⟨z, 0, none⟩), .int .i64 (k : Int), u9, u10, u11, u12, u13, u14, u15, u16, u17, u18, u19, u20, u21, u22, u23, u24, u25, u26, u27, u28, u29, u30, u31, u32, u33, u34, u35, u36, u37, u38, u39, u40, u41, u42, u43, u44, u45, u46, u47, u48, u49, u50, u51, u52, u53, u54, u55, u56, u57, u58, u59, u60, u61, u62, u63, u64, u65, u66, u67, u68, u69, u70, u71, u72, u73, u74, u75, u76, u77, u78, u79, u80, u81, u82, u83, u84], defers := [] } w := by
  have HX := Lib.hid hx; clear hx
  have HA := Lib.hid ha; clear ha
  have HB : Hid ((la.add (k * 12)).block < w0.heap.size) := by rw [zadd_block]; exact hla
  clear hla
  have HR := Lib.hid hR; clear hR
  have HK := Lib.hid hK; clear hK
  have HP := Lib.hid hP; clear hP
  change Code.wp Tryz.prog (Code.region 10 _ true) _ _ _

  refine held_start (S := Held w0 [(z, [.slice A t.s.length n, .slice B t.c.length m, .int .i64 t.f, .bool t.x, .int .i64 t.b.n, .int .u64 t.b.c, .int .u64 t.b.b, .int .u64 t.b.o, .int .u64 t.b.p, .bool t.b.i, .bool t.b.r, .bool t.b.d, .int .u32 t.m])] []) (by kernel_rfl) HX.out.drew (fun v0 hv0 hH0 => ?_)
  have HW := Lib.hid hv0
  clear hv0
  refine wpAnyH_take (i := 0) (v := ?_) rfl (by kernel_rfl) (by kernel_rfl) (by kernel_rfl) (fun _ _ _ h => HP.out _ _ _ _ _ h) (Or.inl ⟨by rfl, ?_⟩) hH0 ?_
  rotate_left
  · (intro v hSw; have k0 := hSw.b0.cell; go_simp; try with_reducible rfl)
  simp only [Act.put, List.setIfInBounds_toArray, List.set_cons_zero, List.set_cons_succ, List.getElem_toArray, List.getElem_cons_zero]
  refine wpAnyH_take (i := 1) (v := ?_) rfl (by kernel_rfl) (by kernel_rfl) (by kernel_rfl) (fun _ _ _ h => HP.out _ _ _ _ _ h) (Or.inl ⟨by rfl, ?_⟩) hH0 ?_
  rotate_left
  · (intro v hSw; go_simp; try with_reducible rfl)
  simp only [Act.put, List.setIfInBounds_toArray, List.set_cons_zero, List.set_cons_succ, List.getElem_toArray, List.getElem_cons_zero, List.getElem_cons_succ]
  refine wpAnyH_take (i := 2) (v := ?_) rfl (by kernel_rfl) (by kernel_rfl) (by kernel_rfl) (fun _ _ _ h => HP.out _ _ _ _ _ h) (Or.inl ⟨by rfl, ?_⟩) hH0 ?_
  rotate_left
  · (intro v hSw; go_simp; try with_reducible rfl)
  simp only [Act.put, List.setIfInBounds_toArray, List.set_cons_zero, List.set_cons_succ, List.getElem_toArray, List.getElem_cons_zero, List.getElem_cons_succ]
  refine wpAnyH_take (i := 3) (v := ?_) rfl (by kernel_rfl) (by kernel_rfl) (by kernel_rfl) (fun _ _ _ h => HP.out _ _ _ _ _ h) (Or.inl ⟨by rfl, ?_⟩) hH0 ?_
  rotate_left
  · (intro v hSw; go_simp; try with_reducible rfl)
  simp only [Act.put, List.setIfInBounds_toArray, List.set_cons_zero, List.set_cons_succ, List.getElem_toArray, List.getElem_cons_zero, List.getElem_cons_succ]
  refine wpAnyH_take (i := 4) (v := ?_) rfl (by kernel_rfl) (by kernel_rfl) (by kernel_rfl) (fun _ _ _ h => HP.out _ _ _ _ _ h) (Or.inl ⟨by rfl, ?_⟩) hH0 ?_
  rotate_left
  · (intro v hSw; have ca := HA.out.up HB.out hSw.below; have c0 := ca.c0; have c1 := ca.c1; have c2 := ca.c2; have c3 := ca.c3; have c4 := ca.c4; have c5 := ca.c5; have c6 := ca.c6; have c7 := ca.c7; have c8 := ca.c8; have c9 := ca.c9; have c10 := ca.c10; have c11 := ca.c11; go_simp; try with_reducible rfl)
  simp only [Act.put, List.setIfInBounds_toArray, List.set_cons_zero, List.set_cons_succ, List.getElem_toArray, List.getElem_cons_zero, List.getElem_cons_succ]
  refine wpAnyH_ready (rs := [5, 10]) (by kernel_rfl) (by simp) ?_
  refine AllReadyH.cons rfl (fun K1 hK => ?_) ?_
  · go_simp
    refine (HR.out v0 HW.out).mono ?_
    rintro e v1 ⟨A1, n1, B1, m1, rfl, hm1, hb⟩
    have HM1 := Lib.hid hm1
    try replace XB := Lib.hid (XB.out.below hb)
    try replace HO := Lib.hid (HO.out.up hb)
    replace HW := Lib.hid (ext HW.out hb)
    go_wp2_with fail
    refine hK.out _ _ (hH0.up hb) (fun hH1 => ?_)
    clear hK K1 hH0 hb hm1
    refine wpAnyH_take (i := 6) (v := ?_) rfl (by kernel_rfl) (by kernel_rfl) (by kernel_rfl) (fun _ _ _ h => HP.out _ _ _ _ _ h) (Or.inl ⟨by rfl, ?_⟩) hH1 ?_
    rotate_left
    · (intro v hSw; go_simp; try with_reducible rfl)
    simp only [Act.put, List.setIfInBounds_toArray, List.set_cons_zero, List.set_cons_succ, List.getElem_toArray, List.getElem_cons_zero, List.getElem_cons_succ]
    refine wpAnyH_take (i := 7) (v := ?_) rfl (by kernel_rfl) (by kernel_rfl) (by kernel_rfl) (fun _ _ _ h => HP.out _ _ _ _ _ h) (Or.inl ⟨by rfl, ?_⟩) hH1 ?_
    rotate_left
    · (intro v hSw; go_simp; try with_reducible rfl)
    simp only [Act.put, List.setIfInBounds_toArray, List.set_cons_zero, List.set_cons_succ, List.getElem_toArray, List.getElem_cons_zero, List.getElem_cons_succ]
    refine wpAnyH_take (i := 8) (v := ?_) rfl (by kernel_rfl) (by kernel_rfl) (by kernel_rfl) (fun _ _ _ h => HP.out _ _ _ _ _ h) (Or.inl ⟨by rfl, ?_⟩) hH1 ?_
    rotate_left
    · (intro v hSw; go_simp; try with_reducible rfl)
    simp only [Act.put, List.setIfInBounds_toArray, List.set_cons_zero, List.set_cons_succ, List.getElem_toArray, List.getElem_cons_zero, List.getElem_cons_succ]
    refine wpAnyH_take (i := 9) (v := ?_) rfl (by kernel_rfl) (by kernel_rfl) (by kernel_rfl) (fun _ _ _ h => HP.out _ _ _ _ _ h) (Or.inl ⟨by rfl, ?_⟩) hH1 ?_
    rotate_left
    · (intro v hSw; go_simp; try with_reducible rfl)
    simp only [Act.put, List.setIfInBounds_toArray, List.set_cons_zero, List.set_cons_succ, List.getElem_toArray, List.getElem_cons_zero, List.getElem_cons_succ]
    refine wpAnyH_ready (rs := [10]) (by kernel_rfl) (by simp) ?_
    refine AllReadyH.cons rfl (fun K1 hK => ?_) AllReadyH.nil
    go_simp
    refine hK.out _ _ (hH1.alloc _) (fun hH2 => ?_)
    have HO := Lib.hid (hH1.own [.slice none 0 0, .slice none 0 0, .int .i64 0, .bool false, .int .i64 0, .int .u64 0, .int .u64 0, .int .u64 0, .int .u64 0, .bool false, .bool false, .bool false, .int .u32 0] 34 (n := 13) rfl)
    have HZ9 : Hid (w.heap.size ≤ v1.heap.size) := HW.out.size
    have XB := Lib.hid (Box.new v1 [.slice none 0 0, .slice none 0 0, .int .i64 0, .bool false, .int .i64 0, .int .u64 0, .int .u64 0, .int .u64 0, .int .u64 0, .bool false, .bool false, .bool false, .int .u32 0] 34)
    have hb : Below v1.heap.size v1 (v1.alloc (.cells ([.slice none 0 0, .slice none 0 0, .int .i64 0, .bool false, .int .i64 0, .int .u64 0, .int .u64 0, .int .u64 0, .int .u64 0, .bool false, .bool false, .bool false, .int .u32 0] : List Value).toArray 34)) := below1
    try replace HM1 := Lib.hid (HM1.out.up hb)
    replace HW := Lib.hid (ext HW.out hb)
    generalize v1.alloc (.cells #[.slice none 0 0, .slice none 0 0, .int .i64 0, .bool false, .int .i64 0, .int .u64 0, .int .u64 0, .int .u64 0, .int .u64 0, .bool false, .bool false, .bool false, .int .u32 0] 34) = v2 at *
    generalize hz : v1.heap.size = z9 at *
    clear hz hb hK K1 hH1
    refine wpAnyH_ready (rs := [11]) (by kernel_rfl) (by simp) ?_
    refine AllReadyH.cons rfl (fun K1 hK => ?_) AllReadyH.nil
    have kx := XB.out.cell
    have fx := XB.out.frozen
    have HS2 := HO.out.setL (b := z9) ⟨13, by simp⟩ [.slice A1 t1.s.length n1, .slice B1 t1.c.length m1, .int .i64 t1.f, .bool t1.x, .int .i64 t1.b.n, .int .u64 t1.b.c, .int .u64 t1.b.b, .int .u64 t1.b.o, .int .u64 t1.b.p, .bool t1.b.i, .bool t1.b.r, .bool t1.b.d, .int .u32 t1.m] 0
    go_simp
    refine hK.out _ _ HS2.done (fun hH3 => ?_)
    replace HM1 := Lib.hid (HM1.out.setL [.slice A1 t1.s.length n1, .slice B1 t1.c.length m1, .int .i64 t1.f, .bool t1.x, .int .i64 t1.b.n, .int .u64 t1.b.c, .int .u64 t1.b.b, .int .u64 t1.b.o, .int .u64 t1.b.p, .bool t1.b.i, .bool t1.b.r, .bool t1.b.d, .int .u32 t1.m] 0 XB.out (noText_st 0 0 0 false Sup.zero 0 none 0 none 0) (noText_st t1.s.length t1.c.length t1.f t1.x t1.b t1.m A1 n1 B1 m1))
    replace XB := Lib.hid (show Box _ z9 [.slice A1 t1.s.length n1, .slice B1 t1.c.length m1, .int .i64 t1.f, .bool t1.x, .int .i64 t1.b.n, .int .u64 t1.b.c, .int .u64 t1.b.b, .int .u64 t1.b.o, .int .u64 t1.b.p, .bool t1.b.i, .bool t1.b.r, .bool t1.b.d, .int .u32 t1.m] from XB.out.setL [.slice A1 t1.s.length n1, .slice B1 t1.c.length m1, .int .i64 t1.f, .bool t1.x, .int .i64 t1.b.n, .int .u64 t1.b.c, .int .u64 t1.b.b, .int .u64 t1.b.o, .int .u64 t1.b.p, .bool t1.b.i, .bool t1.b.r, .bool t1.b.d, .int .u32 t1.m] 0)
    replace HW := Lib.hid (Below.setL (b := z9) (HZ9.out) [.slice A1 t1.s.length n1, .slice B1 t1.c.length m1, .int .i64 t1.f, .bool t1.x, .int .i64 t1.b.n, .int .u64 t1.b.c, .int .u64 t1.b.b, .int .u64 t1.b.o, .int .u64 t1.b.p, .bool t1.b.i, .bool t1.b.r, .bool t1.b.d, .int .u32 t1.m] 0 HW.out)
    clear kx fx HS2 HO
    generalize hW : setL v2 z9 0 [.slice A1 t1.s.length n1, .slice B1 t1.c.length m1, .int .i64 t1.f, .bool t1.x, .int .i64 t1.b.n, .int .u64 t1.b.c, .int .u64 t1.b.b, .int .u64 t1.b.o, .int .u64 t1.b.p, .bool t1.b.i, .bool t1.b.r, .bool t1.b.d, .int .u32 t1.m] = v3 at *
    simp only [setL, Nat.zero_add, Nat.reduceAdd] at hW
    simp only [hW] at hH3 ⊢
    clear hW hK K1 hH2
    refine wpAnyH_take (i := 12) (v := ?_) rfl (by kernel_rfl) (by kernel_rfl) (by kernel_rfl) (fun _ _ _ h => HP.out _ _ _ _ _ h) (Or.inl ⟨by rfl, ?_⟩) hH3 ?_
    rotate_left
    · (intro v hSw; go_simp; try with_reducible rfl)
    simp only [Act.put, List.setIfInBounds_toArray, List.set_cons_zero, List.set_cons_succ, List.getElem_toArray, List.getElem_cons_zero, List.getElem_cons_succ]
    refine wpAnyH_take (i := 13) (v := ?_) rfl (by kernel_rfl) (by kernel_rfl) (by kernel_rfl) (fun _ _ _ h => HP.out _ _ _ _ _ h) (Or.inl ⟨by rfl, ?_⟩) hH3 ?_
    rotate_left
    · (intro v hSw; go_simp; try with_reducible rfl)
    simp only [Act.put, List.setIfInBounds_toArray, List.set_cons_zero, List.set_cons_succ, List.getElem_toArray, List.getElem_cons_zero, List.getElem_cons_succ]
    refine wpAnyH_done (by kernel_rfl) ?_ _
    have H9 := Lib.hid hH3
    refine HK.out A1 n1 B1 m1 z9 _ (.tuple #[.agg #[.slice A1 t1.s.length n1, .slice B1 t1.c.length m1, .int .i64 t1.f, .bool t1.x, .int .i64 t1.b.n, .int .u64 t1.b.c, .int .u64 t1.b.b, .int .u64 t1.b.o, .int .u64 t1.b.p, .bool t1.b.i, .bool t1.b.r, .bool t1.b.d, .int .u32 t1.m], .string d1, .int .i64 e1]) (.agg #[.slice A t.s.length n, .slice B t.c.length m, .int .i64 t.f, .bool t.x, .int .i64 t.b.n, .int .u64 t.b.c, .int .u64 t.b.b, .int .u64 t.b.o, .int .u64 t.b.p, .bool t.b.i, .bool t.b.r, .bool t.b.d, .int .u32 t.m]) (.slice (some la) l.length lc) (.int .i64 (k : Int)) (.pointer (some (la.add (k * 12)))) (.agg #[.int .i64 a.k, .int .i64 a.i, .int .u32 a.m, .string a.d, .int .i64 a.b.n, .int .u64 a.b.c, .int .u64 a.b.b, .int .u64 a.b.o, .int .u64 a.b.p, .bool a.b.i, .bool a.b.r, .bool a.b.d]) (.tuple #[.agg #[.slice A1 t1.s.length n1, .slice B1 t1.c.length m1, .int .i64 t1.f, .bool t1.x, .int .i64 t1.b.n, .int .u64 t1.b.c, .int .u64 t1.b.b, .int .u64 t1.b.o, .int .u64 t1.b.p, .bool t1.b.i, .bool t1.b.r, .bool t1.b.d, .int .u32 t1.m], .string d1, .int .i64 e1]) (.agg #[.slice A1 t1.s.length n1, .slice B1 t1.c.length m1, .int .i64 t1.f, .bool t1.x, .int .i64 t1.b.n, .int .u64 t1.b.c, .int .u64 t1.b.b, .int .u64 t1.b.o, .int .u64 t1.b.p, .bool t1.b.i, .bool t1.b.r, .bool t1.b.d, .int .u32 t1.m]) (.string d1) (.int .i64 e1) H9.out HM1.out XB.out HW.out
  refine AllReadyH.cons rfl (fun K1 hK => ?_) AllReadyH.nil
  go_simp
  refine hK.out _ _ (hH0.alloc _) (fun hH4 => ?_)
  have HO := Lib.hid (hH0.own [.slice none 0 0, .slice none 0 0, .int .i64 0, .bool false, .int .i64 0, .int .u64 0, .int .u64 0, .int .u64 0, .int .u64 0, .bool false, .bool false, .bool false, .int .u32 0] 34 (n := 13) rfl)
  have HZ9 : Hid (w.heap.size ≤ v0.heap.size) := HW.out.size
  have XB := Lib.hid (Box.new v0 [.slice none 0 0, .slice none 0 0, .int .i64 0, .bool false, .int .i64 0, .int .u64 0, .int .u64 0, .int .u64 0, .int .u64 0, .bool false, .bool false, .bool false, .int .u32 0] 34)
  have hb : Below v0.heap.size v0 (v0.alloc (.cells ([.slice none 0 0, .slice none 0 0, .int .i64 0, .bool false, .int .i64 0, .int .u64 0, .int .u64 0, .int .u64 0, .int .u64 0, .bool false, .bool false, .bool false, .int .u32 0] : List Value).toArray 34)) := below1
  try replace HM1 := Lib.hid (HM1.out.up hb)
  replace HW := Lib.hid (ext HW.out hb)
  generalize v0.alloc (.cells #[.slice none 0 0, .slice none 0 0, .int .i64 0, .bool false, .int .i64 0, .int .u64 0, .int .u64 0, .int .u64 0, .int .u64 0, .bool false, .bool false, .bool false, .int .u32 0] 34) = v4 at *
  generalize hz : v0.heap.size = z9 at *
  clear hz hb hK K1 hH0
  refine wpAnyH_ready (rs := [5]) (by kernel_rfl) (by simp) ?_
  refine AllReadyH.cons rfl (fun K1 hK => ?_) AllReadyH.nil
  go_simp
  refine (HR.out v4 HW.out).mono ?_
  rintro e v5 ⟨A1, n1, B1, m1, rfl, hm1, hb⟩
  have HM1 := Lib.hid hm1
  try replace XB := Lib.hid (XB.out.below hb)
  try replace HO := Lib.hid (HO.out.up hb)
  replace HW := Lib.hid (ext HW.out hb)
  go_wp2_with fail
  refine hK.out _ _ (hH4.up hb) (fun hH5 => ?_)
  clear hK K1 hH4 hb hm1
  refine wpAnyH_take (i := 6) (v := ?_) rfl (by kernel_rfl) (by kernel_rfl) (by kernel_rfl) (fun _ _ _ h => HP.out _ _ _ _ _ h) (Or.inl ⟨by rfl, ?_⟩) hH5 ?_
  rotate_left
  · (intro v hSw; go_simp; try with_reducible rfl)
  simp only [Act.put, List.setIfInBounds_toArray, List.set_cons_zero, List.set_cons_succ, List.getElem_toArray, List.getElem_cons_zero, List.getElem_cons_succ]
  refine wpAnyH_take (i := 7) (v := ?_) rfl (by kernel_rfl) (by kernel_rfl) (by kernel_rfl) (fun _ _ _ h => HP.out _ _ _ _ _ h) (Or.inl ⟨by rfl, ?_⟩) hH5 ?_
  rotate_left
  · (intro v hSw; go_simp; try with_reducible rfl)
  simp only [Act.put, List.setIfInBounds_toArray, List.set_cons_zero, List.set_cons_succ, List.getElem_toArray, List.getElem_cons_zero, List.getElem_cons_succ]
  refine wpAnyH_take (i := 8) (v := ?_) rfl (by kernel_rfl) (by kernel_rfl) (by kernel_rfl) (fun _ _ _ h => HP.out _ _ _ _ _ h) (Or.inl ⟨by rfl, ?_⟩) hH5 ?_
  rotate_left
  · (intro v hSw; go_simp; try with_reducible rfl)
  simp only [Act.put, List.setIfInBounds_toArray, List.set_cons_zero, List.set_cons_succ, List.getElem_toArray, List.getElem_cons_zero, List.getElem_cons_succ]
  refine wpAnyH_take (i := 9) (v := ?_) rfl (by kernel_rfl) (by kernel_rfl) (by kernel_rfl) (fun _ _ _ h => HP.out _ _ _ _ _ h) (Or.inl ⟨by rfl, ?_⟩) hH5 ?_
  rotate_left
  · (intro v hSw; go_simp; try with_reducible rfl)
  simp only [Act.put, List.setIfInBounds_toArray, List.set_cons_zero, List.set_cons_succ, List.getElem_toArray, List.getElem_cons_zero, List.getElem_cons_succ]
  refine wpAnyH_ready (rs := [11]) (by kernel_rfl) (by simp) ?_
  refine AllReadyH.cons rfl (fun K1 hK => ?_) AllReadyH.nil
  have kx := XB.out.cell
  have fx := XB.out.frozen
  have HS2 := HO.out.setL (b := z9) ⟨13, by simp⟩ [.slice A1 t1.s.length n1, .slice B1 t1.c.length m1, .int .i64 t1.f, .bool t1.x, .int .i64 t1.b.n, .int .u64 t1.b.c, .int .u64 t1.b.b, .int .u64 t1.b.o, .int .u64 t1.b.p, .bool t1.b.i, .bool t1.b.r, .bool t1.b.d, .int .u32 t1.m] 0
  go_simp
  refine hK.out _ _ HS2.done (fun hH6 => ?_)
  replace HM1 := Lib.hid (HM1.out.setL [.slice A1 t1.s.length n1, .slice B1 t1.c.length m1, .int .i64 t1.f, .bool t1.x, .int .i64 t1.b.n, .int .u64 t1.b.c, .int .u64 t1.b.b, .int .u64 t1.b.o, .int .u64 t1.b.p, .bool t1.b.i, .bool t1.b.r, .bool t1.b.d, .int .u32 t1.m] 0 XB.out (noText_st 0 0 0 false Sup.zero 0 none 0 none 0) (noText_st t1.s.length t1.c.length t1.f t1.x t1.b t1.m A1 n1 B1 m1))
  replace XB := Lib.hid (show Box _ z9 [.slice A1 t1.s.length n1, .slice B1 t1.c.length m1, .int .i64 t1.f, .bool t1.x, .int .i64 t1.b.n, .int .u64 t1.b.c, .int .u64 t1.b.b, .int .u64 t1.b.o, .int .u64 t1.b.p, .bool t1.b.i, .bool t1.b.r, .bool t1.b.d, .int .u32 t1.m] from XB.out.setL [.slice A1 t1.s.length n1, .slice B1 t1.c.length m1, .int .i64 t1.f, .bool t1.x, .int .i64 t1.b.n, .int .u64 t1.b.c, .int .u64 t1.b.b, .int .u64 t1.b.o, .int .u64 t1.b.p, .bool t1.b.i, .bool t1.b.r, .bool t1.b.d, .int .u32 t1.m] 0)
  replace HW := Lib.hid (Below.setL (b := z9) (HZ9.out) [.slice A1 t1.s.length n1, .slice B1 t1.c.length m1, .int .i64 t1.f, .bool t1.x, .int .i64 t1.b.n, .int .u64 t1.b.c, .int .u64 t1.b.b, .int .u64 t1.b.o, .int .u64 t1.b.p, .bool t1.b.i, .bool t1.b.r, .bool t1.b.d, .int .u32 t1.m] 0 HW.out)
  clear kx fx HS2 HO
  generalize hW : setL v5 z9 0 [.slice A1 t1.s.length n1, .slice B1 t1.c.length m1, .int .i64 t1.f, .bool t1.x, .int .i64 t1.b.n, .int .u64 t1.b.c, .int .u64 t1.b.b, .int .u64 t1.b.o, .int .u64 t1.b.p, .bool t1.b.i, .bool t1.b.r, .bool t1.b.d, .int .u32 t1.m] = v6 at *
  simp only [setL, Nat.zero_add, Nat.reduceAdd] at hW
  simp only [hW] at hH6 ⊢
  clear hW hK K1 hH5
  refine wpAnyH_take (i := 12) (v := ?_) rfl (by kernel_rfl) (by kernel_rfl) (by kernel_rfl) (fun _ _ _ h => HP.out _ _ _ _ _ h) (Or.inl ⟨by rfl, ?_⟩) hH6 ?_
  rotate_left
  · (intro v hSw; go_simp; try with_reducible rfl)
  simp only [Act.put, List.setIfInBounds_toArray, List.set_cons_zero, List.set_cons_succ, List.getElem_toArray, List.getElem_cons_zero, List.getElem_cons_succ]
  refine wpAnyH_take (i := 13) (v := ?_) rfl (by kernel_rfl) (by kernel_rfl) (by kernel_rfl) (fun _ _ _ h => HP.out _ _ _ _ _ h) (Or.inl ⟨by rfl, ?_⟩) hH6 ?_
  rotate_left
  · (intro v hSw; go_simp; try with_reducible rfl)
  simp only [Act.put, List.setIfInBounds_toArray, List.set_cons_zero, List.set_cons_succ, List.getElem_toArray, List.getElem_cons_zero, List.getElem_cons_succ]
  refine wpAnyH_done (by kernel_rfl) ?_ _
  have H9 := Lib.hid hH6
  refine HK.out A1 n1 B1 m1 z9 _ (.tuple #[.agg #[.slice A1 t1.s.length n1, .slice B1 t1.c.length m1, .int .i64 t1.f, .bool t1.x, .int .i64 t1.b.n, .int .u64 t1.b.c, .int .u64 t1.b.b, .int .u64 t1.b.o, .int .u64 t1.b.p, .bool t1.b.i, .bool t1.b.r, .bool t1.b.d, .int .u32 t1.m], .string d1, .int .i64 e1]) (.agg #[.slice A t.s.length n, .slice B t.c.length m, .int .i64 t.f, .bool t.x, .int .i64 t.b.n, .int .u64 t.b.c, .int .u64 t.b.b, .int .u64 t.b.o, .int .u64 t.b.p, .bool t.b.i, .bool t.b.r, .bool t.b.d, .int .u32 t.m]) (.slice (some la) l.length lc) (.int .i64 (k : Int)) (.pointer (some (la.add (k * 12)))) (.agg #[.int .i64 a.k, .int .i64 a.i, .int .u32 a.m, .string a.d, .int .i64 a.b.n, .int .u64 a.b.c, .int .u64 a.b.b, .int .u64 a.b.o, .int .u64 a.b.p, .bool a.b.i, .bool a.b.r, .bool a.b.d]) (.tuple #[.agg #[.slice A1 t1.s.length n1, .slice B1 t1.c.length m1, .int .i64 t1.f, .bool t1.x, .int .i64 t1.b.n, .int .u64 t1.b.c, .int .u64 t1.b.b, .int .u64 t1.b.o, .int .u64 t1.b.p, .bool t1.b.i, .bool t1.b.r, .bool t1.b.d, .int .u32 t1.m], .string d1, .int .i64 e1]) (.agg #[.slice A1 t1.s.length n1, .slice B1 t1.c.length m1, .int .i64 t1.f, .bool t1.x, .int .i64 t1.b.n, .int .u64 t1.b.c, .int .u64 t1.b.b, .int .u64 t1.b.o, .int .u64 t1.b.p, .bool t1.b.i, .bool t1.b.r, .bool t1.b.d, .int .u32 t1.m]) (.string d1) (.int .i64 e1) H9.out HM1.out XB.out HW.out

end Go.Proofs.YtjkgellkkjjnbaaGreatDoor
