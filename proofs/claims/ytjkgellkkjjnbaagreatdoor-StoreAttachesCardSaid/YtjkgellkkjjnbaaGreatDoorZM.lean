/- StoreAttaches, walked: for every disk and every two stores. Under: both package variables as they are laid. -/
import Derived.Test.YtjkgellkkjjnbaaGreatDoorZK
namespace Go.Proofs.YtjkgellkkjjnbaaGreatDoor
open Go.RowKit

theorem zgreat_small {s : List ByteArray} {c : List Wr} (h : greatB s c = false) : s.length ≤ 70 ∧ c.length ≤ 100 := by
  unfold greatB at h
  simp only [Bool.or_eq_false_iff, decide_eq_false_iff_not] at h
  omega
theorem fit_right {s : List ByteArray} {c : List Wr} {f : Int} (hG : greatB s c = false) (hR : rightB s c f = true) (hf : f < 9223372036854775808) : Fit s c f := by
  obtain ⟨h1, h2, h3, h4, h5⟩ := right_of hR
  have := zgreat_small hG
  exact ⟨h1, h2, by omega, h5, h4, hf⟩

set_option maxRecDepth 100000 in
set_option maxHeartbeats 4000000 in
theorem zst_great (A B : Option Addr) (n m : Nat) (s : List ByteArray) (c : List Wr) (f : Int) (x : Bool) (t u : Sto) (At Bt : Option Addr) (nt mt : Nat) (Au Bu : Option Addr) (nu mu : Nat) (a : Addr) (w : World) (hm : Mem w A n B m s c) (ht : Mem w At nt Bt mt t.s t.c) (hu : Mem w Au nu Bu mu u.s u.c) (hg : Glob w a) (hG : greatB s c = true) :
    Calls Tryz.prog 3 #[.agg #[.slice A s.length n, .slice B c.length m, .int .i64 f, .bool x], .agg #[.slice At t.s.length nt, .slice Bt t.c.length mt, .int .i64 t.f, .bool t.x, .int .i64 t.b.n, .int .u64 t.b.c, .int .u64 t.b.b, .int .u64 t.b.o, .int .u64 t.b.p, .bool t.b.i, .bool t.b.r, .bool t.b.d, .int .u32 t.m], .agg #[.slice Au u.s.length nu, .slice Bu u.c.length mu, .int .i64 u.f, .bool u.x, .int .i64 u.b.n, .int .u64 u.b.c, .int .u64 u.b.b, .int .u64 u.b.o, .int .u64 u.b.p, .bool u.b.i, .bool u.b.r, .bool u.b.d, .int .u32 u.m]] w (Yes w) := by
  have HG := Lib.hid hg; clear hg
  have HM := Lib.hid hm; clear hm
  have HT := Lib.hid ht; clear ht
  have HU := Lib.hid hu; clear hu
  have hGD := fun (v : World) (h : Mem v A n B m s c) => great_any A B n m s c f x v h.es h.ws
  rw [hG] at hGD
  have H0 := Lib.hid ((((Held.refl w).lay [.slice A s.length n, .slice B c.length m, .int .i64 f, .bool x] 25).lay [.slice At t.s.length nt, .slice Bt t.c.length mt, .int .i64 t.f, .bool t.x, .int .i64 t.b.n, .int .u64 t.b.c, .int .u64 t.b.b, .int .u64 t.b.o, .int .u64 t.b.p, .bool t.b.i, .bool t.b.r, .bool t.b.d, .int .u32 t.m] 34).lay [.slice Au u.s.length nu, .slice Bu u.c.length mu, .int .i64 u.f, .bool u.x, .int .i64 u.b.n, .int .u64 u.b.c, .int .u64 u.b.b, .int .u64 u.b.o, .int .u64 u.b.p, .bool u.b.i, .bool u.b.r, .bool u.b.d, .int .u32 u.m] 34)
  simp only [World.size_alloc] at H0
  unfold Yes
  go_enter Tryz.func3, Tryz.ntmps3
  go_wp2_with fail
  refine (zalive_any _ a (HG.out.up H0.out.below)).mono ?_
  rintro e w1 ⟨rfl, hb⟩
  have H1 := Lib.hid (H0.out.up hb)
  clear hb H0
  have k2 := H1.out.b2.cell
  go_wp2_with fail
  refine (hGD _ (HM.out.up H1.out.below)).mono ?_
  rintro e w2 ⟨rfl, hb⟩
  have H2 := Lib.hid (H1.out.up hb)
  clear hb H1 k2
  go_wp2_with fail
  go_ret
  exact ⟨ret_bool (by simp), H2.out.below⟩

set_option maxRecDepth 100000 in
set_option maxHeartbeats 4000000 in
theorem zst_wrong (A B : Option Addr) (n m : Nat) (s : List ByteArray) (c : List Wr) (f : Int) (x : Bool) (t u : Sto) (At Bt : Option Addr) (nt mt : Nat) (Au Bu : Option Addr) (nu mu : Nat) (a : Addr) (w : World) (hm : Mem w A n B m s c) (ht : Mem w At nt Bt mt t.s t.c) (hu : Mem w Au nu Bu mu u.s u.c) (hg : Glob w a) (hG : greatB s c = false) (hR : rightB s c f = false) :
    Calls Tryz.prog 3 #[.agg #[.slice A s.length n, .slice B c.length m, .int .i64 f, .bool x], .agg #[.slice At t.s.length nt, .slice Bt t.c.length mt, .int .i64 t.f, .bool t.x, .int .i64 t.b.n, .int .u64 t.b.c, .int .u64 t.b.b, .int .u64 t.b.o, .int .u64 t.b.p, .bool t.b.i, .bool t.b.r, .bool t.b.d, .int .u32 t.m], .agg #[.slice Au u.s.length nu, .slice Bu u.c.length mu, .int .i64 u.f, .bool u.x, .int .i64 u.b.n, .int .u64 u.b.c, .int .u64 u.b.b, .int .u64 u.b.o, .int .u64 u.b.p, .bool u.b.i, .bool u.b.r, .bool u.b.d, .int .u32 u.m]] w (Yes w) := by
  have HG := Lib.hid hg; clear hg
  have HM := Lib.hid hm; clear hm
  have HT := Lib.hid ht; clear ht
  have HU := Lib.hid hu; clear hu
  have hGD := fun (v : World) (h : Mem v A n B m s c) => great_any A B n m s c f x v h.es h.ws
  rw [hG] at hGD
  have hRD := fun (v : World) (h : Mem v A n B m s c) => rright_any A B n m s c f x v h.es h.ws (by have := (zgreat_small hG).2; unfold maxLen; omega)
  rw [hR] at hRD
  have H0 := Lib.hid ((((Held.refl w).lay [.slice A s.length n, .slice B c.length m, .int .i64 f, .bool x] 25).lay [.slice At t.s.length nt, .slice Bt t.c.length mt, .int .i64 t.f, .bool t.x, .int .i64 t.b.n, .int .u64 t.b.c, .int .u64 t.b.b, .int .u64 t.b.o, .int .u64 t.b.p, .bool t.b.i, .bool t.b.r, .bool t.b.d, .int .u32 t.m] 34).lay [.slice Au u.s.length nu, .slice Bu u.c.length mu, .int .i64 u.f, .bool u.x, .int .i64 u.b.n, .int .u64 u.b.c, .int .u64 u.b.b, .int .u64 u.b.o, .int .u64 u.b.p, .bool u.b.i, .bool u.b.r, .bool u.b.d, .int .u32 u.m] 34)
  simp only [World.size_alloc] at H0
  unfold Yes
  go_enter Tryz.func3, Tryz.ntmps3
  go_wp2_with fail
  refine (zalive_any _ a (HG.out.up H0.out.below)).mono ?_
  rintro e w1 ⟨rfl, hb⟩
  have H1 := Lib.hid (H0.out.up hb)
  clear hb H0
  have k2 := H1.out.b2.cell
  go_wp2_with fail
  refine (hGD _ (HM.out.up H1.out.below)).mono ?_
  rintro e w2 ⟨rfl, hb⟩
  have H2 := Lib.hid (H1.out.up hb)
  clear hb H1 k2
  have k2 := H2.out.b2.cell
  go_wp2_with fail
  refine (hRD _ (HM.out.up H2.out.below)).mono ?_
  rintro e w3 ⟨rfl, hb⟩
  have H3 := Lib.hid (H2.out.up hb)
  clear hb H2 k2
  go_wp2_with fail
  go_ret
  exact ⟨ret_bool (by simp), H3.out.below⟩

set_option maxRecDepth 100000 in
set_option maxHeartbeats 4000000 in
theorem zst_great1 (A B : Option Addr) (n m : Nat) (s : List ByteArray) (c : List Wr) (f : Int) (x : Bool) (t u : Sto) (At Bt : Option Addr) (nt mt : Nat) (Au Bu : Option Addr) (nu mu : Nat) (a : Addr) (w : World) (hm : Mem w A n B m s c) (ht : Mem w At nt Bt mt t.s t.c) (hu : Mem w Au nu Bu mu u.s u.c) (hg : Glob w a) (hG : greatB s c = false) (hR : rightB s c f = true) (hGt : greatB t.s t.c = true) :
    Calls Tryz.prog 3 #[.agg #[.slice A s.length n, .slice B c.length m, .int .i64 f, .bool x], .agg #[.slice At t.s.length nt, .slice Bt t.c.length mt, .int .i64 t.f, .bool t.x, .int .i64 t.b.n, .int .u64 t.b.c, .int .u64 t.b.b, .int .u64 t.b.o, .int .u64 t.b.p, .bool t.b.i, .bool t.b.r, .bool t.b.d, .int .u32 t.m], .agg #[.slice Au u.s.length nu, .slice Bu u.c.length mu, .int .i64 u.f, .bool u.x, .int .i64 u.b.n, .int .u64 u.b.c, .int .u64 u.b.b, .int .u64 u.b.o, .int .u64 u.b.p, .bool u.b.i, .bool u.b.r, .bool u.b.d, .int .u32 u.m]] w (Yes w) := by
  have HG := Lib.hid hg; clear hg
  have HM := Lib.hid hm; clear hm
  have HT := Lib.hid ht; clear ht
  have HU := Lib.hid hu; clear hu
  have hGD := fun (v : World) (h : Mem v A n B m s c) => great_any A B n m s c f x v h.es h.ws
  rw [hG] at hGD
  have hRD := fun (v : World) (h : Mem v A n B m s c) => rright_any A B n m s c f x v h.es h.ws (by have := (zgreat_small hG).2; unfold maxLen; omega)
  rw [hR] at hRD
  have hGT := fun (v : World) (h : Mem v At nt Bt mt t.s t.c) => great_any At Bt nt mt t.s t.c t.f t.x v h.es h.ws
  rw [hGt] at hGT
  have H0 := Lib.hid ((((Held.refl w).lay [.slice A s.length n, .slice B c.length m, .int .i64 f, .bool x] 25).lay [.slice At t.s.length nt, .slice Bt t.c.length mt, .int .i64 t.f, .bool t.x, .int .i64 t.b.n, .int .u64 t.b.c, .int .u64 t.b.b, .int .u64 t.b.o, .int .u64 t.b.p, .bool t.b.i, .bool t.b.r, .bool t.b.d, .int .u32 t.m] 34).lay [.slice Au u.s.length nu, .slice Bu u.c.length mu, .int .i64 u.f, .bool u.x, .int .i64 u.b.n, .int .u64 u.b.c, .int .u64 u.b.b, .int .u64 u.b.o, .int .u64 u.b.p, .bool u.b.i, .bool u.b.r, .bool u.b.d, .int .u32 u.m] 34)
  simp only [World.size_alloc] at H0
  unfold Yes
  go_enter Tryz.func3, Tryz.ntmps3
  go_wp2_with fail
  refine (zalive_any _ a (HG.out.up H0.out.below)).mono ?_
  rintro e w1 ⟨rfl, hb⟩
  have H1 := Lib.hid (H0.out.up hb)
  clear hb H0
  have k2 := H1.out.b2.cell
  go_wp2_with fail
  refine (hGD _ (HM.out.up H1.out.below)).mono ?_
  rintro e w2 ⟨rfl, hb⟩
  have H2 := Lib.hid (H1.out.up hb)
  clear hb H1 k2
  have k2 := H2.out.b2.cell
  go_wp2_with fail
  refine (hRD _ (HM.out.up H2.out.below)).mono ?_
  rintro e w3 ⟨rfl, hb⟩
  have H3 := Lib.hid (H2.out.up hb)
  clear hb H2 k2
  have k2 := H3.out.b2.cell
  have k1 := H3.out.b1.cell
  go_wp2_with fail
  refine (hGT _ (HT.out.up H3.out.below)).mono ?_
  rintro e w4 ⟨rfl, hb⟩
  have H4 := Lib.hid (H3.out.up hb)
  clear hb H3 k2 k1
  go_wp2_with fail
  go_ret
  exact ⟨ret_bool (by simp), H4.out.below⟩

set_option maxRecDepth 100000 in
set_option maxHeartbeats 4000000 in
theorem zst_great2 (A B : Option Addr) (n m : Nat) (s : List ByteArray) (c : List Wr) (f : Int) (x : Bool) (t u : Sto) (At Bt : Option Addr) (nt mt : Nat) (Au Bu : Option Addr) (nu mu : Nat) (a : Addr) (w : World) (hm : Mem w A n B m s c) (ht : Mem w At nt Bt mt t.s t.c) (hu : Mem w Au nu Bu mu u.s u.c) (hg : Glob w a) (hG : greatB s c = false) (hR : rightB s c f = true) (hGt : greatB t.s t.c = false) (hGu : greatB u.s u.c = true) :
    Calls Tryz.prog 3 #[.agg #[.slice A s.length n, .slice B c.length m, .int .i64 f, .bool x], .agg #[.slice At t.s.length nt, .slice Bt t.c.length mt, .int .i64 t.f, .bool t.x, .int .i64 t.b.n, .int .u64 t.b.c, .int .u64 t.b.b, .int .u64 t.b.o, .int .u64 t.b.p, .bool t.b.i, .bool t.b.r, .bool t.b.d, .int .u32 t.m], .agg #[.slice Au u.s.length nu, .slice Bu u.c.length mu, .int .i64 u.f, .bool u.x, .int .i64 u.b.n, .int .u64 u.b.c, .int .u64 u.b.b, .int .u64 u.b.o, .int .u64 u.b.p, .bool u.b.i, .bool u.b.r, .bool u.b.d, .int .u32 u.m]] w (Yes w) := by
  have HG := Lib.hid hg; clear hg
  have HM := Lib.hid hm; clear hm
  have HT := Lib.hid ht; clear ht
  have HU := Lib.hid hu; clear hu
  have hGD := fun (v : World) (h : Mem v A n B m s c) => great_any A B n m s c f x v h.es h.ws
  rw [hG] at hGD
  have hRD := fun (v : World) (h : Mem v A n B m s c) => rright_any A B n m s c f x v h.es h.ws (by have := (zgreat_small hG).2; unfold maxLen; omega)
  rw [hR] at hRD
  have hGT := fun (v : World) (h : Mem v At nt Bt mt t.s t.c) => great_any At Bt nt mt t.s t.c t.f t.x v h.es h.ws
  rw [hGt] at hGT
  have hGU := fun (v : World) (h : Mem v Au nu Bu mu u.s u.c) => great_any Au Bu nu mu u.s u.c u.f u.x v h.es h.ws
  rw [hGu] at hGU
  have H0 := Lib.hid ((((Held.refl w).lay [.slice A s.length n, .slice B c.length m, .int .i64 f, .bool x] 25).lay [.slice At t.s.length nt, .slice Bt t.c.length mt, .int .i64 t.f, .bool t.x, .int .i64 t.b.n, .int .u64 t.b.c, .int .u64 t.b.b, .int .u64 t.b.o, .int .u64 t.b.p, .bool t.b.i, .bool t.b.r, .bool t.b.d, .int .u32 t.m] 34).lay [.slice Au u.s.length nu, .slice Bu u.c.length mu, .int .i64 u.f, .bool u.x, .int .i64 u.b.n, .int .u64 u.b.c, .int .u64 u.b.b, .int .u64 u.b.o, .int .u64 u.b.p, .bool u.b.i, .bool u.b.r, .bool u.b.d, .int .u32 u.m] 34)
  simp only [World.size_alloc] at H0
  unfold Yes
  go_enter Tryz.func3, Tryz.ntmps3
  go_wp2_with fail
  refine (zalive_any _ a (HG.out.up H0.out.below)).mono ?_
  rintro e w1 ⟨rfl, hb⟩
  have H1 := Lib.hid (H0.out.up hb)
  clear hb H0
  have k2 := H1.out.b2.cell
  go_wp2_with fail
  refine (hGD _ (HM.out.up H1.out.below)).mono ?_
  rintro e w2 ⟨rfl, hb⟩
  have H2 := Lib.hid (H1.out.up hb)
  clear hb H1 k2
  have k2 := H2.out.b2.cell
  go_wp2_with fail
  refine (hRD _ (HM.out.up H2.out.below)).mono ?_
  rintro e w3 ⟨rfl, hb⟩
  have H3 := Lib.hid (H2.out.up hb)
  clear hb H2 k2
  have k2 := H3.out.b2.cell
  have k1 := H3.out.b1.cell
  go_wp2_with fail
  refine (hGT _ (HT.out.up H3.out.below)).mono ?_
  rintro e w4 ⟨rfl, hb⟩
  have H4 := Lib.hid (H3.out.up hb)
  clear hb H3 k2 k1
  have k1 := H4.out.b1.cell
  have k0 := H4.out.b0.cell
  go_wp2_with fail
  refine (hGU _ (HU.out.up H4.out.below)).mono ?_
  rintro e w5 ⟨rfl, hb⟩
  have H5 := Lib.hid (H4.out.up hb)
  clear hb H4 k1 k0
  go_wp2_with fail
  go_ret
  exact ⟨ret_bool (by simp), H5.out.below⟩

set_option maxRecDepth 100000 in
set_option maxHeartbeats 4000000 in
theorem zst_main (A B : Option Addr) (n m : Nat) (s : List ByteArray) (c : List Wr) (f : Int) (x : Bool) (t u : Sto) (At Bt : Option Addr) (nt mt : Nat) (Au Bu : Option Addr) (nu mu : Nat) (a : Addr) (w : World) (hm : Mem w A n B m s c) (ht : Mem w At nt Bt mt t.s t.c) (hu : Mem w Au nu Bu mu u.s u.c) (hg : Glob w a) (hG : greatB s c = false) (hR : rightB s c f = true) (hGt : greatB t.s t.c = false) (hGu : greatB u.s u.c = false) (hf : f < 9223372036854775808) :
    Calls Tryz.prog 3 #[.agg #[.slice A s.length n, .slice B c.length m, .int .i64 f, .bool x], .agg #[.slice At t.s.length nt, .slice Bt t.c.length mt, .int .i64 t.f, .bool t.x, .int .i64 t.b.n, .int .u64 t.b.c, .int .u64 t.b.b, .int .u64 t.b.o, .int .u64 t.b.p, .bool t.b.i, .bool t.b.r, .bool t.b.d, .int .u32 t.m], .agg #[.slice Au u.s.length nu, .slice Bu u.c.length mu, .int .i64 u.f, .bool u.x, .int .i64 u.b.n, .int .u64 u.b.c, .int .u64 u.b.b, .int .u64 u.b.o, .int .u64 u.b.p, .bool u.b.i, .bool u.b.r, .bool u.b.d, .int .u32 u.m]] w (Yes w) := by
  have HG := Lib.hid hg; clear hg
  have HM := Lib.hid hm; clear hm
  have HT := Lib.hid ht; clear ht
  have HU := Lib.hid hu; clear hu
  have hGD := fun (v : World) (h : Mem v A n B m s c) => great_any A B n m s c f x v h.es h.ws
  rw [hG] at hGD
  have hRD := fun (v : World) (h : Mem v A n B m s c) => rright_any A B n m s c f x v h.es h.ws (by have := (zgreat_small hG).2; unfold maxLen; omega)
  rw [hR] at hRD
  have hGT := fun (v : World) (h : Mem v At nt Bt mt t.s t.c) => great_any At Bt nt mt t.s t.c t.f t.x v h.es h.ws
  rw [hGt] at hGT
  have hGU := fun (v : World) (h : Mem v Au nu Bu mu u.s u.c) => great_any Au Bu nu mu u.s u.c u.f u.x v h.es h.ws
  rw [hGu] at hGU
  have HF := Lib.hid (fit_right hG hR hf)
  have ZT := Lib.hid (zgreat_small hGt)
  have ZU := Lib.hid (zgreat_small hGu)
  have hS := fun (v : World) (p : Sto) (A1 B1 A2 B2 : Option Addr) (n1 m1 n2 m2 : Nat) (h1 : Mem v A1 n1 B1 m1 p.s p.c) (h2 : Mem v A2 n2 B2 m2 p.s p.c) (l1 : p.s.length ≤ 1000) (l2 : p.c.length ≤ 1000) => (rzsame_any A1 B1 n1 m1 p.s p.c p.f p.x p.b p.m A2 B2 n2 m2 p.s p.c p.f p.x p.b p.m v h1 h2 l1 l1 l2 l2).mono (R' := fun e v' => e = .returned (.bool true) ∧ Below v.heap.size v v') fun e v' h => by rw [Sto.same_self] at h; exact h
  have HS := Lib.hid hS; clear hS
  have ha : (att s c f x).s.length ≤ 1000 ∧ (att s c f x).c.length ≤ 1000 := by
    have h1 := HF.out.l64
    have h2 := HF.out.c9
    unfold att
    split
    · exact ⟨by show s.length ≤ 1000; omega, by show c.length ≤ 1000; omega⟩
    · exact ⟨by show (0 : Nat) ≤ 1000; omega, by show (0 : Nat) ≤ 1000; omega⟩
  have HA := Lib.hid ha; clear ha
  have hC := fun (v : World) (h1 : Mem v At nt Bt mt t.s t.c) (h2 : Mem v Au nu Bu mu u.s u.c) => zsame_any At Bt nt mt t.s t.c t.f t.x t.b t.m Au Bu nu mu u.s u.c u.f u.x u.b u.m v h1 h2 (by have := ZT.out.1; omega) (by have := ZU.out.1; omega) (by have := ZT.out.2; omega) (by have := ZU.out.2; omega)
  have hD := fun (v : World) (h1 : Mem v At nt Bt mt t.s t.c) (h2 : Mem v Au nu Bu mu u.s u.c) => rzsame_any At Bt nt mt t.s t.c t.f t.x t.b t.m Au Bu nu mu u.s u.c u.f u.x u.b u.m v h1 h2 (by have := ZT.out.1; omega) (by have := ZU.out.1; omega) (by have := ZT.out.2; omega) (by have := ZU.out.2; omega)
  generalize Sto.same _ _ = r at hC hD
  have HC := Lib.hid hC; clear hC
  have HD := Lib.hid hD; clear hD
  have H0 := Lib.hid ((((Held.refl w).lay [.slice A s.length n, .slice B c.length m, .int .i64 f, .bool x] 25).lay [.slice At t.s.length nt, .slice Bt t.c.length mt, .int .i64 t.f, .bool t.x, .int .i64 t.b.n, .int .u64 t.b.c, .int .u64 t.b.b, .int .u64 t.b.o, .int .u64 t.b.p, .bool t.b.i, .bool t.b.r, .bool t.b.d, .int .u32 t.m] 34).lay [.slice Au u.s.length nu, .slice Bu u.c.length mu, .int .i64 u.f, .bool u.x, .int .i64 u.b.n, .int .u64 u.b.c, .int .u64 u.b.b, .int .u64 u.b.o, .int .u64 u.b.p, .bool u.b.i, .bool u.b.r, .bool u.b.d, .int .u32 u.m] 34)
  simp only [World.size_alloc] at H0
  unfold Yes
  go_enter Tryz.func3, Tryz.ntmps3
  go_wp2_with fail
  refine (zalive_any _ a (HG.out.up H0.out.below)).mono ?_
  rintro e w1 ⟨rfl, hb⟩
  have H1 := Lib.hid (H0.out.up hb)
  clear hb H0
  have k2 := H1.out.b2.cell
  go_wp2_with fail
  refine (hGD _ (HM.out.up H1.out.below)).mono ?_
  rintro e w2 ⟨rfl, hb⟩
  have H2 := Lib.hid (H1.out.up hb)
  clear hb H1 k2
  have k2 := H2.out.b2.cell
  go_wp2_with fail
  refine (hRD _ (HM.out.up H2.out.below)).mono ?_
  rintro e w3 ⟨rfl, hb⟩
  have H3 := Lib.hid (H2.out.up hb)
  clear hb H2 k2
  have k2 := H3.out.b2.cell
  have k1 := H3.out.b1.cell
  go_wp2_with fail
  refine (hGT _ (HT.out.up H3.out.below)).mono ?_
  rintro e w4 ⟨rfl, hb⟩
  have H4 := Lib.hid (H3.out.up hb)
  clear hb H3 k2 k1
  have k1 := H4.out.b1.cell
  have k0 := H4.out.b0.cell
  go_wp2_with fail
  refine (hGU _ (HU.out.up H4.out.below)).mono ?_
  rintro e w5 ⟨rfl, hb⟩
  have H5 := Lib.hid (H4.out.up hb)
  clear hb H4 k1 k0
  clear hGD hRD hGT hGU
  have hA1 := fun (v : World) (h : Mem v A n B m s c) (hg : Glob v a) => zattach_any A B n m s c f x v h HF.out a hg
  have hA2 := fun (v : World) (h : Mem v A n B m s c) => rzattach_any A B n m s c f x v h HF.out
  generalize att s c f x = p at *
  generalize attE s c x = r1 at *
  have k2 := H5.out.b2.cell
  go_wp2_with fail
  refine (hA1 _ (HM.out.up H5.out.below) (HG.out.up H5.out.below)).mono ?_
  rintro e w6 ⟨Ap, np, Bp, mp, rfl, hp, hb⟩
  have H6 := Lib.hid ((H5.out.up hb).lay [.slice Ap p.s.length np, .slice Bp p.c.length mp, .int .i64 p.f, .bool p.x, .int .i64 p.b.n, .int .u64 p.b.c, .int .u64 p.b.b, .int .u64 p.b.o, .int .u64 p.b.p, .bool p.b.i, .bool p.b.r, .bool p.b.d, .int .u32 p.m] 34)
  have P6 := Lib.hid (hp.up (below1 (o := .cells ([.slice Ap p.s.length np, .slice Bp p.c.length mp, .int .i64 p.f, .bool p.x, .int .i64 p.b.n, .int .u64 p.b.c, .int .u64 p.b.b, .int .u64 p.b.o, .int .u64 p.b.p, .bool p.b.i, .bool p.b.r, .bool p.b.d, .int .u32 p.m] : List Value).toArray 34)))
  clear hb hp k2 H5 hA1
  go_upto_region 6 with fail
  generalize hw7 : w6.alloc (.cells #[.slice Ap p.s.length np, .slice Bp p.c.length mp, .int .i64 p.f, .bool p.x, .int .i64 p.b.n, .int .u64 p.b.c, .int .u64 p.b.b, .int .u64 p.b.o, .int .u64 p.b.p, .bool p.b.i, .bool p.b.r, .bool p.b.d, .int .u32 p.m] 34) = w7 at *
  generalize w6.heap.size = z6 at *
  clear hw7
  have k3 := H6.out.b3.cell
  go_wp2_with fail
  refine (hA2 _ (HM.out.up H6.out.below)).mono ?_
  rintro e w8 ⟨Aq, nq, Bq, mq, rfl, hq, hb⟩
  have H8 := Lib.hid ((H6.out.up hb).lay [.slice Aq p.s.length nq, .slice Bq p.c.length mq, .int .i64 p.f, .bool p.x, .int .i64 p.b.n, .int .u64 p.b.c, .int .u64 p.b.b, .int .u64 p.b.o, .int .u64 p.b.p, .bool p.b.i, .bool p.b.r, .bool p.b.d, .int .u32 p.m] 34)
  have P8 := Lib.hid ((P6.out.up hb).up (below1 (o := .cells ([.slice Aq p.s.length nq, .slice Bq p.c.length mq, .int .i64 p.f, .bool p.x, .int .i64 p.b.n, .int .u64 p.b.c, .int .u64 p.b.b, .int .u64 p.b.o, .int .u64 p.b.p, .bool p.b.i, .bool p.b.r, .bool p.b.d, .int .u32 p.m] : List Value).toArray 34)))
  have Q8 := Lib.hid (hq.up (below1 (o := .cells ([.slice Aq p.s.length nq, .slice Bq p.c.length mq, .int .i64 p.f, .bool p.x, .int .i64 p.b.n, .int .u64 p.b.c, .int .u64 p.b.b, .int .u64 p.b.o, .int .u64 p.b.p, .bool p.b.i, .bool p.b.r, .bool p.b.d, .int .u32 p.m] : List Value).toArray 34)))
  clear hb hq k3 H6 P6 hA2
  go_upto_region 7 with fail
  generalize hw9 : w8.alloc (.cells #[.slice Aq p.s.length nq, .slice Bq p.c.length mq, .int .i64 p.f, .bool p.x, .int .i64 p.b.n, .int .u64 p.b.c, .int .u64 p.b.b, .int .u64 p.b.o, .int .u64 p.b.p, .bool p.b.i, .bool p.b.r, .bool p.b.d, .int .u32 p.m] 34) = w9 at *
  generalize w8.heap.size = z8 at *
  clear hw9
  refine held_start (S := Held w [(z8, [.slice Aq p.s.length nq, .slice Bq p.c.length mq, .int .i64 p.f, .bool p.x, .int .i64 p.b.n, .int .u64 p.b.c, .int .u64 p.b.b, .int .u64 p.b.o, .int .u64 p.b.p, .bool p.b.i, .bool p.b.r, .bool p.b.d, .int .u32 p.m]), (z6, [.slice Ap p.s.length np, .slice Bp p.c.length mp, .int .i64 p.f, .bool p.x, .int .i64 p.b.n, .int .u64 p.b.c, .int .u64 p.b.b, .int .u64 p.b.o, .int .u64 p.b.p, .bool p.b.i, .bool p.b.r, .bool p.b.d, .int .u32 p.m]), (w.heap.size + 2, [.slice Au u.s.length nu, .slice Bu u.c.length mu, .int .i64 u.f, .bool u.x, .int .i64 u.b.n, .int .u64 u.b.c, .int .u64 u.b.b, .int .u64 u.b.o, .int .u64 u.b.p, .bool u.b.i, .bool u.b.r, .bool u.b.d, .int .u32 u.m]), (w.heap.size + 1, [.slice At t.s.length nt, .slice Bt t.c.length mt, .int .i64 t.f, .bool t.x, .int .i64 t.b.n, .int .u64 t.b.c, .int .u64 t.b.b, .int .u64 t.b.o, .int .u64 t.b.p, .bool t.b.i, .bool t.b.r, .bool t.b.d, .int .u32 t.m]), (w.heap.size, [.slice A s.length n, .slice B c.length m, .int .i64 f, .bool x])] []) (by kernel_rfl) H8.out.drew (fun v0 hB9 hH0 => ?_)
  have HP9 := Lib.hid (fun (v : World) (h : Below w9.heap.size w9 v) => P8.out.up h)
  have HQ9 := Lib.hid (fun (v : World) (h : Below w9.heap.size w9 v) => Q8.out.up h)
  refine wpAnyH_take (i := 0) (v := ?_) rfl (by kernel_rfl) (by kernel_rfl) (by kernel_rfl) (fun _ _ _ h => h) (Or.inl ⟨by rfl, ?_⟩) hH0 ?_
  rotate_left
  · (intro v hSw; have k1 := hSw.b1.cell; go_simp; try with_reducible rfl)
  simp only [Act.put, List.setIfInBounds_toArray, List.set_cons_zero, List.set_cons_succ, List.getElem_toArray, List.getElem_cons_zero]
  refine wpAnyH_take (i := 1) (v := ?_) rfl (by kernel_rfl) (by kernel_rfl) (by kernel_rfl) (fun _ _ _ h => h) (Or.inl ⟨by rfl, ?_⟩) hH0 ?_
  rotate_left
  · (intro v hSw; have k0 := hSw.b0.cell; go_simp; try with_reducible rfl)
  simp only [Act.put, List.setIfInBounds_toArray, List.set_cons_zero, List.set_cons_succ, List.getElem_toArray, List.getElem_cons_zero, List.getElem_cons_succ]
  refine wpAnyH_ready (rs := [2]) (by kernel_rfl) (by simp) ?_
  refine AllReadyH.cons rfl (fun K hK => ?_) AllReadyH.nil
  go_simp
  refine (HS.out _ p Ap Bp Aq Bq np mp nq mq (HP9.out _ hB9) (HQ9.out _ hB9) HA.out.1 HA.out.2).mono ?_
  rintro e v1 ⟨rfl, hb⟩
  go_wp2_with fail
  refine hK.out _ _ (hH0.up hb) (fun hH1 => ?_)
  clear hK K hH0
  refine wpAnyH_take (i := 3) (v := ?_) rfl (by kernel_rfl) (by kernel_rfl) (by kernel_rfl) (fun _ _ _ h => h) (Or.inl ⟨by rfl, ?_⟩) hH1 ?_
  rotate_left
  · (intro v hSw; go_simp; try with_reducible rfl)
  simp only [Act.put, List.setIfInBounds_toArray, List.set_cons_zero, List.set_cons_succ, List.getElem_toArray, List.getElem_cons_zero, List.getElem_cons_succ]
  refine wpAnyH_take (i := 4) (v := ?_) rfl (by kernel_rfl) (by kernel_rfl) (by kernel_rfl) (fun _ _ _ h => h) (Or.inl ⟨by rfl, ?_⟩) hH1 ?_
  rotate_left
  · (intro v hSw; go_simp; try with_reducible rfl)
  simp only [Act.put, List.setIfInBounds_toArray, List.set_cons_zero, List.set_cons_succ, List.getElem_toArray, List.getElem_cons_zero, List.getElem_cons_succ]
  refine wpAnyH_take (i := 5) (v := ?_) rfl (by kernel_rfl) (by kernel_rfl) (by kernel_rfl) (fun _ _ _ h => h) (Or.inl ⟨by rfl, ?_⟩) hH1 ?_
  rotate_left
  · (intro v hSw; go_simp; try with_reducible rfl)
  simp only [Act.put, List.setIfInBounds_toArray, List.set_cons_zero, List.set_cons_succ, List.getElem_toArray, List.getElem_cons_zero, List.getElem_cons_succ]
  refine wpAnyH_take (i := 6) (v := ?_) rfl (by kernel_rfl) (by kernel_rfl) (by kernel_rfl) (fun _ _ _ h => h) (Or.inl ⟨by rfl, ?_⟩) hH1 ?_
  rotate_left
  · (intro v hSw; go_simp; try with_reducible rfl)
  simp only [Act.put, List.setIfInBounds_toArray, List.set_cons_zero, List.set_cons_succ, List.getElem_toArray, List.getElem_cons_zero, List.getElem_cons_succ]
  refine wpAnyH_take (i := 7) (v := ?_) rfl (by kernel_rfl) (by kernel_rfl) (by kernel_rfl) (fun _ _ _ h => h) (Or.inl ⟨by rfl, ?_⟩) hH1 ?_
  rotate_left
  · (intro v hSw; go_simp; try with_reducible rfl)
  simp only [Act.put, List.setIfInBounds_toArray, List.set_cons_zero, List.set_cons_succ, List.getElem_toArray, List.getElem_cons_zero, List.getElem_cons_succ]
  refine wpAnyH_take (i := 8) (v := ?_) rfl (by kernel_rfl) (by kernel_rfl) (by kernel_rfl) (fun _ _ _ h => h) (Or.inl ⟨by rfl, ?_⟩) hH1 ?_
  rotate_left
  · (intro v hSw; go_simp; try with_reducible rfl)
  simp only [Act.put, List.setIfInBounds_toArray, List.set_cons_zero, List.set_cons_succ, List.getElem_toArray, List.getElem_cons_zero, List.getElem_cons_succ]
  refine wpAnyH_take (i := 9) (v := ?_) rfl (by kernel_rfl) (by kernel_rfl) (by kernel_rfl) (fun _ _ _ h => h) (Or.inl ⟨by rfl, ?_⟩) hH1 ?_
  rotate_left
  · (intro v hSw; have k3 := hSw.b3.cell; go_simp; try with_reducible rfl)
  simp only [Act.put, List.setIfInBounds_toArray, List.set_cons_zero, List.set_cons_succ, List.getElem_toArray, List.getElem_cons_zero, List.getElem_cons_succ]
  refine wpAnyH_take (i := 10) (v := ?_) rfl (by kernel_rfl) (by kernel_rfl) (by kernel_rfl) (fun _ _ _ h => h) (Or.inl ⟨by rfl, ?_⟩) hH1 ?_
  rotate_left
  · (intro v hSw; have k2 := hSw.b2.cell; go_simp; try with_reducible rfl)
  simp only [Act.put, List.setIfInBounds_toArray, List.set_cons_zero, List.set_cons_succ, List.getElem_toArray, List.getElem_cons_zero, List.getElem_cons_succ]
  refine wpAnyH_take (i := 12) (v := ?_) rfl (by kernel_rfl) (by kernel_rfl) (by kernel_rfl) (fun _ _ _ h => h) (Or.inl ⟨by rfl, ?_⟩) hH1 ?_
  rotate_left
  · (intro v hSw; have k3 := hSw.b3.cell; go_simp; try with_reducible rfl)
  simp only [Act.put, List.setIfInBounds_toArray, List.set_cons_zero, List.set_cons_succ, List.getElem_toArray, List.getElem_cons_zero, List.getElem_cons_succ]
  refine wpAnyH_take (i := 13) (v := ?_) rfl (by kernel_rfl) (by kernel_rfl) (by kernel_rfl) (fun _ _ _ h => h) (Or.inl ⟨by rfl, ?_⟩) hH1 ?_
  rotate_left
  · (intro v hSw; have k2 := hSw.b2.cell; go_simp; try with_reducible rfl)
  simp only [Act.put, List.setIfInBounds_toArray, List.set_cons_zero, List.set_cons_succ, List.getElem_toArray, List.getElem_cons_zero, List.getElem_cons_succ]
  refine wpAnyH_ready (rs := [11]) (by kernel_rfl) (by simp) ?_
  refine AllReadyH.cons rfl (fun K hK => ?_) AllReadyH.nil
  go_simp
  refine (HC.out _ (HT.out.up hH1.below) (HU.out.up hH1.below)).mono ?_
  rintro e v2 ⟨rfl, hb⟩
  go_wp2_with fail
  refine hK.out _ _ (hH1.up hb) (fun hH2 => ?_)
  clear hK K hH1
  refine wpAnyH_ready (rs := [14]) (by kernel_rfl) (by simp) ?_
  refine AllReadyH.cons rfl (fun K hK => ?_) AllReadyH.nil
  go_simp
  refine (HD.out _ (HT.out.up hH2.below) (HU.out.up hH2.below)).mono ?_
  rintro e v3 ⟨rfl, hb⟩
  go_wp2_with fail
  refine hK.out _ _ (hH2.up hb) (fun hH3 => ?_)
  clear hK K hH2
  refine wpAnyH_take (i := 15) (v := ?_) rfl (by kernel_rfl) (by kernel_rfl) (by kernel_rfl) (fun _ _ _ h => h) (Or.inl ⟨by rfl, ?_⟩) hH3 ?_
  rotate_left
  · (intro v hSw; go_simp; try with_reducible rfl)
  simp only [Act.put, List.setIfInBounds_toArray, List.set_cons_zero, List.set_cons_succ, List.getElem_toArray, List.getElem_cons_zero, List.getElem_cons_succ]
  refine wpAnyH_take (i := 16) (v := ?_) rfl (by kernel_rfl) (by kernel_rfl) (by kernel_rfl) (fun _ _ _ h => h) (Or.inl ⟨by rfl, ?_⟩) hH3 ?_
  rotate_left
  · (intro v hSw; go_simp; try with_reducible rfl)
  simp only [Act.put, List.setIfInBounds_toArray, List.set_cons_zero, List.set_cons_succ, List.getElem_toArray, List.getElem_cons_zero, List.getElem_cons_succ]
  refine wpAnyH_take (i := 17) (v := ?_) rfl (by kernel_rfl) (by kernel_rfl) (by kernel_rfl) (fun _ _ _ h => h) (Or.inl ⟨by rfl, ?_⟩) hH3 ?_
  rotate_left
  · (intro v hSw; go_simp; try with_reducible rfl)
  simp only [Act.put, List.setIfInBounds_toArray, List.set_cons_zero, List.set_cons_succ, List.getElem_toArray, List.getElem_cons_zero, List.getElem_cons_succ]
  refine wpAnyH_done (by kernel_rfl) ?_ _
  have H9 := Lib.hid hH3
  go_wp2_with fail
  go_ret
  exact ⟨ret_bool (by simp), H9.out.below⟩

theorem zst_law (A B : Option Addr) (n m : Nat) (s : List ByteArray) (c : List Wr) (f : Int) (x : Bool) (t u : Sto) (At Bt : Option Addr) (nt mt : Nat) (Au Bu : Option Addr) (nu mu : Nat) (a : Addr) (w : World) (hm : Mem w A n B m s c) (ht : Mem w At nt Bt mt t.s t.c) (hu : Mem w Au nu Bu mu u.s u.c) (hg : Glob w a) (hf : f < 9223372036854775808) :
    Calls Tryz.prog 3 #[.agg #[.slice A s.length n, .slice B c.length m, .int .i64 f, .bool x], toV t At nt Bt mt, toV u Au nu Bu mu] w (Yes w) := by
  cases hG : greatB s c with
  | true => exact zst_great A B n m s c f x t u At Bt nt mt Au Bu nu mu a w hm ht hu hg hG
  | false =>
    cases hR : rightB s c f with
    | false => exact zst_wrong A B n m s c f x t u At Bt nt mt Au Bu nu mu a w hm ht hu hg hG hR
    | true =>
      cases hGt : greatB t.s t.c with
      | true => exact zst_great1 A B n m s c f x t u At Bt nt mt Au Bu nu mu a w hm ht hu hg hG hR hGt
      | false =>
        cases hGu : greatB u.s u.c with
        | true => exact zst_great2 A B n m s c f x t u At Bt nt mt Au Bu nu mu a w hm ht hu hg hG hR hGt hGu
        | false => exact zst_main A B n m s c f x t u At Bt nt mt Au Bu nu mu a w hm ht hu hg hG hR hGt hGu hf
end Go.Proofs.YtjkgellkkjjnbaaGreatDoor
