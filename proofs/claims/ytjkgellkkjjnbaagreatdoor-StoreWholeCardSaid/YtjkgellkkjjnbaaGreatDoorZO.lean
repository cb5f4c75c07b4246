/- StoreActs, walked: for every number, every row of acts and every fuse. Under: both package variables as they are laid. -/
import Derived.Test.YtjkgellkkjjnbaaGreatDoorZN
import Derived.Test.YtjkgellkkjjnbaaGreatDoorZK
namespace Go.Proofs.YtjkgellkkjjnbaaGreatDoor
open Go.RowKit

theorem held_one {w v : World} {z : Nat} {vs : List Value} (hb : Below w.heap.size w v) (hx : Box v z vs) : Held w [(z, vs)] [] v :=
  ⟨hb, Boxs.cons hx (Boxs.nil v), by simp, by simp, by simp⟩

theorem acts_some {l : List Act} (h : greatA l = false) : l.length ≤ 40 := by
  unfold greatA at h
  simp only [Bool.or_eq_false_iff, decide_eq_false_iff_not] at h
  omega

set_option maxRecDepth 100000 in
set_option maxHeartbeats 4000000 in
theorem zacts_great (nn fu : Int) (LA : Option Addr) (lc : Nat) (l : List Act) (a : Addr) (w : World) (hl : As w w.heap.size LA l) (hg : Glob w a) (hG : greatA l = true) :
    Calls Tryz.prog 4 #[.int .u8 nn, .slice LA l.length lc, .int .u8 fu] w (Yes w) := by
  have hGA := fun (v : World) (h : As v v.heap.size LA l) => great_acts LA lc l v h
  rw [hG] at hGA
  have HG := Lib.hid hg; clear hg
  have HL := Lib.hid hl; clear hl
  unfold Yes
  go_enter Tryz.func4, Tryz.ntmps4
  go_wp2_with fail
  refine (zalive_any _ a HG.out).mono ?_
  rintro e w1 ⟨rfl, hb⟩
  have HB := Lib.hid hb; clear hb
  go_wp2_with fail
  refine (hGA _ (HL.out.up HB.out)).mono ?_
  rintro e w2 ⟨rfl, hb⟩
  go_wp2_with fail
  go_ret
  exact ⟨rfl, ext HB.out hb⟩

set_option maxRecDepth 100000 in
set_option maxHeartbeats 8000000 in
theorem zacts_go (nn fu : Int) (LA : Option Addr) (lc : Nat) (l : List Act) (a : Addr) (w : World) (hl : As w w.heap.size LA l) (hg : Glob w a) (hG : greatA l = false) (hw : ∀ x ∈ l, x.m < 4294967296 ∧ x.b.wide) (h0 : 0 ≤ nn) (h1 : nn < 256) (f0 : 0 ≤ fu) (f1 : fu < 256) :
    Calls Tryz.prog 4 #[.int .u8 nn, .slice LA l.length lc, .int .u8 fu] w (Yes w) := by
  have hGA := fun (v : World) (h : As v v.heap.size LA l) => great_acts LA lc l v h
  rw [hG] at hGA
  have HG := Lib.hid hg; clear hg
  have HL := Lib.hid hl; clear hl
  have HN := Lib.hid (acts_some hG); clear hG
  have HWD := Lib.hid hw; clear hw
  unfold Yes
  go_enter Tryz.func4, Tryz.ntmps4
  go_wp2_with fail
  refine (zalive_any _ a HG.out).mono ?_
  rintro e w1 ⟨rfl, hb⟩
  have HB := Lib.hid hb; clear hb
  go_wp2_with fail
  refine (hGA _ (HL.out.up HB.out)).mono ?_
  rintro e w2 ⟨rfl, hb⟩
  replace HB := Lib.hid (ext HB.out hb); clear hb
  obtain ⟨N, hN, hN1, hN2⟩ : ∃ N : Nat, 1 + nn % 32 = (N : Int) ∧ 1 ≤ N ∧ N ≤ 32 := ⟨(1 + nn % 32).toNat, by omega, by omega, by omega⟩
  go_wp2_with fail
  refine (rznew_any hN1 hN2 _).mono ?_
  rintro e w3 ⟨A0, n0, B0, m0, rfl, hm, hb⟩
  have hb2 : Below w3.heap.size w3 (w3.alloc (.cells ([.slice A0 (newS N).s.length n0, .slice B0 (newS N).c.length m0, .int .i64 (newS N).f, .bool (newS N).x, .int .i64 (newS N).b.n, .int .u64 (newS N).b.c, .int .u64 (newS N).b.b, .int .u64 (newS N).b.o, .int .u64 (newS N).b.p, .bool (newS N).b.i, .bool (newS N).b.r, .bool (newS N).b.d, .int .u32 (newS N).m] : List Value).toArray 34)) := below1
  have HM := Lib.hid (hm.up hb2)
  have HX := Lib.hid (Box.new w3 [.slice A0 (newS N).s.length n0, .slice B0 (newS N).c.length m0, .int .i64 (newS N).f, .bool (newS N).x, .int .i64 (newS N).b.n, .int .u64 (newS N).b.c, .int .u64 (newS N).b.b, .int .u64 (newS N).b.o, .int .u64 (newS N).b.p, .bool (newS N).b.i, .bool (newS N).b.r, .bool (newS N).b.d, .int .u32 (newS N).m] 34)
  have HZ : Hid (w.heap.size ≤ w3.heap.size) := (ext HB.out hb).size
  replace HB := Lib.hid (ext (ext HB.out hb) hb2); clear hb hb2 hm
  go_upto_region 6 with fail
  generalize w3.alloc (.cells #[.slice A0 (newS N).s.length n0, .slice B0 (newS N).c.length m0, .int .i64 (newS N).f, .bool (newS N).x, .int .i64 (newS N).b.n, .int .u64 (newS N).b.c, .int .u64 (newS N).b.b, .int .u64 (newS N).b.o, .int .u64 (newS N).b.p, .bool (newS N).b.i, .bool (newS N).b.r, .bool (newS N).b.d, .int .u32 (newS N).m] 34) = w4 at *
  generalize w3.heap.size = z7 at *
  have kx := HX.out.cell
  go_wp2_with fail
  refine (rarm_any A0 B0 (newS N).s.length n0 (newS N).c.length m0 (newS N).f fu (newS N).x _).mono ?_
  rw [if_neg (show ¬ fu < 0 by omega)]
  rintro e w5 ⟨rfl, hb⟩
  clear kx
  replace HM := Lib.hid (HM.out.up hb)
  replace HX := Lib.hid (HX.out.below hb)
  replace HB := Lib.hid (ext HB.out hb); clear hb
  have kx := HX.out.cell
  have fx := HX.out.frozen
  go_upto_region 7 with fail
  have hW0 := whole_arm (whole_new hN1 hN2) f0
  obtain ⟨t0, ht0⟩ : ∃ t0 : Sto, (⟨(newS N).s, (newS N).c, fu, (newS N).x, (newS N).b, (newS N).m⟩ : Sto) = t0 := ⟨_, rfl⟩
  have HM1 : Hid (Mem (setL w5 z7 0 [.slice A0 (newS N).s.length n0, .slice B0 (newS N).c.length m0, .int .i64 fu, .bool (newS N).x]) A0 n0 B0 m0 t0.s t0.c) := by
    rw [← ht0]
    exact HM.out.setL _ 0 HX.out (noText_st _ _ _ _ _ _ _ _ _ _) (noText_four A0 B0 _ n0 _ m0 fu _)
  have HX1 : Hid (Box (setL w5 z7 0 [.slice A0 (newS N).s.length n0, .slice B0 (newS N).c.length m0, .int .i64 fu, .bool (newS N).x]) z7 [.slice A0 t0.s.length n0, .slice B0 t0.c.length m0, .int .i64 t0.f, .bool t0.x, .int .i64 t0.b.n, .int .u64 t0.b.c, .int .u64 t0.b.b, .int .u64 t0.b.o, .int .u64 t0.b.p, .bool t0.b.i, .bool t0.b.r, .bool t0.b.d, .int .u32 t0.m]) := by
    rw [← ht0]
    exact HX.out.setL [.slice A0 (newS N).s.length n0, .slice B0 (newS N).c.length m0, .int .i64 fu, .bool (newS N).x] 0
  have HB1 := Lib.hid (Below.setL (b := z7) HZ.out [.slice A0 (newS N).s.length n0, .slice B0 (newS N).c.length m0, .int .i64 fu, .bool (newS N).x] 0 HB.out)
  rw [ht0] at hW0
  have HW0 := Lib.hid hW0; clear hW0
  have HC0 : Hid (t0.c.length ≤ 0 ∧ t0.f ≤ 255) := by rw [← ht0]; exact ⟨Nat.le_refl _, by show fu ≤ 255; omega⟩
  generalize hW6 : setL w5 z7 0 [.slice A0 (newS N).s.length n0, .slice B0 (newS N).c.length m0, .int .i64 fu, .bool (newS N).x] = w6 at *
  simp only [setL, Nat.zero_add, Nat.reduceAdd] at hW6
  simp only [hW6]
  clear hW6 kx fx HM HX HB ht0
  go_wp2_with fail
  go_loopw [8] (fun i wr => ∃ (k : Nat) (t : Sto) (A1 : Option Addr) (n1 : Nat) (B1 : Option Addr) (m1 : Nat), k ≤ l.length ∧ i = .int .i64 k ∧ Hid (Whole N t) ∧ Hid (t.c.length ≤ k ∧ t.f ≤ 255) ∧ Hid (Mem wr A1 n1 B1 m1 t.s t.c) ∧ Hid (Box wr z7 [.slice A1 t.s.length n1, .slice B1 t.c.length m1, .int .i64 t.f, .bool t.x, .int .i64 t.b.n, .int .u64 t.b.c, .int .u64 t.b.b, .int .u64 t.b.o, .int .u64 t.b.p, .bool t.b.i, .bool t.b.r, .bool t.b.d, .int .u32 t.m]) ∧ Hid (Below w.heap.size w wr)) (fun i _ => l.length - (intOf i).toNat)
  case atStart => exact ⟨0, t0, A0, n0, B0, m0, by omega, rfl, HW0.out, HC0.out, HM1.out, HX1.out, HB1.out⟩
  case round =>
    obtain ⟨k, t, A1, n1, B1, m1, hk, rfl, HWh, HC, HMm, HX, HBr⟩ := hrel
    clear HW0 HC0 HM1 HX1 HB1
    have h40 : l.length ≤ 40 := HN.out
    by_cases hlt : k < l.length
    · obtain ⟨la, hla, hlab, hat⟩ := HL.out k l[k] (List.getElem?_eq_getElem hlt)
      subst hla
      have hq := HWD.out l[k] (List.getElem_mem hlt)
      have HAT := Lib.hid hat; clear hat
      have HLB := Lib.hid hlab; clear hlab
      generalize l[k] = q at *
      have HF := Lib.hid (HWh.out.fine.fit (f := t.f) (by have := HC.out.1; have := HN.out; omega) (by have := HC.out.2; omega))
      have hD := fun (w0 v : World) (h : Mem w0 A1 n1 B1 m1 t.s t.c) (hb : Below w0.heap.size w0 v) => do_any A1 B1 n1 m1 t q v (h.up hb) HF.out (mask_small HWh.out.mr) hq.1 hq.2
      have hE := fun (w0 v : World) (h : Mem w0 A1 n1 B1 m1 t.s t.c) (hb : Below w0.heap.size w0 v) => rplain_any A1 B1 n1 m1 t q v (h.up hb) HF.out (mask_small HWh.out.mr) hq.1 hq.2
      have g := goes_act HWh.out hq.2
      generalize t.act q = r at *
      obtain ⟨⟨t1, e1⟩, d1⟩ := r
      have HD := Lib.hid hD; clear hD
      have HE := Lib.hid hE; clear hE
      have HGo := Lib.hid g; clear g hq
      go_wp2_with fail
      refine ra10 w _ z7 t t1 e1 d1 A1 B1 n1 m1 la lc l k hlt q _ _ _ _ _ _ _ _ _ _ _ _ _ _ _ _ _ _ _ _ _ _ _ _ _ _ _ _ _ _ _ _ _ _ _ _ _ _ _ _ _ _ _ _ _ _ _ _ _ _ _ _ _ _ _ _ _ _ _ _ _ _ _ _ _ _ _ _ _ _ _ _ _ (held_one HBr.out HX.out) HAT.out HLB.out (fun _ _ d _ _ h => by cases d <;> exact h) (fun v hb => HD.out _ v HMm.out hb) ?_
      intro A2 n2 B2 m2 z9 w7 v36 v37 v38 v39 v40 v41 v42 v43 v44 v45 hH hM2 hX9 hb
      have H7 := Lib.hid hH; clear hH
      have M7 := Lib.hid hM2; clear hM2
      have X9 := Lib.hid hX9; clear hX9
      have HM7 := Lib.hid (HMm.out.up hb)
      clear hb HMm HX HBr
      go_wp2_with fail
      refine ra11 w _ z7 t t1 e1 d1 A1 B1 n1 m1 la lc l k hlt q _ _ _ _ _ _ _ _ _ _ _ _ _ _ _ _ _ _ _ _ _ _ _ _ _ _ _ _ _ _ _ _ _ _ _ _ _ _ _ _ _ _ _ _ _ _ _ _ _ _ _ _ _ _ _ _ _ _ _ _ _ _ _ _ _ _ _ _ _ _ _ _ _ H7.out HAT.out HLB.out (fun _ _ d _ _ h => by cases d <;> exact h) (fun v hb => HE.out _ v HM7.out hb) ?_
      intro A3 n3 B3 m3 z12 w8 v46 v47 v48 v49 v50 v51 v52 v53 v54 v55 hH hM3 hX12 hb
      have H8 := Lib.hid hH; clear hH
      have M8 := Lib.hid (M7.out.up hb)
      have N8 := Lib.hid hM3; clear hM3
      have X9b := Lib.hid (X9.out.below hb)
      have X12 := Lib.hid hX12; clear hX12
      clear hb H7 M7 X9 HM7 HD HE HAT HLB
      have HF1 := Lib.hid (HGo.out.fine.fit (f := t1.f) (by have := HGo.out.len; have := HC.out.1; have := HN.out; dsimp only at *; omega) (by have := HGo.out.f1; have := HC.out.2; dsimp only at *; omega))
      have hS := fun (v : World) (h1 : Mem v A2 n2 B2 m2 t1.s t1.c) (h2 : Mem v A3 n3 B3 m3 t1.s t1.c) => rzsame_of t1 t1 A2 B2 n2 m2 A3 B3 n3 m3 v h1 h2 HF1.out HF1.out
      rw [Sto.same_self] at hS
      have HS := Lib.hid hS; clear hS
      have k9 := X9b.out.cell
      have k12 := X12.out.cell
      go_wp2_with fail
      refine (HS.out _ M8.out N8.out).mono ?_
      rintro e w9 ⟨rfl, hb⟩
      have H9 := Lib.hid (H8.out.up hb)
      have M9 := Lib.hid (M8.out.up hb)
      have X9c := Lib.hid (X9b.out.below hb)
      clear hb k9 k12 H8 M8 N8 X9b X12 HS
      have k9 := X9c.out.cell
      cases hx1 : t1.x with
      | true =>
        have he : e1 = 6 := HGo.out.dead hx1
        subst he
        have E1 := Lib.hid hx1
        rw [hx1] at k9
        clear hx1
        go_wp2_with fail
        go_ret
        exact ⟨ret_bool (by simp), H9.out.below⟩
      | false =>
        have hWn := HGo.out.live hx1
        have HWn := Lib.hid hWn; clear hWn
        have BZ := Lib.hid H9.out.b0
        have kz := BZ.out.cell
        have fz := BZ.out.frozen
        rw [hx1] at k9
        go_upto_region 9 with fail
        have HMn := Lib.hid (M9.out.setL [.slice A2 t1.s.length n2, .slice B2 t1.c.length m2, .int .i64 t1.f, .bool false, .int .i64 t1.b.n, .int .u64 t1.b.c, .int .u64 t1.b.b, .int .u64 t1.b.o, .int .u64 t1.b.p, .bool t1.b.i, .bool t1.b.r, .bool t1.b.d, .int .u32 t1.m] 0 BZ.out (noText_st _ _ _ _ _ _ _ _ _ _) (noText_st t1.s.length t1.c.length t1.f false t1.b t1.m A2 n2 B2 m2))
        have HXn := Lib.hid (show Box _ z7 [.slice A2 t1.s.length n2, .slice B2 t1.c.length m2, .int .i64 t1.f, .bool false, .int .i64 t1.b.n, .int .u64 t1.b.c, .int .u64 t1.b.b, .int .u64 t1.b.o, .int .u64 t1.b.p, .bool t1.b.i, .bool t1.b.r, .bool t1.b.d, .int .u32 t1.m] from BZ.out.setL [.slice A2 t1.s.length n2, .slice B2 t1.c.length m2, .int .i64 t1.f, .bool false, .int .i64 t1.b.n, .int .u64 t1.b.c, .int .u64 t1.b.b, .int .u64 t1.b.o, .int .u64 t1.b.p, .bool t1.b.i, .bool t1.b.r, .bool t1.b.d, .int .u32 t1.m] 0)
        have HBn := Lib.hid (Below.setL (b := z7) HZ.out [.slice A2 t1.s.length n2, .slice B2 t1.c.length m2, .int .i64 t1.f, .bool false, .int .i64 t1.b.n, .int .u64 t1.b.c, .int .u64 t1.b.b, .int .u64 t1.b.o, .int .u64 t1.b.p, .bool t1.b.i, .bool t1.b.r, .bool t1.b.d, .int .u32 t1.m] 0 H9.out.below)
        have HCn : Hid (t1.c.length ≤ k + 1 ∧ t1.f ≤ 255) := ⟨by have := HGo.out.len; have := HC.out.1; dsimp only at *; omega, by have := HGo.out.f1; have := HC.out.2; dsimp only at *; omega⟩
        generalize hWn : setL w9 z7 0 [.slice A2 t1.s.length n2, .slice B2 t1.c.length m2, .int .i64 t1.f, .bool false, .int .i64 t1.b.n, .int .u64 t1.b.c, .int .u64 t1.b.b, .int .u64 t1.b.o, .int .u64 t1.b.p, .bool t1.b.i, .bool t1.b.r, .bool t1.b.d, .int .u32 t1.m] = w10 at *
        simp only [setL, Nat.zero_add, Nat.reduceAdd] at hWn
        simp only [hWn]
        rw [← hx1] at HXn
        have HK9 := Lib.hid hx1
        clear hx1 hWn k9 kz fz BZ H9 M9 X9c
        go_wp2_with fail
        go_roundw
        case rel => exact ⟨k + 1, t1, A2, n2, B2, m2, by omega, by go_num, HWn.out, HCn.out, HMn.out, HXn.out, HBn.out⟩
        case measure => simp [intOf]; omega
    · obtain rfl : k = l.length := by omega
      go_wp2_with fail
      go_ret
      exact ⟨rfl, HBr.out⟩

theorem zacts_law (nn fu : Int) (LA : Option Addr) (lc : Nat) (l : List Act) (a : Addr) (w : World) (hl : As w w.heap.size LA l) (hg : Glob w a) (hw : ∀ x ∈ l, x.m < 4294967296 ∧ x.b.wide) (h0 : 0 ≤ nn) (h1 : nn < 256) (f0 : 0 ≤ fu) (f1 : fu < 256) :
    Calls Tryz.prog 4 #[.int .u8 nn, .slice LA l.length lc, .int .u8 fu] w (Yes w) := by
  cases hG : greatA l with
  | true => exact zacts_great nn fu LA lc l a w hl hg hG
  | false => exact zacts_go nn fu LA lc l a w hl hg hG hw h0 h1 f0 f1
end Go.Proofs.YtjkgellkkjjnbaaGreatDoor
