/- Blocks on a disk, layer 9, in plain words: a disk of so many whole blocks; what one write makes of it, and what it is where the disk died between the write and the flush. No program in it, no condition. -/
import Derived.Test.YtlgfinomkpingaaIZ
import Derived.Deep.CutRange
import Derived.Deep.LoopGhost
namespace Go.Proofs.Ytlgfinomkpingaa
open Go.RowKit

/-- A disk of N blocks, each of them whole. -/
structure Good (S : List ByteArray) (N : Nat) : Prop where
  len : S.length = N + 2
  eight : ∀ t ∈ S.drop 2, t.size = 8

theorem Good.all {S : List ByteArray} {N : Nat} (h : Good S N) : allA S [] false = (S.drop 2, 0) := all_ok h.eight
theorem Good.dlen {S : List ByteArray} {N : Nat} (h : Good S N) : (S.drop 2).length = N := by rw [List.length_drop, h.len]; omega
theorem good_fmt (b y : ByteArray) (N : Nat) : Good (fmtL b y N) N := ⟨fmt_length b y N, by
  show ∀ t ∈ List.replicate N z8, t.size = 8
  intro t ht
  rw [List.eq_of_mem_replicate ht]
  rfl⟩

theorem good_set {S : List ByteArray} {N : Nat} (h : Good S N) {i : Int} {d : ByteArray} (h0 : 0 ≤ i) (h8 : d.size = 8) :
    Good (S.set (i + 2).toNat d) N ∧ ∀ (k : Nat) (a b : ByteArray), ((S.set (i + 2).toNat d).drop 2)[k]? = some a → (S.drop 2)[k]? = some b → ((k : Int) = i → a = d) ∧ ((k : Int) ≠ i → a = b) := by
  have e : (i + 2).toNat = i.toNat + 2 := by omega
  have hd : (S.set (i + 2).toNat d).drop 2 = (S.drop 2).set i.toNat d := by
    rw [e, List.drop_set, if_neg (by omega)]
    rfl
  refine ⟨⟨by rw [List.length_set]; exact h.len, ?_⟩, ?_⟩
  · rw [hd]
    intro t ht
    rcases List.mem_or_eq_of_mem_set ht with q | q
    · exact h.eight t q
    · rw [q]; exact h8
  · rw [hd]
    intro k a b ha hb
    rw [List.getElem?_set] at ha
    refine ⟨fun hk => ?_, fun hk => ?_⟩
    · rw [if_pos (by omega)] at ha
      split at ha
      · injection ha with ha
        exact ha.symm
      · cases ha
    · rw [if_neg (by omega), hb] at ha
      injection ha with ha
      exact ha.symm

theorem put_not {S : List ByteArray} (f : Int) {i : Int} (d : ByteArray) (h : thereB S.length i = false) : putA S [] f false i d = ⟨S, [], f, false, 4⟩ := by
  unfold putA
  rw [if_neg (by rw [h]; simp)]
theorem put_short {S : List ByteArray} (f : Int) {i : Int} {d : ByteArray} (h : thereB S.length i = true) (h8 : d.size ≠ 8) : putA S [] f false i d = ⟨S, [], f, false, 5⟩ := by
  unfold putA
  rw [if_pos h, if_neg h8]
theorem put_yes {S : List ByteArray} {i : Int} {d : ByteArray} (h : thereB S.length i = true) (h8 : d.size = 8) : putA S [] 0 false i d = ⟨S.set (i + 2).toNat d, [], 0, false, 0⟩ := by
  unfold putA
  rw [if_pos h, if_pos h8]
  rfl
theorem put_dies {S : List ByteArray} {i : Int} {d : ByteArray} (h : thereB S.length i = true) (h8 : d.size = 8) : putA S [] 2 false i d = ⟨S, [(i + 2, d)], 0, true, 6⟩ := by
  unfold putA
  rw [if_pos h, if_pos h8]
  rfl

theorem kept_none (l : List Bool) (k : Nat) : keptL [] l k = [] := by
  induction k with
  | zero => rfl
  | succ k ih => simp only [keptL, ih]; rfl
theorem kept_one (x : Wr) (l : List Bool) : keptL [x] l 1 = [] ∨ keptL [x] l 1 = [x] := by
  cases hk : l.getD 0 false with
  | true => exact .inr (by rw [kept_yes (by simp) hk]; rfl)
  | false => exact .inl (by rw [kept_no hk]; rfl)

/-- What it is where the disk died between the write and the flush. -/
theorem one_dies {S : List ByteArray} {N : Nat} (h : Good S N) (i : Int) (d : ByteArray) (l : List Bool) :
    ∃ (s : List ByteArray) (c : List Wr) (f : Int) (x : Bool) (e : Int) (T : List ByteArray), putA S [] 2 false i d = ⟨s, c, f, x, e⟩ ∧ s.length = N + 2 ∧ c.length ≤ 1 ∧ c.any (misfitW s.length) = false ∧ layL s (keptL c l c.length) = T ∧ Good T N ∧
      ∀ (k : Nat) (a b : ByteArray), (T.drop 2)[k]? = some a → (S.drop 2)[k]? = some b → a = b ∨ ((k : Int) = i ∧ a = d) := by
  have same : ∀ (k : Nat) (a b : ByteArray), (S.drop 2)[k]? = some a → (S.drop 2)[k]? = some b → a = b ∨ ((k : Int) = i ∧ a = d) := fun k a b ha hb => .inl (by rw [ha] at hb; injection hb)
  cases ht : thereB S.length i with
  | false => exact ⟨S, [], 2, false, 4, S, put_not 2 d ht, h.len, by simp, rfl, by rw [kept_none]; rfl, h, same⟩
  | true =>
    by_cases h8 : d.size = 8
    · obtain ⟨h0, h1⟩ := there_yes ht
      have hl := h.len
      have hf : ([((i + 2 : Int), d)] : List Wr).any (misfitW S.length) = false := fit_add (c := []) (by omega) (by omega) rfl (by omega)
      rcases kept_one (i + 2, d) l with q | q
      · exact ⟨S, [(i + 2, d)], 0, true, 6, S, put_dies ht h8, hl, by simp, hf, by show layL S (keptL [(i + 2, d)] l 1) = S; rw [q]; rfl, h, same⟩
      · obtain ⟨g1, g2⟩ := good_set h h0 h8
        refine ⟨S, [(i + 2, d)], 0, true, 6, S.set (i + 2).toNat d, put_dies ht h8, hl, by simp, hf, by show layL S (keptL [(i + 2, d)] l 1) = _; rw [q]; rfl, g1, fun k a b ha hb => ?_⟩
        obtain ⟨q1, q2⟩ := g2 k a b ha hb
        by_cases hk : (k : Int) = i
        · exact .inr ⟨hk, q1 hk⟩
        · exact .inl (q2 hk)
    · exact ⟨S, [], 2, false, 5, S, put_short 2 ht h8, h.len, by simp, rfl, by rw [kept_none]; rfl, h, same⟩

/-- What one write makes of it. -/
theorem one_put {S : List ByteArray} {N : Nat} (h : Good S N) (i : Int) (d : ByteArray) :
    (∃ e : Int, e ≠ 0 ∧ putA S [] 0 false i d = ⟨S, [], 0, false, e⟩) ∨
    (∃ X : List ByteArray, putA S [] 0 false i d = ⟨X, [], 0, false, 0⟩ ∧ Good X N ∧ ∀ (k : Nat) (a b : ByteArray), (X.drop 2)[k]? = some a → (S.drop 2)[k]? = some b → ((k : Int) = i → a = d) ∧ ((k : Int) ≠ i → a = b)) := by
  cases ht : thereB S.length i with
  | false => exact .inl ⟨4, by decide, put_not 0 d ht⟩
  | true =>
    by_cases h8 : d.size = 8
    · obtain ⟨g1, g2⟩ := good_set h (there_yes ht).1 h8
      exact .inr ⟨_, put_yes ht h8, g1, g2⟩
    · exact .inl ⟨5, by decide, put_short 0 ht h8⟩

end Go.Proofs.Ytlgfinomkpingaa

/- Blocks on a disk, layer 9: the walk of AreaOne: it answers true, for every number of blocks, every row of writes and every row of keeps. No other condition. -/

namespace Go.Proofs.Ytlgfinomkpingaa
open Go.RowKit

/-- A list of texts stays where a disk is stored over another one. -/
theorem Es.four {w : World} {D b : Nat} {A A0 B0 : Option Addr} {l : List ByteArray} {n1 n2 m1 m2 : Nat} {f0 : Int} {x0 : Bool} (h : Es Value.string w D A l) (hx : Box w b [.slice A0 n1 n2, .slice B0 m1 m2, .int .i64 f0, .bool x0])
    (A1 B1 : Option Addr) (k1 k2 l1 l2 : Nat) (f1 : Int) (x1 : Bool) :
    Es Value.string ((((w.setCell ⟨b, 0, none⟩ (.slice A1 k1 k2)).setCell ⟨b, 1, none⟩ (.slice B1 l1 l2)).setCell ⟨b, 2, none⟩ (.int .i64 f1)).setCell ⟨b, 3, none⟩ (.bool x1)) D A l := by
  have v0 := noText_four A0 B0 n1 n2 m1 m2 f0 x0
  have v1 := v0.set 0 (.slice A1 k1 k2) (by intro t q; cases q)
  have v2 := v1.set 1 (.slice B1 l1 l2) (by intro t q; cases q)
  have v3 := v2.set 2 (.int .i64 f1) (by intro t q; cases q)
  exact (((h.set hx v0 0 _).set (hx.set 0 _) v1 1 _).set ((hx.set 0 _).set 1 _) v2 2 _).set (((hx.set 0 _).set 1 _).set 2 _) v3 3 _

theorem one_put2 {S : List ByteArray} {N : Nat} (h : Good S N) (i : Int) (d : ByteArray) :
    ∃ (X : List ByteArray) (e : Int), putA S [] 0 false i d = ⟨X, [], 0, false, e⟩ ∧ Good X N ∧ (e ≠ 0 → X = S) ∧ (e = 0 → ∀ (k : Nat) (a b : ByteArray), (X.drop 2)[k]? = some a → (S.drop 2)[k]? = some b → ((k : Int) = i → a = d) ∧ ((k : Int) ≠ i → a = b)) := by
  rcases one_put h i d with ⟨e, he, h2⟩ | ⟨X, h2, hg, hk⟩
  · exact ⟨S, e, h2, h, fun _ => rfl, fun q => absurd q he⟩
  · exact ⟨X, 0, h2, hg, fun q => absurd rfl q, fun _ => hk⟩

set_option maxRecDepth 100000 in
set_option maxHeartbeats 4000000 in
theorem one_long (j : Nat) (WA K : Option Addr) (W : List Wr) (l : List Bool) (wc r : Nat) (w : World) (hl : 20 < (W.length : Int) ∨ 50 < (l.length : Int)) : Calls Try.prog 5 #[.int .u8 (j : Nat), .slice WA W.length wc, .slice K l.length r] w (Yes w) := by
  have H0 := Lib.hid (Held.refl w)
  rcases hl with hl | hl
  · go_enter Try.func5, Try.ntmps5
    go_wp2_with fail
    refine (alive_any _).mono ?_
    rintro e w1 ⟨rfl, hb⟩
    have H1 := Lib.hid (H0.out.up hb)
    clear hb H0
    go_wp2_with fail
    go_ret
    exact ⟨rfl, H1.out.below⟩
  · by_cases hW : 20 < (W.length : Int)
    · go_enter Try.func5, Try.ntmps5
      go_wp2_with fail
      refine (alive_any _).mono ?_
      rintro e w1 ⟨rfl, hb⟩
      have H1 := Lib.hid (H0.out.up hb)
      clear hb H0
      go_wp2_with fail
      go_ret
      exact ⟨rfl, H1.out.below⟩
    · go_enter Try.func5, Try.ntmps5
      go_wp2_with fail
      refine (alive_any _).mono ?_
      rintro e w1 ⟨rfl, hb⟩
      have H1 := Lib.hid (H0.out.up hb)
      clear hb H0
      go_wp2_with fail
      go_ret
      exact ⟨rfl, H1.out.below⟩

set_option maxRecDepth 100000 in
set_option maxHeartbeats 16000000 in
theorem one_go (j : Nat) (WA K : Option Addr) (W : List Wr) (l : List Bool) (wc r : Nat) (w : World) (hW : Ws w w.heap.size WA W) (hk : Es Value.bool w w.heap.size K l) (hj : j < 256) (hl1 : ¬ 20 < (W.length : Int)) (hl2 : ¬ 50 < (l.length : Int)) (N : Nat) (hN : N ≤ 32) (S0 : List ByteArray) (g0 : Good S0 N)
    (hfm : ∀ v, Calls Try.prog 17 #[.int .i64 (1 + (j : Int) % 32), .int .u64 7] v (GivesD S0 [] 0 false 0 v)) : Calls Try.prog 5 #[.int .u8 (j : Nat), .slice WA W.length wc, .slice K l.length r] w (Yes w) := by
  have HW := Lib.hid hW; clear hW
  have HK := Lib.hid hk; clear hk
  have HFM := Lib.hid hfm; clear hfm
  have G0 := Lib.hid g0
  have h0len := g0.len
  have ha0 : ∀ (A B : Option Addr) (n m : Nat) (v : World), Mem v A n B m S0 [] → Calls Try.prog 13 #[.agg #[.slice A (N + 2) n, .slice B 0 m, .int .i64 0, .bool false]] v fun e v' => ∃ (L : Option Addr) (q : Nat), e = .returned (.tuple #[.slice L N q, .int .i64 0]) ∧ Es Value.string v' v'.heap.size L (S0.drop 2) ∧ Below v.heap.size v v' := by
    intro A B n m v hm
    have := aall_any A B n m S0 [] 0 false v hm (by omega) (by decide)
    rw [g0.all] at this
    unfold GivesT at this
    rw [g0.dlen, h0len] at this
    exact this
  have HA0 := Lib.hid ha0; clear ha0 g0
  have L0 := Lib.hid h0len; clear h0len
  have H0 := Lib.hid (Held.refl w)
  go_enter Try.func5, Try.ntmps5
  go_wp2_with fail
  refine (alive_any _).mono ?_
  rintro e w1 ⟨rfl, hb⟩
  have H1 := Lib.hid (H0.out.up hb)
  clear hb H0
  go_wp2_with fail
  refine (HFM.out _).mono ?_
  rintro e w2 ⟨A1, B1, n1, m1, rfl, hm, hb⟩
  rw [L0.out]
  have H2 := Lib.hid ((H1.out.up hb).own [.slice A1 (N + 2) n1, .slice B1 0 m1, .int .i64 0, .bool false] 25 (n := 4) rfl)
  have BD2 := Lib.hid (Box.new w2 [.slice A1 (N + 2) n1, .slice B1 0 m1, .int .i64 0, .bool false] 25)
  have HM2 := Lib.hid (hm.up (below1 (o := .cells #[.slice A1 (N + 2) n1, .slice B1 0 m1, .int .i64 0, .bool false] 25)))
  clear hm hb H1 HFM
  have kd := BD2.out.cell
  go_wp2_with fail
  refine (HA0.out A1 B1 n1 m1 _ HM2.out).mono ?_
  rintro e w3 ⟨L, q, rfl, hes, hb⟩
  have H3 := Lib.hid (H2.out.up hb)
  have BD3 := Lib.hid (BD2.out.below hb)
  have HM3 := Lib.hid (HM2.out.up hb)
  have HE3 := Lib.hid hes
  clear hes hb H2 BD2 HM2 HA0 kd
  generalize w2.heap.size = p at *
  go_wp2_with fail
  go_loopw [9, 11] (fun lv iv wr => ∃ (k : Nat) (S : List ByteArray) (A1 B1 L : Option Addr) (n1 m1 q : Nat), k ≤ W.length ∧ iv = .int .i64 k ∧ lv = .slice L N q ∧ Hid (Good S N) ∧ Hid (Held w [] [(p, 4)] wr) ∧ Hid (Box wr p [.slice A1 (N + 2) n1, .slice B1 0 m1, .int .i64 0, .bool false]) ∧ Hid (Mem wr A1 n1 B1 m1 S []) ∧ Hid (Es Value.string wr wr.heap.size L (S.drop 2))) (fun _ iv _ => W.length - (intOf iv).toNat)
  case atStart => exact ⟨0, S0, A1, B1, L, n1, m1, q, by omega, rfl, rfl, G0.out, H3.out, BD3.out, HM3.out, HE3.out⟩
  case round =>
    obtain ⟨k, S, A1, B1, L, n1, m1, q, hk, rfl, rfl, HG, H, BD0, HM0, HE0⟩ := hrel
    clear G0 H3 BD3 HM3 HE3 L0
    by_cases hlt : k < W.length
    · skip
      obtain ⟨a0, rfl, hb0, hc0, hd0⟩ := (HW.out.up H.out.below) k W[k] (List.getElem?_eq_getElem hlt)
      have hkw : (k : Int) < (W.length : Int) := by omega
      generalize W[k] = y at *
      obtain ⟨i, d⟩ := y
      dsimp only at *
      obtain ⟨s2, c2, f2, x2, e2, T, hp2, hs2, hc2, hf2, hT, HGT, hTk⟩ := one_dies HG.out i d l
      have hlS := HG.out.len
      have hq2 : ∀ (A B : Option Addr) (n m : Nat) (v : World), Mem v A n B m S [] → Calls Try.prog 11 #[.agg #[.slice A (N + 2) n, .slice B 0 m, .int .i64 2, .bool false], .int .i64 i, .string d] v (GivesD s2 c2 f2 x2 e2 v) := by
        intro A B n m v hm
        have := aput_any A B n m S [] 2 false i d v hm (by omega) (by decide) (by decide) rfl
        rw [hp2, hlS] at this
        exact this
      have hrv : ∀ (A B : Option Addr) (n m : Nat) (v : World), Mem v A n B m s2 c2 → Es Value.bool v v.heap.size K l → Calls Try.prog 20 #[.agg #[.slice A s2.length n, .slice B c2.length m, .int .i64 0, .bool true], .slice K l.length r] v (GivesO T [] 0 false v) := by
        intro A B n m v hm hk
        have := rrevive_any A B K n m r s2 c2 l 0 true v hm hk (by omega) (by omega) (by unfold maxLen; omega) hf2
        rw [hT] at this
        exact this
      have hat : ∀ (A B : Option Addr) (n m : Nat) (v : World), Mem v A n B m T [] → Calls Try.prog 13 #[.agg #[.slice A T.length n, .slice B 0 m, .int .i64 0, .bool false]] v fun e v' => ∃ (L : Option Addr) (q : Nat), e = .returned (.tuple #[.slice L N q, .int .i64 0]) ∧ Es Value.string v' v'.heap.size L (T.drop 2) ∧ Below v.heap.size v v' := by
        intro A B n m v hm
        have := aall_any A B n m T [] 0 false v hm (by have := HGT.len; omega) (by decide)
        rw [HGT.all] at this
        unfold GivesT at this
        rw [HGT.dlen] at this
        exact this
      have hpc := fun (A B : Option Addr) (n m : Nat) (v : World) (hm : Mem v A n B m S []) => aput_any A B n m S [] 0 false i d v hm (by omega) (by decide) (by decide) rfl
      obtain ⟨X, xe, hX, HGX, hX1, hX2⟩ := one_put2 HG.out i d
      rw [hX, hlS] at hpc
      dsimp only at hpc
      clear hX
      have hax : ∀ (A B : Option Addr) (n m : Nat) (v : World), Mem v A n B m X [] → Calls Try.prog 13 #[.agg #[.slice A (N + 2) n, .slice B 0 m, .int .i64 0, .bool false]] v fun e v' => ∃ (L : Option Addr) (q : Nat), e = .returned (.tuple #[.slice L N q, .int .i64 0]) ∧ Es Value.string v' v'.heap.size L (X.drop 2) ∧ Below v.heap.size v v' := by
        intro A B n m v hm
        have := aall_any A B n m X [] 0 false v hm (by have := HGX.len; omega) (by decide)
        rw [HGX.all] at this
        unfold GivesT at this
        rw [HGX.dlen, HGX.len] at this
        exact this
      have hsm := same_of S [] 0 false (by omega) (by decide)
      rw [hlS] at hsm
      dsimp only [List.length_nil] at hsm
      have hxl := HGX.len
      have hxd := HGX.dlen
      have hTl := HGT.dlen
      have hSl := HG.out.dlen
      have HARM := Lib.hid (fun (A B : Option Addr) (n m : Nat) (v : World) => rarm_any A B (N + 2) n 0 m 0 2 false v)
      rw [if_neg (by decide)] at HARM
      have HP2 := Lib.hid hq2
      have HRV := Lib.hid hrv
      have HAT := Lib.hid hat
      have HPC := Lib.hid hpc
      have HTK := Lib.hid hTk
      have HTL := Lib.hid hTl
      have HAX := Lib.hid hax
      have HSM := Lib.hid hsm
      have HXL := Lib.hid hxl
      have HXD := Lib.hid hxd
      have HX1 := Lib.hid hX1
      have HX2 := Lib.hid hX2
      have GX := Lib.hid HGX
      have GT := Lib.hid HGT
      have HSL := Lib.hid hSl
      have HLS := Lib.hid hlS
      clear hq2 hrv hat hpc hTk hTl hSl hlS hp2 hs2 hc2 hf2 hT hax hsm hxl hxd hX1 hX2 HGX HGT
      go_upto_region 11 with fail
      have hV := H.out.lay [.int .i64 i, .string d] 43
      have BQ := Lib.hid (Box.new wr [.int .i64 i, .string d] 43)
      have BD := Lib.hid (BD0.out.alloc (.cells #[.int .i64 i, .string d] 43))
      have HM := Lib.hid (HM0.out.up (below1 (o := .cells #[.int .i64 i, .string d] 43)))
      have HE := Lib.hid (HE0.out.below (below1 (o := .cells #[.int .i64 i, .string d] 43)) (below1 (o := .cells #[.int .i64 i, .string d] 43)).size)
      have hqp : p < wr.heap.size := BD0.out.lt
      have HPL := Lib.hid hqp
      have HV := Lib.hid hV.less
      clear hV hqp hc0 hd0 hb0 H BD0 HM0 HE0
      generalize wr.alloc (.cells #[.int .i64 i, .string d] 43) = V at *
      generalize wr.heap.size = Q at *
      go_upto_region 11 with fail
      go_cut [13, 14] from 46 to 179 (fun yp _ wx => ∃ (yb : Nat) (A2 B2 : Option Addr) (n2 m2 : Nat), yp = .pointer (some ⟨yb, 0, none⟩) ∧ Hid (Box wx yb [.slice A2 s2.length n2, .slice B2 c2.length m2, .int .i64 f2, .bool x2]) ∧ Hid (Mem wx A2 n2 B2 m2 s2 c2) ∧ Hid (Below V.heap.size V wx))
      case first =>
        refine held_start (S := fun v => Below V.heap.size V v) (by kernel_rfl) (Below.refl _ _).drew (fun v0 _ hH => ?_)
        refine wpAnyH_take (i := 0) (v := ?_) rfl (by kernel_rfl) (by kernel_rfl) (by kernel_rfl) (fun _ _ _ h => h) (Or.inl ⟨by rfl, ?_⟩) hH ?_
        rotate_left
        · (intro v hSw; have k := (BD.out.below hSw).cell; go_simp; try with_reducible rfl)
        simp only [Act.put, List.setIfInBounds_toArray, List.set_cons_zero, List.set_cons_succ, List.getElem_toArray, List.getElem_cons_zero]
        refine wpAnyH_take (i := 2) (v := ?_) rfl (by kernel_rfl) (by kernel_rfl) (by kernel_rfl) (fun _ _ _ h => h) (Or.inl ⟨by rfl, ?_⟩) hH ?_
        rotate_left
        · (intro v hSw; go_simp; try with_reducible rfl)
        simp only [Act.put, List.setIfInBounds_toArray, List.set_cons_zero, List.set_cons_succ, List.getElem_toArray, List.getElem_cons_zero, List.getElem_cons_succ]
        refine wpAnyH_take (i := 3) (v := ?_) rfl (by kernel_rfl) (by kernel_rfl) (by kernel_rfl) (fun _ _ _ h => h) (Or.inl ⟨by rfl, ?_⟩) hH ?_
        rotate_left
        · (intro v hSw; have k := (BQ.out.below hSw).cell; go_simp; try with_reducible rfl)
        simp only [Act.put, List.setIfInBounds_toArray, List.set_cons_zero, List.set_cons_succ, List.getElem_toArray, List.getElem_cons_zero, List.getElem_cons_succ]
        refine wpAnyH_take (i := 4) (v := ?_) rfl (by kernel_rfl) (by kernel_rfl) (by kernel_rfl) (fun _ _ _ h => h) (Or.inl ⟨by rfl, ?_⟩) hH ?_
        rotate_left
        · (intro v hSw; go_simp; try with_reducible rfl)
        simp only [Act.put, List.setIfInBounds_toArray, List.set_cons_zero, List.set_cons_succ, List.getElem_toArray, List.getElem_cons_zero, List.getElem_cons_succ]
        refine wpAnyH_take (i := 5) (v := ?_) rfl (by kernel_rfl) (by kernel_rfl) (by kernel_rfl) (fun _ _ _ h => h) (Or.inl ⟨by rfl, ?_⟩) hH ?_
        rotate_left
        · (intro v hSw; have k := (BQ.out.below hSw).cell; go_simp; try with_reducible rfl)
        simp only [Act.put, List.setIfInBounds_toArray, List.set_cons_zero, List.set_cons_succ, List.getElem_toArray, List.getElem_cons_zero, List.getElem_cons_succ]
        refine wpAnyH_ready (rs := [1, 10]) (by kernel_rfl) (by simp) ?_
        refine AllReadyH.cons rfl (fun K hK => ?_) (AllReadyH.cons rfl (fun K hK => ?_) AllReadyH.nil)
        · go_simp
          refine (HARM.out A1 B1 n1 m1 _).mono ?_
          rintro e v1 ⟨rfl, hb⟩
          go_wp2_with fail
          refine hK.out _ _ (ext hH hb) (fun hHa => ?_)
          clear hK K hb
          refine wpAnyH_ready (rs := [6, 10]) (by kernel_rfl) (by simp) ?_
          refine AllReadyH.cons rfl (fun K hK => ?_) (AllReadyH.cons rfl (fun K hK => ?_) AllReadyH.nil)
          · go_simp
            refine (HP2.out A1 B1 n1 m1 _ (HM.out.up hHa)).mono ?_
            rintro e v2 ⟨A2, B2, n2, m2, rfl, hm2, hb⟩
            have HM2 := Lib.hid hm2
            clear hm2
            go_wp2_with fail
            refine hK.out _ _ (ext hHa hb) (fun hH1 => ?_)
            clear hK K hb
            refine wpAnyH_take (i := 7) (v := ?_) rfl (by kernel_rfl) (by kernel_rfl) (by kernel_rfl) (fun _ _ _ h => h) (Or.inl ⟨by rfl, ?_⟩) hH1 ?_
            rotate_left
            · (intro v hSw; go_simp; try with_reducible rfl)
            simp only [Act.put, List.setIfInBounds_toArray, List.set_cons_zero, List.set_cons_succ, List.getElem_toArray, List.getElem_cons_zero, List.getElem_cons_succ]
            refine wpAnyH_take (i := 8) (v := ?_) rfl (by kernel_rfl) (by kernel_rfl) (by kernel_rfl) (fun _ _ _ h => h) (Or.inl ⟨by rfl, ?_⟩) hH1 ?_
            rotate_left
            · (intro v hSw; go_simp; try with_reducible rfl)
            simp only [Act.put, List.setIfInBounds_toArray, List.set_cons_zero, List.set_cons_succ, List.getElem_toArray, List.getElem_cons_zero, List.getElem_cons_succ]
            refine wpAnyH_take (i := 9) (v := ?_) rfl (by kernel_rfl) (by kernel_rfl) (by kernel_rfl) (fun _ _ _ h => h) (Or.inl ⟨by rfl, ?_⟩) hH1 ?_
            rotate_left
            · (intro v hSw; go_simp; try with_reducible rfl)
            simp only [Act.put, List.setIfInBounds_toArray, List.set_cons_zero, List.set_cons_succ, List.getElem_toArray, List.getElem_cons_zero, List.getElem_cons_succ]
            refine wpAnyH_ready (rs := [10]) (by kernel_rfl) (by simp) ?_
            refine AllReadyH.cons rfl (fun K hK => ?_) AllReadyH.nil
            go_simp
            refine hK.out _ _ (ext_alloc hH1 _) (fun hH2 => ?_)
            clear hK K
            refine wpAnyH_ready (rs := [11]) (by kernel_rfl) (by simp) ?_
            refine AllReadyH.cons rfl (fun K hK => ?_) AllReadyH.nil
            go_simp
            refine hK.out _ _ (ext_alloc hH1 _) (fun hH3 => ?_)
            clear hK K
            refine wpAnyH_take (i := 12) (v := ?_) rfl (by kernel_rfl) (by kernel_rfl) (by kernel_rfl) (fun _ _ _ h => h) (Or.inl ⟨by rfl, ?_⟩) hH3 ?_
            rotate_left
            · (intro v hSw; go_simp; try with_reducible rfl)
            simp only [Act.put, List.setIfInBounds_toArray, List.set_cons_zero, List.set_cons_succ, List.getElem_toArray, List.getElem_cons_zero, List.getElem_cons_succ]
            refine wpAnyH_done (by kernel_rfl) ?_ _
            go_wp2_with fail
            go_meet
            exact ⟨v2.heap.size, A2, B2, n2, m2, rfl, Box.new v2 _ _, HM2.out.up below1, hH3⟩
          · go_simp
            refine hK.out _ _ (ext_alloc hHa _) (fun hH1 => ?_)
            clear hK K
            refine wpAnyH_ready (rs := [6]) (by kernel_rfl) (by simp) ?_
            refine AllReadyH.cons rfl (fun K hK => ?_) AllReadyH.nil
            go_simp
            refine (HP2.out A1 B1 n1 m1 _ (HM.out.up hH1)).mono ?_
            rintro e v2 ⟨A2, B2, n2, m2, rfl, hm2, hb⟩
            have HM2 := Lib.hid hm2
            clear hm2
            have bz := (Box.new v1 [.slice none 0 0, .slice none 0 0, .int .i64 0, .bool false] 25).below hb
            go_wp2_with fail
            refine hK.out _ _ (ext hH1 hb) (fun hH2 => ?_)
            clear hK K hb
            refine wpAnyH_take (i := 7) (v := ?_) rfl (by kernel_rfl) (by kernel_rfl) (by kernel_rfl) (fun _ _ _ h => h) (Or.inl ⟨by rfl, ?_⟩) hH2 ?_
            rotate_left
            · (intro v hSw; go_simp; try with_reducible rfl)
            simp only [Act.put, List.setIfInBounds_toArray, List.set_cons_zero, List.set_cons_succ, List.getElem_toArray, List.getElem_cons_zero, List.getElem_cons_succ]
            refine wpAnyH_take (i := 8) (v := ?_) rfl (by kernel_rfl) (by kernel_rfl) (by kernel_rfl) (fun _ _ _ h => h) (Or.inl ⟨by rfl, ?_⟩) hH2 ?_
            rotate_left
            · (intro v hSw; go_simp; try with_reducible rfl)
            simp only [Act.put, List.setIfInBounds_toArray, List.set_cons_zero, List.set_cons_succ, List.getElem_toArray, List.getElem_cons_zero, List.getElem_cons_succ]
            refine wpAnyH_take (i := 9) (v := ?_) rfl (by kernel_rfl) (by kernel_rfl) (by kernel_rfl) (fun _ _ _ h => h) (Or.inl ⟨by rfl, ?_⟩) hH2 ?_
            rotate_left
            · (intro v hSw; go_simp; try with_reducible rfl)
            simp only [Act.put, List.setIfInBounds_toArray, List.set_cons_zero, List.set_cons_succ, List.getElem_toArray, List.getElem_cons_zero, List.getElem_cons_succ]
            refine wpAnyH_ready (rs := [11]) (by kernel_rfl) (by simp) ?_
            refine AllReadyH.cons rfl (fun K hK => ?_) AllReadyH.nil
            have kx := bz.cell
            have fx := bz.frozen
            go_simp
            refine hK.out _ _ (below4 hH2 hHa.size _ _ _ _) (fun hH3 => ?_)
            clear hK K kx fx
            refine wpAnyH_take (i := 12) (v := ?_) rfl (by kernel_rfl) (by kernel_rfl) (by kernel_rfl) (fun _ _ _ h => h) (Or.inl ⟨by rfl, ?_⟩) hH3 ?_
            rotate_left
            · (intro v hSw; go_simp; try with_reducible rfl)
            simp only [Act.put, List.setIfInBounds_toArray, List.set_cons_zero, List.set_cons_succ, List.getElem_toArray, List.getElem_cons_zero, List.getElem_cons_succ]
            refine wpAnyH_done (by kernel_rfl) ?_ _
            go_wp2_with fail
            go_meet
            exact ⟨v1.heap.size, A2, B2, n2, m2, rfl, bz.four _ _ _ _, HM2.out.four bz _ _ _ _ _ _ _ _, hH3⟩
        · go_simp
          refine hK.out _ _ (ext_alloc hH _) (fun hH0 => ?_)
          clear hK K
          refine wpAnyH_ready (rs := [1]) (by kernel_rfl) (by simp) ?_
          refine AllReadyH.cons rfl (fun K hK => ?_) AllReadyH.nil
          go_simp
          refine (HARM.out A1 B1 n1 m1 _).mono ?_
          rintro e v1 ⟨rfl, hb⟩
          have bz0 := (Box.new v0 [.slice none 0 0, .slice none 0 0, .int .i64 0, .bool false] 25).below hb
          go_wp2_with fail
          refine hK.out _ _ (ext hH0 hb) (fun hH1 => ?_)
          clear hK K hb
          refine wpAnyH_ready (rs := [6]) (by kernel_rfl) (by simp) ?_
          refine AllReadyH.cons rfl (fun K hK => ?_) AllReadyH.nil
          go_simp
          refine (HP2.out A1 B1 n1 m1 _ (HM.out.up hH1)).mono ?_
          rintro e v2 ⟨A2, B2, n2, m2, rfl, hm2, hb⟩
          have HM2 := Lib.hid hm2
          clear hm2
          have bz := bz0.below hb
          clear bz0
          go_wp2_with fail
          refine hK.out _ _ (ext hH1 hb) (fun hH2 => ?_)
          clear hK K hb
          refine wpAnyH_take (i := 7) (v := ?_) rfl (by kernel_rfl) (by kernel_rfl) (by kernel_rfl) (fun _ _ _ h => h) (Or.inl ⟨by rfl, ?_⟩) hH2 ?_
          rotate_left
          · (intro v hSw; go_simp; try with_reducible rfl)
          simp only [Act.put, List.setIfInBounds_toArray, List.set_cons_zero, List.set_cons_succ, List.getElem_toArray, List.getElem_cons_zero, List.getElem_cons_succ]
          refine wpAnyH_take (i := 8) (v := ?_) rfl (by kernel_rfl) (by kernel_rfl) (by kernel_rfl) (fun _ _ _ h => h) (Or.inl ⟨by rfl, ?_⟩) hH2 ?_
          rotate_left
          · (intro v hSw; go_simp; try with_reducible rfl)
          simp only [Act.put, List.setIfInBounds_toArray, List.set_cons_zero, List.set_cons_succ, List.getElem_toArray, List.getElem_cons_zero, List.getElem_cons_succ]
          refine wpAnyH_take (i := 9) (v := ?_) rfl (by kernel_rfl) (by kernel_rfl) (by kernel_rfl) (fun _ _ _ h => h) (Or.inl ⟨by rfl, ?_⟩) hH2 ?_
          rotate_left
          · (intro v hSw; go_simp; try with_reducible rfl)
          simp only [Act.put, List.setIfInBounds_toArray, List.set_cons_zero, List.set_cons_succ, List.getElem_toArray, List.getElem_cons_zero, List.getElem_cons_succ]
          refine wpAnyH_ready (rs := [11]) (by kernel_rfl) (by simp) ?_
          refine AllReadyH.cons rfl (fun K hK => ?_) AllReadyH.nil
          have kx := bz.cell
          have fx := bz.frozen
          go_simp
          refine hK.out _ _ (below4 hH2 hH.size _ _ _ _) (fun hH3 => ?_)
          clear hK K kx fx
          refine wpAnyH_take (i := 12) (v := ?_) rfl (by kernel_rfl) (by kernel_rfl) (by kernel_rfl) (fun _ _ _ h => h) (Or.inl ⟨by rfl, ?_⟩) hH3 ?_
          rotate_left
          · (intro v hSw; go_simp; try with_reducible rfl)
          simp only [Act.put, List.setIfInBounds_toArray, List.set_cons_zero, List.set_cons_succ, List.getElem_toArray, List.getElem_cons_zero, List.getElem_cons_succ]
          refine wpAnyH_done (by kernel_rfl) ?_ _
          go_wp2_with fail
          go_meet
          exact ⟨v0.heap.size, A2, B2, n2, m2, rfl, bz.four _ _ _ _, HM2.out.four bz _ _ _ _ _ _ _ _, hH3⟩
      case rest =>
      obtain ⟨yb, A2, B2, n2, m2, rfl, HY, HMY, HVX⟩ := hcut
      have BD1 := Lib.hid (BD.out.below HVX.out)
      have BQ1 := Lib.hid (BQ.out.below HVX.out)
      have HM1 := Lib.hid (HM.out.up HVX.out)
      have HE1 := Lib.hid (HE.out.below HVX.out HVX.out.size)
      have HV1 := Lib.hid (HV.out.up HVX.out)
      clear BD BQ HM HE HV HVX HARM HP2
      have ky := HY.out.cell
      go_wp2_with fail
      refine (rcrash_any A2 B2 s2.length n2 c2.length m2 f2 x2 _).mono ?_
      rintro e u1 ⟨rfl, hb⟩
      have BD2 := Lib.hid (BD1.out.below hb)
      have BQ2 := Lib.hid (BQ1.out.below hb)
      have HM2 := Lib.hid (HM1.out.up hb)
      have HE2 := Lib.hid (HE1.out.up hb)
      have HV2 := Lib.hid (HV1.out.up hb)
      have HMY2 := Lib.hid (HMY.out.up hb)
      clear hb ky HY HMY BD1 BQ1 HM1 HE1 HV1
      go_wp2_with fail
      refine (HRV.out A2 B2 n2 m2 _ HMY2.out (HK.out.below HV2.out.below HV2.out.below.size)).mono ?_
      rintro e u2 ⟨A3, B3, n3, m3, rfl, hm3, hb⟩
      have BD3 := Lib.hid (BD2.out.below hb)
      have BQ3 := Lib.hid (BQ2.out.below hb)
      have HM3 := Lib.hid (HM2.out.up hb)
      have HE3 := Lib.hid (HE2.out.up hb)
      have HV3 := Lib.hid (HV2.out.up hb)
      have HM3 := Lib.hid (HM2.out.up hb)
      have HT3 := Lib.hid hm3
      clear hb hm3 HMY2 BD2 BQ2 HM2 HE2 HV2 HRV
      go_wp2_with fail
      refine (HAT.out A3 B3 n3 m3 _ HT3.out).mono ?_
      rintro e u3 ⟨LT, qt, rfl, het, hb⟩
      have BD4 := Lib.hid (BD3.out.below hb)
      have BQ4 := Lib.hid (BQ3.out.below hb)
      have HM4 := Lib.hid (HM3.out.up hb)
      have HE4 := Lib.hid (HE3.out.up hb)
      have HV4 := Lib.hid (HV3.out.up hb)
      have ET4 := Lib.hid het
      clear hb het HT3 BD3 BQ3 HM3 HE3 HV3 HAT
      have kd := BD4.out.cell
      have kq := BQ4.out.cell
      go_wp2_with fail
      refine (HPC.out A1 B1 n1 m1 _ HM4.out).mono ?_
      rintro e u4 ⟨A4, B4, n4, m4, rfl, hm4, hb⟩
      rw [HXL.out]
      have hba := ext_alloc hb (.cells #[.slice A4 (N + 2) n4, .slice B4 0 m4, .int .i64 0, .bool false] 25)
      have BD5 := Lib.hid (BD4.out.below hba)
      have BQ5 := Lib.hid (BQ4.out.below hba)
      have HM5 := Lib.hid (HM4.out.up hba)
      have HE5 := Lib.hid (HE4.out.up hba)
      have HV5 := Lib.hid (HV4.out.up hba)
      have ET5 := Lib.hid (ET4.out.below hba (hba).size)
      have BX5 := Lib.hid (Box.new u4 [.slice A4 (N + 2) n4, .slice B4 0 m4, .int .i64 0, .bool false] 25)
      have MX5 := Lib.hid (hm4.up (below1 (o := .cells #[.slice A4 (N + 2) n4, .slice B4 0 m4, .int .i64 0, .bool false] 25)))
      clear hb hba hm4 BD4 BQ4 HM4 HE4 HV4 ET4 HPC kd kq
      go_wp2_with fail
      generalize u4.alloc (.cells #[.slice A4 (N + 2) n4, .slice B4 0 m4, .int .i64 0, .bool false] 25) = U at *
      generalize u4.heap.size = px at *
      go_loopw [19] (fun jv wz => ∃ kk nn : Nat, kk ≤ N ∧ jv = .int .i64 kk ∧ wz = U.drewN nn) (fun jv _ => N - (intOf jv).toNat)
      case atStart => exact ⟨0, 0, by omega, rfl, rfl⟩
      case round =>
        obtain ⟨kk, nn, hkk, rfl, rfl⟩ := hrel
        by_cases hlt2 : kk < N
        · have q1 := HTL.out
          have q2 := HSL.out
          obtain ⟨a, ha⟩ : ∃ a, (T.drop 2)[kk]? = some a := ⟨_, List.getElem?_eq_getElem (by omega)⟩
          obtain ⟨b, hb⟩ : ∃ b, (S.drop 2)[kk]? = some b := ⟨_, List.getElem?_eq_getElem (by omega)⟩
          obtain ⟨a1, rfl, _, hc1⟩ := ET5.out kk a ha
          obtain ⟨a2, rfl, _, hc2⟩ := HE5.out kk b hb
          have hor := HTK.out kk a b ha hb
          have hkN : (kk : Int) < (N : Int) := by omega
          have kq := BQ5.out.cell
          clear q1 q2 ha hb
          by_cases hab : a = b
          · have he : (a.toList == b.toList) = true := by rw [text_eq, decide_eq_true hab]
            clear hor hab
            go_wp2
            go_quiet (fail)
            go_wp2
            go_roundw
            case rel => exact ⟨kk + 1, _, by omega, by go_num, rfl⟩
            case measure => simp [intOf]; omega
          · have he : (a.toList == b.toList) = false := by rw [text_eq, decide_eq_false hab]
            obtain ⟨hki, had⟩ : (kk : Int) = i ∧ a = d := hor.resolve_left hab
            have hke : ((kk : Int) == i) = true := by rw [hki]; simp
            have hkn : ((kk : Int) != i) = false := by rw [hki]; simp
            have hde : (a.toList == d.toList) = true := by rw [text_eq, decide_eq_true had]
            clear hor hab hki had
            go_wp2
            go_quiet (fail)
            go_wp2
            go_roundw
            case rel => exact ⟨kk + 1, _, by omega, by go_num, rfl⟩
            case measure => simp [intOf]; omega
        · obtain rfl : N = kk := by omega
          have hbn := ext_drewN (Below.refl U.heap.size U) nn
          have BDz := Lib.hid (BD5.out.below hbn)
          have BQz := Lib.hid (BQ5.out.below hbn)
          have HMz := Lib.hid (HM5.out.up hbn)
          have HEz := Lib.hid (HE5.out.up hbn)
          have HVz := Lib.hid (HV5.out.up hbn)
          have BXz := Lib.hid (BX5.out.below hbn)
          have MXz := Lib.hid (MX5.out.up hbn)
          clear hbn ET5 BD5 BQ5 HM5 HE5 HV5 BX5 MX5
          by_cases hxe : xe = 0
          · subst hxe
            generalize U.drewN nn = Z at *
            have kx := BXz.out.cell
            go_wp2_with fail
            refine (HAX.out A4 B4 n4 m4 _ MXz.out).mono ?_
            rintro e u5 ⟨LM, qm, rfl, hem, hb⟩
            have BD6 := Lib.hid (BDz.out.below hb)
            have BQ6 := Lib.hid (BQz.out.below hb)
            have HE6 := Lib.hid (HEz.out.up hb)
            have HV6 := Lib.hid (HVz.out.up hb)
            have BX6 := Lib.hid (BXz.out.below hb)
            have MX6 := Lib.hid (MXz.out.up hb)
            have EX6 := Lib.hid hem
            clear hb hem kx BDz BQz HMz HEz HVz BXz MXz
            go_wp2_with fail
            go_loopw [22] (fun jv wz => ∃ kk nn : Nat, kk ≤ N ∧ jv = .int .i64 kk ∧ wz = u5.drewN nn) (fun jv _ => N - (intOf jv).toNat)
            case atStart => exact ⟨0, 0, by omega, rfl, rfl⟩
            case round =>
              obtain ⟨kk, nn, hkk, rfl, rfl⟩ := hrel
              by_cases hlt2 : kk < N
              · have q1 := HXD.out
                have q2 := HSL.out
                obtain ⟨a, ha⟩ : ∃ a, (X.drop 2)[kk]? = some a := ⟨_, List.getElem?_eq_getElem (by omega)⟩
                obtain ⟨b, hb⟩ : ∃ b, (S.drop 2)[kk]? = some b := ⟨_, List.getElem?_eq_getElem (by omega)⟩
                obtain ⟨a1, rfl, _, hc1⟩ := EX6.out kk a ha
                obtain ⟨a2, rfl, _, hc2⟩ := HE6.out kk b hb
                obtain ⟨ho1, ho2⟩ := HX2.out (by trivial) kk a b ha hb
                have hkN : (kk : Int) < (N : Int) := by omega
                have kq := BQ6.out.cell
                clear q1 q2 ha hb
                by_cases hki : (kk : Int) = i
                · have hke : ((kk : Int) == i) = true := by rw [hki]; simp
                  have hkn : ((kk : Int) != i) = false := by rw [hki]; simp
                  have had := ho1 hki
                  have hde : (a.toList == d.toList) = true := by rw [text_eq, decide_eq_true had]
                  clear ho1 ho2 hki had
                  go_wp2
                  go_quiet (fail)
                  go_wp2
                  go_roundw
                  case rel => exact ⟨kk + 1, _, by omega, by go_num, rfl⟩
                  case measure => simp [intOf]; omega
                · have hke : ((kk : Int) == i) = false := beq_eq_false_iff_ne.2 hki
                  have hkn : ((kk : Int) != i) = true := bne_iff_ne.2 hki
                  have hab := ho2 hki
                  have he : (a.toList == b.toList) = true := by rw [text_eq, decide_eq_true hab]
                  clear ho1 ho2 hki hab
                  go_wp2
                  go_quiet (fail)
                  go_wp2
                  go_roundw
                  case rel => exact ⟨kk + 1, _, by omega, by go_num, rfl⟩
                  case measure => simp [intOf]; omega
              · obtain rfl : N = kk := by omega
                have hbn := ext_drewN (Below.refl u5.heap.size u5) nn
                have BDy := Lib.hid (BD6.out.below hbn)
                have BXy := Lib.hid (BX6.out.below hbn)
                have EXy := Lib.hid (EX6.out.below hbn (hbn).size)
                have HVy := Lib.hid (HV6.out.up hbn)
                have MXy := Lib.hid (MX6.out.up hbn)
                clear hbn
                generalize u5.drewN nn = Y at *
                have kx := BXy.out.cell
                have kd := BDy.out.cell
                have fd := BDy.out.frozen
                go_wp2
                go_roundw
                case rel => exact ⟨k + 1, X, A4, B4, LM, n4, m4, qm, by omega, by go_num, rfl, GX.out, HVy.out.set4 (b := p) ⟨4, by simp⟩ _ _ _ _, BDy.out.four _ _ _ _, MXy.out.four BDy.out _ _ _ _ _ _ _ _, (EXy.out.four BDy.out _ _ _ _ _ _ _ _).below (Below.refl _ _) (by simp)⟩
                case measure => simp [intOf]; omega
          · have hnb : ((xe : Int) != 0) = true := by simp [bne, beq_eq_false_iff_ne.2 hxe]
            have hne : ((xe : Int) == 0) = false := beq_eq_false_iff_ne.2 hxe
            obtain rfl := HX1.out hxe
            clear hxe
            generalize U.drewN nn = Z at *
            have kx := BXz.out.cell
            have kd := BDz.out.cell
            go_wp2_with fail
            refine (HSM.out A4 B4 A1 B1 n4 m4 n1 m1 _ MXz.out HMz.out).mono ?_
            rintro e u5 ⟨rfl, hb⟩
            have BD6 := Lib.hid (BDz.out.below hb)
            have HM6 := Lib.hid (HMz.out.up hb)
            have HE6 := Lib.hid (HEz.out.up hb)
            have HV6 := Lib.hid (HVz.out.up hb)
            clear hb kx kd
            go_wp2
            go_roundw
            case rel => exact ⟨k + 1, _, A1, B1, L, n1, m1, q, by omega, by go_num, rfl, HG.out, HV6.out, BD6.out, HM6.out, HE6.out⟩
            case measure => simp [intOf]; omega
    · obtain rfl : W.length = k := by omega
      go_wp2_with fail
      go_ret
      exact ⟨rfl, H.out.below⟩

theorem one_law (j : Nat) (WA K : Option Addr) (W : List Wr) (l : List Bool) (wc r : Nat) (w : World) (hW : Ws w w.heap.size WA W) (hk : Es Value.bool w w.heap.size K l) (hj : j < 256) : Calls Try.prog 5 #[.int .u8 (j : Nat), .slice WA W.length wc, .slice K l.length r] w (Yes w) := by
  by_cases h1 : 20 < (W.length : Int)
  · exact one_long j WA K W l wc r w (.inl h1)
  by_cases h2 : 50 < (l.length : Int)
  · exact one_long j WA K W l wc r w (.inr h2)
  obtain ⟨N, hN⟩ : ∃ N : Nat, N = 1 + j % 32 := ⟨_, rfl⟩
  have hr : (fmS (N : Nat) 7).right = true := by
    unfold Sup.right fmS
    simp
    omega
  refine one_go j WA K W l wc r w hW hk hj h1 h2 N (by omega) (fmtL (fmS (N : Nat) 7).bytes (bytesM 0) N) (good_fmt _ _ N) fun v => ?_
  have := afmt_any (N : Nat) 7 v (by decide) (by decide)
  rw [show fmtA (N : Nat) 7 = ⟨fmtL (fmS (N : Nat) 7).bytes (bytesM 0) N, [], 0, false, 0⟩ by unfold fmtA; rw [hr, if_pos rfl, Int.toNat_natCast]] at this
  rw [show (1 + (j : Int) % 32) = ((N : Nat) : Int) by omega]
  exact this

end Go.Proofs.Ytlgfinomkpingaa
