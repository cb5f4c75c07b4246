/- Clusters: what the document's calls of layers 16 to 21 answer of one, plainly. -/
import Derived.Test.YtkjikigimmchlaaGreatDoorNI
import Derived.Test.YtkjikigimmchlaaGreatDoorPK1
import Derived.Test.YtkjikigimmchlaaGreatDoorX3
import Derived.Test.YtkjikigimmchlaaGreatDoorRGb
import Derived.Test.YtkjikigimmchlaaGreatDoorRX
import Derived.Test.YtkjikigimmchlaaGreatDoorNX
namespace Go.Proofs.YtkjikigimmchlaaGreatDoor
open Go.RowKit PX
set_option maxRecDepth 100000
theorem pdec_bad {l : List UInt8} (h : (pktOf l).right = false) : pdec l = (Pkt.zero, 2) := by unfold pdec pformed; rw [h]; simp
theorem pdec_diff {l : List UInt8} (h : ¬ (pktOf l).body = l) : pdec l = (Pkt.zero, 2) := by unfold pdec pformed; rw [decide_eq_false h]; simp
theorem pdec_ok {l : List UInt8} (h9 : 9 ≤ l.length) (h : (pktOf l).right = true) (hb : (pktOf l).body = l) : pdec l = (pktOf l, 0) := by unfold pdec pformed; rw [h, decide_eq_true hb, decide_eq_true h9]; rfl
theorem pdec_few {l : List UInt8} (h9 : ¬ 9 ≤ l.length) : pdec l = (Pkt.zero, 2) := by unfold pdec pformed; rw [decide_eq_false h9]; rfl
theorem tail_txt (t : ByteArray) (k : Nat) : t.extract k t.size = txt (t.data.toList.drop k) := by
  have e : (t.extract k t.size).data.toList = t.data.toList.drop k := by
    obtain ⟨⟨l⟩⟩ := t
    simp [List.extract, ByteArray.size]
    exact List.take_of_length_le (by simp)
  rw [← e, txt_of]
theorem diff_texts {l : List UInt8} {t : ByteArray} (h : ¬ l = t.data.toList) : ((txt l).toList == t.toList) = false := by
  rw [beq_eq_false_iff_ne, ByteArray.toList_eq, ByteArray.toList_eq, txt_data]
  exact h
theorem get_num (t : ByteArray) (h9 : 9 ≤ t.size) (w : World) : Calls Tryz.prog 30 #[.string (t.extract 1 9)] w fun e w' => e = .returned (.tuple #[.int .u64 (num8 t.data.toList 1), .bool true]) ∧ Below w.heap.size w w' := by
  have := rget64_b (t.extract 1 9) w (extract8 t 1 (by omega))
  rw [extract_num8 t 1] at this
  exact this
theorem pk_end {t : ByteArray} {w : World} {K : World → Prop} (T0 : Tree) (X : Pkt) (hX : pktOf t.data.toList = X) (h9 : 9 ≤ t.size)
    (a1 : T0.hd = .call (.fn 33) [pktV X])
    (a2 : (Tree.lit 9 (T0.nv (.bool false))).hd = .ret (.tuple #[pktV Pkt.zero, .int .i64 2]))
    (a3 : (Tree.lit 2 (T0.nv (.bool true))).hd = .call (.fn 34) [pktV X])
    (a4 : ∀ y, (Tree.lit 2 ((Tree.lit 2 (T0.nv (.bool true))).nv (.string y))).hd = .br (!(y.toList == t.toList)))
    (a5 : ∀ y, (Tree.lit 9 (Tree.lit 2 ((Tree.lit 2 (T0.nv (.bool true))).nv (.string y))).yes).hd = .ret (.tuple #[pktV Pkt.zero, .int .i64 2]))
    (a6 : ∀ y, (Tree.lit 9 (Tree.lit 2 ((Tree.lit 2 (T0.nv (.bool true))).nv (.string y))).no).hd = .ret (.tuple #[pktV X, .int .i64 0])) :
    OK ⟨Tryz.prog, tyL, w, [], []⟩ (fun x _ u => Ending.returned x = .returned (.tuple #[pktV (pdec t.data.toList).1, .int .i64 (pdec t.data.toList).2]) ∧ Below w.heap.size w u) T0 K := by
  have hwd := pktOf_wide t.data.toList
  rw [hX] at hwd
  refine t_v (fun u _ => rpright_any X u hwd.2.2.2.2.2) ?_ a1
  cases hr : X.right with
  | false => exact t_lit 9 (e_r2 (.tuple #[pktV Pkt.zero, .int .i64 2]) (by rw [pdec_bad (by rw [hX]; exact hr)]) a2)
  | true =>
    refine t_lit 2 (t_v (fun u _ => rpbytes_any X u hwd hr) ?_ a3)
    by_cases hq : X.body = t.data.toList
    · refine t_lit 2 (t_N (b := !((txt X.body).toList == t.toList)) 9 (by rw [hq, txt_of]; simp) (e_r2 (.tuple #[pktV X, .int .i64 0]) (by rw [pdec_ok h9 (by rw [hX]; exact hr) (by rw [hX]; exact hq), hX]) (a6 _)) (a4 _))
    · refine t_lit 2 (t_Y (b := !((txt X.body).toList == t.toList)) 9 (by rw [diff_texts hq]; rfl) (e_r2 (.tuple #[pktV Pkt.zero, .int .i64 2]) (by rw [pdec_diff (by rw [hX]; exact hq)]) (a5 _)) (a4 _))
set_option maxHeartbeats 4000000 in
theorem rpdecode_any (s : ByteArray) (w : World) (hs : (s.size : Int) ≤ 3000) : Calls Tryz.prog 14 #[.string s] w fun e w' => e = .returned (.tuple #[pktV (decP s).1, .int .i64 (decP s).2]) ∧ Below w.heap.size w w' := by
  have hts := openT_size s
  refine run_v (t_v (fun u _ => ropen_any s u hs) ?_)
  unfold decP
  by_cases he : ¬ openE s = 0
  · rw [if_neg he]
    exact t_Y (b := openE s != 0) 9 (by simpa using he) (e_r2 (.tuple #[pktV Pkt.zero, .int .i64 (openE s)]) rfl)
  replace he := Decidable.not_not.1 he
  rw [if_pos he]
  generalize openT s = t at *
  refine t_N (b := openE s != 0) 0 (by simpa using he) ?_
  by_cases h9 : ¬ 9 ≤ t.size
  · rw [pdec_few h9]
    exact t_Y (b := decide ((t.size : Int) < 9)) 9 (decide_eq_true (by omega)) (e_r2 (.tuple #[pktV Pkt.zero, .int .i64 2]) rfl)
  replace h9 := Decidable.not_not.1 h9
  refine t_N (b := decide ((t.size : Int) < 9)) 0 (decide_eq_false (by omega)) ?_
  refine t_ck (p := inB (some 9) t.size ∧ inB (some 1) (atB (some 9) t.size)) ⟨⟨by omega, by omega⟩, by show 0 ≤ (1 : Int) ∧ (1 : Int) ≤ (9 : Nat); omega⟩ ?_
  refine t_v (fun u _ => get_num t h9 u) ?_
  refine t_ck (p := 0 ≤ (0 : Int) ∧ (0 : Int) < (t.size : Nat)) (by omega) (t_ck (p := inB none t.size ∧ inB (some 9) (atB none t.size)) ⟨trivial, by show 0 ≤ (9 : Int) ∧ (9 : Int) ≤ (t.size : Nat); omega⟩ ?_)
  have hK : IntKind.i64.wrap ((t[0]?.getD 0).toNat : Nat) = ((t.data.toList.getD 0 0).toNat : Int) := by rw [get_at t 0 (by omega), wrap_byte]
  have hb := fun (k : Int) (u : World) => (rblock_any k u).mono fun e v' h => (⟨h.1, h.2 ▸ Below.refl _ _⟩ : e = _ ∧ Below u.heap.size u v')
  have hwd := pktOf_wide t.data.toList
  by_cases h1 : ((t.data.toList.getD 0 0).toNat : Int) = 1
  · refine t_Y (b := decide (IntKind.i64.wrap ((t[0]?.getD 0).toNat : Nat) = 1)) 0 (decide_eq_true (hK.trans h1)) (t_v (fun u _ => rhdecode_any (t.extract 9 t.size) u) ?_)
    by_cases h0 : ¬ (hdec (t.extract 9 t.size)).2 = 0
    · have hbad : (pktOf t.data.toList).right = false := by
        have hp : (pktOf t.data.toList).k = 1 ∧ (pktOf t.data.toList).h = Hel.zero := by
          unfold pktOf
          dsimp only
          rw [if_pos h1, ← tail_txt]
          exact ⟨h1, hdec_zero _ h0⟩
        unfold Pkt.right
        rw [hp.1, hp.2, if_pos rfl, show Hel.zero.right = false from by decide]
        simp
      rw [pdec_bad hbad]
      exact t_Y (b := (hdec (t.extract 9 t.size)).2 != 0) 9 (by simpa using h0) (e_r2 (.tuple #[pktV Pkt.zero, .int .i64 2]) rfl)
    replace h0 := Decidable.not_not.1 h0
    have hp : pktOf t.data.toList = ⟨IntKind.i64.wrap ((t[0]?.getD 0).toNat : Nat), num8 t.data.toList 1, (hdec (t.extract 9 t.size)).1, 0, ⟨#[]⟩⟩ := by
      unfold pktOf
      dsimp only
      rw [if_pos h1, tail_txt, hK]
    refine t_N (b := (hdec (t.extract 9 t.size)).2 != 0) 0 (by simpa using h0) (t_v (fun u _ => hb (IntKind.i64.wrap ((t[0]?.getD 0).toNat : Nat)) u) ?_)
    have hbk : blockK (IntKind.i64.wrap ((t[0]?.getD 0).toNat : Nat)) = false := by rw [hK, h1]; rfl
    rw [hbk]
    exact t_lit 4 (pk_end _ _ hp h9 (by kernel_rfl) (by kernel_rfl) (by kernel_rfl) (by intro y; kernel_rfl) (by intro y; kernel_rfl) (by intro y; kernel_rfl))
  · refine t_N (b := decide (IntKind.i64.wrap ((t[0]?.getD 0).toNat : Nat) = 1)) 0 (decide_eq_false (fun e => h1 (hK.symm.trans e))) (t_v (fun u _ => hb (IntKind.i64.wrap ((t[0]?.getD 0).toNat : Nat)) u) ?_)
    cases hbk : blockK (IntKind.i64.wrap ((t[0]?.getD 0).toNat : Nat)) with
    | false =>
      have hp : pktOf t.data.toList = ⟨IntKind.i64.wrap ((t[0]?.getD 0).toNat : Nat), num8 t.data.toList 1, Hel.zero, 0, t.extract 9 t.size⟩ := by
        rw [hK] at hbk
        unfold pktOf
        dsimp only
        rw [if_neg h1, hbk, tail_txt, hK]
        rfl
      exact t_lit 4 (pk_end _ _ hp h9 (by kernel_rfl) (by kernel_rfl) (by kernel_rfl) (by intro y; kernel_rfl) (by intro y; kernel_rfl) (by intro y; kernel_rfl))
    | true =>
      have hK2 := hbk
      rw [hK] at hK2
      by_cases h10 : 9 < t.size
      · have hz : ((t.extract 9 t.size)[0]?.getD 0) = t.data.toList.getD 9 0 := by
          have hsz : 0 < (t.extract 9 t.size).size := by simp; omega
          rw [get_at _ 0 hsz, tail_txt t 9, txt_data, List.getD_eq_getElem?_getD, List.getD_eq_getElem?_getD, List.getElem?_drop]
        have hp : pktOf t.data.toList = ⟨IntKind.i64.wrap ((t[0]?.getD 0).toNat : Nat), num8 t.data.toList 1, Hel.zero, IntKind.i64.wrap (((t.extract 9 t.size)[0]?.getD 0).toNat : Nat), (t.extract 9 t.size).extract 1 (t.extract 9 t.size).size⟩ := by
          unfold pktOf
          dsimp only
          rw [if_neg h1, hK2, if_pos (by rw [Bool.true_and, decide_eq_true_eq]; exact h10), hK, hz, wrap_byte, tail_txt (t.extract 9 t.size) 1, tail_txt t 9, txt_data, List.drop_drop]
        have hsz : (0 : Int) < (t.extract 9 t.size).size := by simp; omega
        refine t_lit 3 (t_Y (b := decide (((t.extract 9 t.size).size : Int) > 0)) 0 (decide_eq_true hsz) ?_)
        refine t_ck (p := 0 ≤ (0 : Int) ∧ (0 : Int) < ((t.extract 9 t.size).size : Nat)) ⟨by omega, hsz⟩ (t_ck (p := inB none (t.extract 9 t.size).size ∧ inB (some 1) (atB none (t.extract 9 t.size).size)) ⟨trivial, by show 0 ≤ (1 : Int) ∧ (1 : Int) ≤ ((t.extract 9 t.size).size : Nat); omega⟩ ?_)
        exact pk_end _ _ hp h9 (by kernel_rfl) (by kernel_rfl) (by kernel_rfl) (by intro y; kernel_rfl) (by intro y; kernel_rfl) (by intro y; kernel_rfl)
      · have hp : pktOf t.data.toList = ⟨IntKind.i64.wrap ((t[0]?.getD 0).toNat : Nat), num8 t.data.toList 1, Hel.zero, 0, t.extract 9 t.size⟩ := by
          unfold pktOf
          dsimp only
          rw [if_neg h1, hK2, if_neg (by rw [Bool.true_and, decide_eq_true_eq]; exact h10), tail_txt, hK]
        have hsz : ¬ ((t.extract 9 t.size).size : Int) > 0 := by simp; omega
        exact t_lit 3 (t_N (b := decide (((t.extract 9 t.size).size : Int) > 0)) 0 (decide_eq_false hsz) (pk_end _ _ hp h9 (by kernel_rfl) (by kernel_rfl) (by kernel_rfl) (by intro y; kernel_rfl) (by intro y; kernel_rfl) (by intro y; kernel_rfl)))
theorem rpread_any (s : ByteArray) (g : Int) (w : World) (hs : (s.size : Int) ≤ 3000) : Calls Tryz.prog 7 #[.string s, .int .u64 g] w fun e w' => e = .returned (.tuple #[pktV (readP s g).1, .int .i64 (readP s g).2]) ∧ Below w.heap.size w w' := by
  refine run_v (t_v (fun u _ => rpdecode_any s u hs) ?_)
  unfold readP
  by_cases he : ¬ (decP s).2 = 0
  · rw [if_neg he]
    exact t_Y (b := (decP s).2 != 0) 9 (by simpa using he) (e_r2 (.tuple #[pktV Pkt.zero, .int .i64 (decP s).2]) rfl)
  replace he := Decidable.not_not.1 he
  rw [if_pos he]
  refine t_N (b := (decP s).2 != 0) 0 (by simpa using he) ?_
  by_cases hg : (decP s).1.s = g
  · rw [if_pos hg]
    exact t_N (b := (decP s).1.s != g) 9 (by simpa using hg) (e_r2 (.tuple #[pktV (decP s).1, .int .i64 0]) (by rw [he]))
  · rw [if_neg hg]
    exact t_Y (b := (decP s).1.s != g) 9 (by simpa using hg) (e_r2 (.tuple #[pktV Pkt.zero, .int .i64 16]) rfl)
end Go.Proofs.YtkjikigimmchlaaGreatDoor
namespace Go.Proofs.YtkjikigimmchlaaGreatDoor
open Go.RowKit PX
set_option maxRecDepth 100000
section
variable {N q : Nat} {n : Nod} {a : Adr} {w : World}
structure Meets (x : Hel) : Prop where
  c : x.c ≠ 0
  m : x.m < 4294967296
  n : 1 ≤ x.n ∧ x.n ≤ 32
theorem own_meets (h : NOk N q n) (hu : n.up = true) : Meets n.own := by
  have hr := (h.live hu).br
  unfold Sup.right at hr
  simp only [Bool.and_eq_true, decide_eq_true_eq, Bool.not_eq_true', decide_eq_false_iff_not] at hr
  exact ⟨hr.2, h.m32 hu, hr.1.1, hr.1.2⟩
theorem hel_meets {x : Hel} (hw : x.wide) (hr : x.right = true) : Meets x := by
  unfold Hel.right mrightB at hr
  simp only [Bool.and_eq_true, decide_eq_true_eq, Bool.not_eq_true', decide_eq_false_iff_not] at hr
  exact ⟨hr.1.1, hw.2.2.2.2, hr.1.2.1⟩
theorem xdecide {x y : Hel} (hx : Meets x) (hy : Meets y) (v : World) : Calls Tryz.prog 237 #[helV x, helV y] v fun e v' => e = .returned (verV (decK x y) (decS x y)) ∧ Below v.heap.size v v' := by
  have := rdecide_any x y v
  rw [dec_eq x y hx.c hy.c] at this
  exact this
theorem bits_small {k : Int} {x y : Hel} (hx : x.m < 4294967296) (hy : y.m < 4294967296) : bitsB k x y < 4294967296 := by
  unfold bitsB
  split
  · exact or_lt hx hy
  · split
    · unfold allB
      split
      · next hn =>
        have h1 : 2 ^ x.n.toNat ≤ 2 ^ 32 := Nat.pow_le_pow_right (by decide) (by omega)
        have h2 : (2 : Nat) ^ 32 = 4294967296 := by decide
        have h3 : 0 < 2 ^ x.n.toNat := Nat.pow_pos (by decide)
        omega
      · decide
    · decide
theorem xverdict (h : NOk N q n) (hu : n.up = true) {p : Hel} (hp : Meets p) (v : World) : Calls Tryz.prog 199 #[nodV n a, helV p] v fun e v' => e = .returned (.tuple #[verV (n.verK p) (n.verS p), .int .u32 ((n.verB p : Nat) : Int)]) ∧ Below v.heap.size v v' := by
  have ho := own_meets h hu
  refine run_v (t_v (fun u _ => yown n a u) ?_)
  unfold Nod.verK Nod.verS Nod.verB Nod.verK Nod.first Nod.second
  by_cases hi : n.id = 1
  · simp only [if_pos hi]
    exact t_Y 9 (ieq hi) (t_v (fun u _ => yown n a u) (t_v (fun u _ => xdecide hp ho u) (t_v (fun u _ => rbits_any (decK p n.own) (decS p n.own) p n.own u hp.m ho.m hp.n) e_r)))
  · simp only [if_neg hi]
    exact t_N 9 (ine hi) (t_v (fun u _ => xdecide ho hp u) (t_v (fun u _ => rbits_any (decK n.own p) (decS n.own p) n.own p u ho.m hp.m ho.n) e_r))
theorem ver_small (h : NOk N q n) (hu : n.up = true) {p : Hel} (hp : Meets p) : n.verB p < 4294967296 := by
  have ho := own_meets h hu
  unfold Nod.verB Nod.first Nod.second
  by_cases hi : n.id = 1
  · simp only [if_pos hi]
    exact bits_small hp.m ho.m
  · simp only [if_neg hi]
    exact bits_small ho.m hp.m
theorem xmet (h : NOk N q n) (hq : q ≤ 880) (hu : n.up = true) {p : Hel} (hw : p.wide) (hp : Meets p) (hn : NM w n a) : Calls Tryz.prog 145 #[nodV n a, helV p] w (GivesN (n.met p) w) := by
  refine run (st_nm n a) hn (t_v (fun u _ => xverdict (a := a) h hu hp u) ?_)
  have hb1 := set_r (retired_wide (h.bw hu)) n.pri
  have hJ := fun u (hu' : NM u n a) => rzjoin_any a.A a.B a.k a.m n.t.s n.t.c n.t.f n.t.x n.t.b n.t.m (n.verB p) u hu'.t (h.fit (by omega)) (h.m32 hu) (ver_small h hu hp)
  have hm := h.keep (goes_join (h.live hu) (n.verB p))
  have hbi : Sup.wide { n.t.b with i := true, r := false, b := p.c } := ⟨(h.bw hu).1, hw.1, (h.bw hu).2.2.1, (h.bw hu).2.2.2⟩
  unfold Nod.met
  by_cases h4 : n.verK p = 4
  · rw [if_pos h4]
    exact t_Y 9 (ieq h4) (e_n1 a fun _ h => h)
  rw [if_neg h4]
  refine t_N 0 (ine h4) ?_
  by_cases h1 : n.verK p = 1
  · rw [if_pos h1]
    refine t_Y 9 (ieq h1) ?_
    have hc := fun x (hx : (n.commit { n.t.b.retired with r := n.pri }).2 = x) u (hu' : NM u n a) => xcommit_as (w := u) h (by omega) hb1 hx hu'
    refine t_v (fun u _ => rretire_any n.t.b.c n.t.b.b n.t.b.o n.t.b.p u) ?_
    dsimp only
    cases hk : (n.commit { n.t.b.retired with r := n.pri }).2 with
    | false =>
      rw [if_neg (by decide)]
      exact t_y (hc _ hk) fun a2 => t_lit 9 (e_n0 a2 fun _ h => h.2)
    | true =>
      rw [if_pos rfl]
      exact t_y (hc _ hk) fun a2 => t_lit 9 (e_n0 a2 fun _ h => h.2.like)
  rw [if_neg h1]
  refine t_N 9 (ine h1) (t_s hJ fun A k B m => ?_)
  have hkp := fun x (hx : (n.keep (n.t.join (n.verB p))).2 = x) u (h1 : NM u n a) h2 => keep_as hx A k B m (w := u) h1 h2
  dsimp only
  cases hk : (n.keep (n.t.join (n.verB p))).2 with
  | false =>
    rw [if_neg (by decide)]
    exact t_y (fun u hu' => hkp _ hk u hu'.1 hu'.2) fun a2 => t_lit 9 (e_n0 a2 fun _ h => h.2)
  | true =>
    rw [if_pos rfl]
    have hup : (n.keep (n.t.join (n.verB p))).1.up = true := by rw [keep_up hk]; exact hu
    have hkp2 := hkp _ hk
    clear hkp hk
    generalize (n.keep (n.t.join (n.verB p))).1 = m1 at *
    refine t_y (r := (m1, true)) (fun u hu' => hkp2 u hu'.1 hu'.2) fun a2 => t_lit 1 ?_
    by_cases hS : n.verS p = n.id
    · rw [if_pos hS]
      exact t_Y 9 (ieq hS) (e_n0 a2 fun _ h => h.2.like)
    rw [if_neg hS]
    refine t_N 9 (ine hS) (t_v (fun u _ => rfrom_any n.t.b.c n.t.b.b n.t.b.o n.t.b.p p.c u) ?_)
    have hc := fun x (hx : (m1.commit { n.t.b with i := true, r := false, b := p.c }).2 = x) u (hu' : NM u m1 a2) => xcommit_as (w := u) hm (by omega) hbi hx hu'
    cases hk2 : (m1.commit { n.t.b with i := true, r := false, b := p.c }).2 with
    | false =>
      rw [if_neg (by decide)]
      exact t_y (fun u hu' => hc _ hk2 u hu'.2) fun a3 => t_lit 9 (e_n0 a3 fun _ h => h.2)
    | true =>
      rw [if_pos rfl]
      have h2 := hm.commit hup hbi
      have hu2 : (m1.commit { n.t.b with i := true, r := false, b := p.c }).1.up = true := by rw [commit_up hk2]; exact hup
      have hc2 := hc _ hk2
      clear hc hk2
      generalize (m1.commit { n.t.b with i := true, r := false, b := p.c }).1 = m2 at *
      refine t_y (r := (m2, true)) (fun u hu' => hc2 u hu'.2) fun a3 => t_lit 9 ?_
      have h3 : NOk N (q + 1 + 1) { m2 with st := 4, ppri := p.q, peer := p } := h2.as rfl rfl h2.ses hw rfl rfl
      exact e_t fun u hu' => xseek (w := u) h3 (by omega) hu2 hu'.2.like
theorem xattach (h : NOk N q n) (hq : q ≤ 890) (K : Option Addr) (l : List Bool) (kc : Nat) (hk : Es Value.bool w w.heap.size K l) (hl : l.length ≤ maxLen) (hn : NM w n a) : Calls Tryz.prog 52 #[nodV n a, .slice K l.length kc] w (GivesE (n.attach l) w) := by
  refine run (st_nm n a) hn ?_
  unfold Nod.attach
  by_cases hu : n.up = true
  · rw [if_pos hu]
    exact t_Y 9 hu (e_e a fun u hu => hu)
  rw [if_neg hu]
  obtain ⟨t', hw, hs, hc, hf, he, ha⟩ := kept_again h.fine l
  have e : n.revive l = t'.s := hs.symm
  have hx : attE (n.revive l) [] false = 0 := by rw [e]; exact he
  rw [if_pos hx]
  have hF := h.fit (show q ≤ 900 by omega)
  have hF2 : Fit (n.revive l) [] 0 := by
    have := hw.fine.fit (N := N) (f := 0) (by rw [hc]; exact Nat.zero_le _) (by decide)
    rw [hc, ← e] at this
    exact this
  refine t_N 0 (bfalse hu) (t_call (fun u hu' hb => rrevive_any a.A a.B K a.k a.m kc n.t.s n.t.c l n.t.f n.t.x u hu'.t (hk.up (base_below hb)) hF.l64 (by have := hF.c9; omega) hl hF.mis) ?_)
  rintro u e' u' hu' hb ⟨A, B, k, m, he', h1, h2⟩
  refine ⟨_, _, he', h2, st_mem A k B m (n.revive l) [], h1, ?_⟩
  refine t_s (fun u hu' => by have := rzattach_any A B k m (n.revive l) [] 0 false u hu'.2 hF2; rw [hx] at this; exact this) fun A2 k2 B2 m2 => ?_
  exact t_lit 9 (e_e (m := Nod.fresh n.id true (att (n.revive l) [] 0 false) n.dr n.mi) ⟨A2, k2, B2, m2, a.D, a.p, a.M, a.q⟩ fun u hu' => ⟨hu'.2, hu'.1.1.d, hu'.1.1.dn, hu'.1.1.dt, hu'.1.1.mi, hu'.1.1.mn, hu'.1.1.mt⟩)
theorem read_right {b : ByteArray} {s : Int} (h0 : (readP b s).2 = 0) : (readP b s).1.right = true ∧ (readP b s).1.wide := by
  unfold readP at h0 ⊢
  by_cases he : (decP b).2 = 0
  · rw [if_pos he] at h0 ⊢
    by_cases hs : (decP b).1.s = s
    · rw [if_pos hs]
      exact ⟨(encT_decP he).1, (encT_decP he).2.1⟩
    · rw [if_neg hs] at h0
      exact absurd h0 (by decide)
  · rw [if_neg he] at h0
    exact absurd h0 he
theorem right_kind {p : Pkt} (h : p.right = true) : 1 ≤ p.k ∧ p.k ≤ 13 := by
  unfold Pkt.right at h
  simp only [Bool.and_eq_true, decide_eq_true_eq] at h
  exact h.1
theorem right_block {p : Pkt} (h : p.right = true) : 0 ≤ p.b ∧ p.b ≤ 31 := by
  unfold Pkt.right at h
  simp only [Bool.and_eq_true, decide_eq_true_eq] at h
  exact h.2.2.1.1
theorem right_hel {p : Pkt} (h : p.right = true) (hk : p.k = 1) : p.h.right = true := by
  unfold Pkt.right at h
  rw [if_pos hk] at h
  simp only [Bool.and_eq_true] at h
  exact h.2.1
theorem xreceive (h : NOk N q n) (hq : q ≤ 880) (b : ByteArray) (hb : (b.size : Int) ≤ 3000) (hn : NM w n a) : Calls Tryz.prog 96 #[nodV n a, .string b] w (GivesN (n.receive b) w) := by
  refine run (st_nm n a) hn ?_
  unfold Nod.receive
  by_cases hu : n.up = false
  · rw [if_pos (.inl hu)]
    exact t_N (b := !(!n.up)) 9 (by simp [hu]) (e_n0 a fun _ h => h)
  have hu' : n.up = true := by simpa using hu
  refine t_Y (b := !(!n.up)) 2 (by simp [hu']) ?_
  by_cases hs : n.st = 0
  · rw [if_pos (.inr hs)]
    exact t_Y 9 (ieq hs) (e_n0 a fun _ h => h)
  rw [if_neg (fun g => g.elim hu hs)]
  refine t_N 9 (ine hs) (t_v (fun u _ => rpread_any b n.ses u hb) ?_)
  by_cases h16 : (readP b n.ses).2 = 16
  · rw [if_pos h16]
    exact t_Y 9 (ieq h16) (e_n0 a fun _ h => h)
  rw [if_neg h16]
  refine t_N 0 (ine h16) ?_
  by_cases h0 : (readP b n.ses).2 = 0
  · obtain ⟨hr, hw⟩ := read_right h0
    refine t_Y (b := !((readP b n.ses).2 != 0)) 2 (by simp [h0]) ?_
    generalize (readP b n.ses).1 = p at *
    have hk := right_kind hr
    have hbl := right_block hr
    have hF := fun u (_ : NM u n a) => xfits (a := a) hu' p hk u
    cases hf : n.fits p with
    | false =>
      rw [hf] at hF
      rw [if_pos (.inr rfl)]
      exact t_v hF (t_lit 9 (e_n1 a fun _ h => h))
    | true =>
      rw [hf] at hF
      rw [if_neg (fun g => g.elim (fun g => g h0) fun g => by cases g)]
      refine t_v hF (t_lit 60 ?_)
      obtain ⟨k, s2, hl, b2, d⟩ := p
      have h13 : k = 1 ∨ k = 2 ∨ k = 3 ∨ k = 4 ∨ k = 5 ∨ k = 6 ∨ k = 7 ∨ k = 8 ∨ k = 9 ∨ k = 10 ∨ k = 11 ∨ k = 12 ∨ k = 13 := by dsimp only at hk; omega
      rcases h13 with rfl | rfl | rfl | rfl | rfl | rfl | rfl | rfl | rfl | rfl | rfl | rfl | rfl
      · exact e_t fun u hu2 => xmet (w := u) h hq hu' hw.2 (hel_meets hw.2 (right_hel hr rfl)) hu2
      · exact e_t fun u hu2 => xapply (w := u) h (by omega) hu' b2 d hu2
      · exact e_t fun u hu2 => xacked (w := u) h (by omega) hu' b2 hu2
      · exact e_t fun u hu2 => xcleaned (w := u) h (by omega) hu' b2 hu2
      · exact e_t fun u hu2 => xgive (w := u) h (by omega) b2 hu2
      · exact e_t fun u hu2 => xgot (w := u) h hq hu' b2 d hbl.1 (by have := hbl.2; dsimp only at this; omega) hu2
      · exact e_t fun u hu2 => xcopied (w := u) h (by omega) hu' b2 hu2
      · exact e_t fun u hu2 => xended (w := u) h (by omega) hu' hu2
      · exact t_a (fun u hu2 => xdone (w := u) hu2) fun a2 => e_n0 a2 fun u hu2 => hu2.2
      · exact e_t fun u hu2 => xroles (w := u) h (by omega) hu' 10 (by decide) hu2
      · exact e_t fun u hu2 => xroles (w := u) h (by omega) hu' 11 (by decide) hu2
      · exact e_t fun u hu2 => xroles (w := u) h (by omega) hu' 12 (by decide) hu2
      · exact e_t fun u hu2 => xroles (w := u) h (by omega) hu' 13 (by decide) hu2
  · rw [if_pos (.inl h0)]
    refine t_N (b := !((readP b n.ses).2 != 0)) 9 (by simpa using h0) (e_n1 a fun _ h => h)
end
end Go.Proofs.YtkjikigimmchlaaGreatDoor
namespace Go.Proofs.YtkjikigimmchlaaGreatDoor
open Go.RowKit PX
set_option maxRecDepth 100000
section
variable {N q : Nat} {n : Nod} {a : Adr} {w : World}
theorem st_lk (l : Lnk) (A : Option Addr) (k : Nat) (B : Option Addr) (m : Nat) : Stab tyL fun u => Lk u l A k B m := fun _ _ e h => ⟨h.ea.ext h.ta e rfl, h.eb.ext h.tb e rfl, h.na, h.nb, h.la, h.lb, h.ta.ext e rfl, h.tb.ext e rfl⟩
theorem CM.ext {w w' : World} {c : Clu} {x : CAd} (h : CM w c x) (e : Ext tyL w w') : CM w' c x := ⟨h.a.ext e, h.b.ext e, st_lk _ _ _ _ _ _ _ e h.l⟩
theorem st_cm (c : Clu) (x : CAd) : Stab tyL fun u => CM u c x := fun _ _ e h => h.ext e
theorem t_ix {rows : List Nat} {F : Value → S → World → Prop} {K : World → Prop} {t : Tree} (i : Int) (h : OK ⟨Tryz.prog, tyL, w, [], rows⟩ F t.nx K) (hi : 0 ≤ i ∧ i < 2 := by decide) (hd : t.hd = .ck (0 ≤ i ∧ i < (2 : Nat)) := by kernel_rfl) : OK ⟨Tryz.prog, tyL, w, [], rows⟩ F t K := t_ck (p := 0 ≤ i ∧ i < (2 : Nat)) hi h hd
theorem lk_nil (w : World) (u : Bool) (s : Int) : Lk w ⟨u, s, [], []⟩ none 0 none 0 := ⟨es_nil _ _ _ _, es_nil _ _ _ _, fun _ => rfl, fun _ => rfl, Nat.le_refl _, Nat.le_refl _, ty_none _ _, ty_none _ _⟩
theorem loses_d0 (c : Clu) (l : List Ou) (h : ¬ c.a.up = true) : c.loses 0 l = (c, l) := by simp [Clu.loses, Clu.nd, h]
theorem loses_s0 (c : Clu) (l : List Ou) (h : c.a.up = true) (g : c.a.lose.1.up = true) : c.loses 0 l = ({ c with a := c.a.lose.1 }, l ++ c.a.lose.2) := by simp [Clu.loses, Clu.nd, Clu.setN, h, g]
theorem loses_g0 (c : Clu) (l : List Ou) (h : c.a.up = true) (g : ¬ c.a.lose.1.up = true) : c.loses 0 l = ({ c with a := c.a.lose.1, wa := false }, l ++ c.a.lose.2) := by simp [Clu.loses, Clu.nd, Clu.setN, Clu.setW, h, g]
theorem loses_d1 (c : Clu) (l : List Ou) (h : ¬ c.b.up = true) : c.loses 1 l = (c, l) := by simp [Clu.loses, Clu.nd, h]
theorem loses_s1 (c : Clu) (l : List Ou) (h : c.b.up = true) (g : c.b.lose.1.up = true) : c.loses 1 l = ({ c with b := c.b.lose.1 }, l ++ c.b.lose.2) := by simp [Clu.loses, Clu.nd, Clu.setN, h, g]
theorem loses_g1 (c : Clu) (l : List Ou) (h : c.b.up = true) (g : ¬ c.b.lose.1.up = true) : c.loses 1 l = ({ c with b := c.b.lose.1, wb := false }, l ++ c.b.lose.2) := by simp [Clu.loses, Clu.nd, Clu.setN, Clu.setW, h, g]
theorem e_R {wB : World} {v0 v : Value} {r : Clu × List Ou} {K : World → Prop} {t : Tree} (x : CAd) (h : ∀ u, K u → CM u r.1 x ∧ Rw wB v r.2 u) (hv : ∀ j, v.ownBlock = some j → w.heap.size ≤ j ∨ v0.ownBlock = some j) (hd : t.hd = .ret (.tuple #[cluV r.1 x, v]) := by kernel_rfl) : OK ⟨Tryz.prog, tyL, w, [], v0.ownBlock.toList⟩ (fun y _ u => GivesR wB v0 r w (.returned y) u) t K :=
  t_ret _ (fun u hu hb _ => by
    obtain ⟨h1, h2⟩ := h u hu
    exact ⟨x, v, rfl, h1, h2, ⟨hb.1, hb.2.1, hb.2.2.1, hb.2.2.2.1, fun i hi hn => hb.2.2.2.2 i hi (by simpa [eq_comm] using hn)⟩, hv⟩) hd
theorem xend {wB : World} (hB : wB.heap.size ≤ w.heap.size) (c : Clu) (x : CAd) (v : Value) (l0 : List Ou) (hc : CM w c x) (hr : Rw wB v l0 w) (hl : l0.length ≤ 100000)
    (hA : c.a.up = true → c.a.lose.2.length ≤ 1000 ∧ ∀ u a', NM u c.a a' → Calls Tryz.prog 143 #[nodV c.a a'] u (GivesN c.a.lose u))
    (hZ : c.b.up = true → c.b.lose.2.length ≤ 1000 ∧ ∀ u a', NM u c.b a' → Calls Tryz.prog 143 #[nodV c.b a'] u (GivesN c.b.lose u)) :
    Calls Tryz.prog 94 #[cluV c x, v] w (GivesR wB v (c.ends l0) w) := by
  refine run_ok (ap := tyL) (U := 4) (rows := v.ownBlock.toList) (K := fun u => CM u c x ∧ Rw wB v l0 u) rfl ((st_cm c x).and (st_rw _ _ _)) ⟨hc, hr⟩ ?_
  refine t_v (fun u _ => rkclose_any c.l.u c.l.s c.l.a c.l.b x.A x.B x.n x.m u) ?_
  unfold Clu.ends
  dsimp only
  refine t_lit 1 (t_ix 0 ?_)
  by_cases ha : c.a.up = true
  · have hp := (hA ha).1
    refine t_N (b := !c.a.up) 0 (by simp [ha]) (t_ix 0 (t_n (fun u hu => (hA ha).2 u x.a hu.1.a) fun a1 O1 k1 => t_ix 0 ?_))
    refine t_aor (l0 := l0) (l := c.a.lose.2) hB (fun u _ g e => .inr (by simp [e])) (fun u => NM u c.a.lose.1 a1 ∧ NM u c.b x.b) ((st_nm _ _).and (st_nm _ _)) (fun u hu => ⟨hu.1.2, hu.2.2.1⟩) (fun u u' hu hr hg => ⟨hr.nm hg hu.2.1, hr.nm hg hu.1.1.b⟩) (by omega) fun v1 hv1 => ?_
    have ow1 : ∀ g, v1.ownBlock = some g → w.heap.size ≤ g ∨ v.ownBlock = some g := fun g e => hv1.elim (fun h => .inr (h ▸ e)) (fun h => .inl (h g e))
    by_cases hs : c.a.lose.1.up = true
    · rw [loses_s0 { c with l := c.l.closed } l0 ha hs]
      dsimp only
      refine t_N (b := !c.a.lose.1.up) 1 (by simp [hs]) ?_
      refine t_ix (IntKind.i64.wrap (0 + 1)) ?_
      by_cases hb : c.b.up = true
      · have hq := (hZ hb).1
        refine t_N (b := !c.b.up) 0 (by simp [hb]) (t_ix (IntKind.i64.wrap (0 + 1)) (t_n (fun u hu => (hZ hb).2 u x.b (hu.1.2)) fun a2 O2 k2 => t_ix (IntKind.i64.wrap (0 + 1)) ?_))
        refine t_aor (l0 := (l0 ++ c.a.lose.2)) (l := c.b.lose.2) hB (fun u _ g e => (ow1 g e).imp id fun e => by simp [e]) (fun u => NM u (c.a.lose.1) (a1) ∧ NM u c.b.lose.1 a2) ((st_nm _ _).and (st_nm _ _)) (fun u hu => ⟨hu.1.2, hu.2.2.1⟩) (fun u u' hu hr hg => ⟨hr.nm hg (hu.1.1.1), hr.nm hg hu.2.1⟩) (by simp only [List.length_append]; omega) fun v2 hv2 => ?_
        have ow : ∀ g, v2.ownBlock = some g → w.heap.size ≤ g ∨ v.ownBlock = some g := fun g e => hv2.elim (fun h => ow1 g (h ▸ e)) (fun h => .inl (h g e))
        by_cases hg : c.b.lose.1.up = true
        · rw [loses_s1 (⟨c.a.lose.1, c.b, c.l.closed, c.wa, c.wb⟩ : Clu) _ hb hg]
          exact t_N (b := !c.b.lose.1.up) 9 (by simp [hg]) (e_R ⟨a1, a2, none, 0, none, 0⟩ (fun u hu => ⟨⟨hu.1.1, hu.1.2, lk_nil _ _ _⟩, hu.2⟩) ow)
        · rw [loses_g1 (⟨c.a.lose.1, c.b, c.l.closed, c.wa, c.wb⟩ : Clu) _ hb hg]
          exact t_Y (b := !c.b.lose.1.up) 9 (by simp [hg]) (t_ix (IntKind.i64.wrap (0 + 1)) (t_lit 9 (e_R ⟨a1, a2, none, 0, none, 0⟩ (fun u hu => ⟨⟨hu.1.1, hu.1.2, lk_nil _ _ _⟩, hu.2⟩) ow)))
      · rw [loses_d1 (⟨c.a.lose.1, c.b, c.l.closed, c.wa, c.wb⟩ : Clu) _ hb]
        exact t_Y (b := !c.b.up) 9 (by simp [hb]) (e_R ⟨a1, x.b, none, 0, none, 0⟩ (fun u hu => ⟨⟨hu.1.1, hu.1.2, lk_nil _ _ _⟩, hu.2⟩) (ow1))
    · rw [loses_g0 { c with l := c.l.closed } l0 ha hs]
      dsimp only
      refine t_Y (b := !c.a.lose.1.up) 0 (by simp [hs]) (t_ix 0 (t_lit 1 ?_))
      refine t_ix (IntKind.i64.wrap (0 + 1)) ?_
      by_cases hb : c.b.up = true
      · have hq := (hZ hb).1
        refine t_N (b := !c.b.up) 0 (by simp [hb]) (t_ix (IntKind.i64.wrap (0 + 1)) (t_n (fun u hu => (hZ hb).2 u x.b (hu.1.2)) fun a2 O2 k2 => t_ix (IntKind.i64.wrap (0 + 1)) ?_))
        refine t_aor (l0 := (l0 ++ c.a.lose.2)) (l := c.b.lose.2) hB (fun u _ g e => (ow1 g e).imp id fun e => by simp [e]) (fun u => NM u (c.a.lose.1) (a1) ∧ NM u c.b.lose.1 a2) ((st_nm _ _).and (st_nm _ _)) (fun u hu => ⟨hu.1.2, hu.2.2.1⟩) (fun u u' hu hr hg => ⟨hr.nm hg (hu.1.1.1), hr.nm hg hu.2.1⟩) (by simp only [List.length_append]; omega) fun v2 hv2 => ?_
        have ow : ∀ g, v2.ownBlock = some g → w.heap.size ≤ g ∨ v.ownBlock = some g := fun g e => hv2.elim (fun h => ow1 g (h ▸ e)) (fun h => .inl (h g e))
        by_cases hg : c.b.lose.1.up = true
        · rw [loses_s1 (⟨c.a.lose.1, c.b, c.l.closed, false, c.wb⟩ : Clu) _ hb hg]
          exact t_N (b := !c.b.lose.1.up) 9 (by simp [hg]) (e_R ⟨a1, a2, none, 0, none, 0⟩ (fun u hu => ⟨⟨hu.1.1, hu.1.2, lk_nil _ _ _⟩, hu.2⟩) ow)
        · rw [loses_g1 (⟨c.a.lose.1, c.b, c.l.closed, false, c.wb⟩ : Clu) _ hb hg]
          exact t_Y (b := !c.b.lose.1.up) 9 (by simp [hg]) (t_ix (IntKind.i64.wrap (0 + 1)) (t_lit 9 (e_R ⟨a1, a2, none, 0, none, 0⟩ (fun u hu => ⟨⟨hu.1.1, hu.1.2, lk_nil _ _ _⟩, hu.2⟩) ow)))
      · rw [loses_d1 (⟨c.a.lose.1, c.b, c.l.closed, false, c.wb⟩ : Clu) _ hb]
        exact t_Y (b := !c.b.up) 9 (by simp [hb]) (e_R ⟨a1, x.b, none, 0, none, 0⟩ (fun u hu => ⟨⟨hu.1.1, hu.1.2, lk_nil _ _ _⟩, hu.2⟩) (ow1))
  · rw [loses_d0 { c with l := c.l.closed } l0 ha]
    dsimp only
    refine t_Y (b := !c.a.up) 1 (by simp [ha]) ?_
    refine t_ix (IntKind.i64.wrap (0 + 1)) ?_
    by_cases hb : c.b.up = true
    · have hq := (hZ hb).1
      refine t_N (b := !c.b.up) 0 (by simp [hb]) (t_ix (IntKind.i64.wrap (0 + 1)) (t_n (fun u hu => (hZ hb).2 u x.b (hu.1.b)) fun a2 O2 k2 => t_ix (IntKind.i64.wrap (0 + 1)) ?_))
      refine t_aor (l0 := l0) (l := c.b.lose.2) hB (fun u _ g e => (.inr e : w.heap.size ≤ g ∨ v.ownBlock = some g).imp id fun e => by simp [e]) (fun u => NM u (c.a) (x.a) ∧ NM u c.b.lose.1 a2) ((st_nm _ _).and (st_nm _ _)) (fun u hu => ⟨hu.1.2, hu.2.2.1⟩) (fun u u' hu hr hg => ⟨hr.nm hg (hu.1.1.a), hr.nm hg hu.2.1⟩) (by omega) fun v2 hv2 => ?_
      have ow : ∀ g, v2.ownBlock = some g → w.heap.size ≤ g ∨ v.ownBlock = some g := fun g e => hv2.elim (fun h => .inr (h ▸ e)) (fun h => .inl (h g e))
      by_cases hg : c.b.lose.1.up = true
      · rw [loses_s1 (⟨c.a, c.b, c.l.closed, c.wa, c.wb⟩ : Clu) _ hb hg]
        exact t_N (b := !c.b.lose.1.up) 9 (by simp [hg]) (e_R ⟨x.a, a2, none, 0, none, 0⟩ (fun u hu => ⟨⟨hu.1.1, hu.1.2, lk_nil _ _ _⟩, hu.2⟩) ow)
      · rw [loses_g1 (⟨c.a, c.b, c.l.closed, c.wa, c.wb⟩ : Clu) _ hb hg]
        exact t_Y (b := !c.b.lose.1.up) 9 (by simp [hg]) (t_ix (IntKind.i64.wrap (0 + 1)) (t_lit 9 (e_R ⟨x.a, a2, none, 0, none, 0⟩ (fun u hu => ⟨⟨hu.1.1, hu.1.2, lk_nil _ _ _⟩, hu.2⟩) ow)))
    · rw [loses_d1 (⟨c.a, c.b, c.l.closed, c.wa, c.wb⟩ : Clu) _ hb]
      exact t_Y (b := !c.b.up) 9 (by simp [hb]) (e_R ⟨x.a, x.b, none, 0, none, 0⟩ (fun u hu => ⟨⟨hu.1.a, hu.1.b, lk_nil _ _ _⟩, hu.2⟩) (fun g e => .inr e))
end
end Go.Proofs.YtkjikigimmchlaaGreatDoor
