/- A target that gets, the law carried out. -/
import Derived.Test.YtabenngcmpjlhaaGreatDoorKM
import Derived.Test.YtabenngcmpjlhaaGreatDoorYL
namespace Go.Proofs.YtabenngcmpjlhaaGreatDoor
open Go.RowKit
set_option maxRecDepth 100000 in
set_option maxHeartbeats 1000000 in
theorem tlist_any (m : Nat) (w : World) : Calls Tryz.prog 27 #[.int .u32 m] w fun e w' => ∃ v, e = .returned v ∧ w'.ownsRow w.heap.size 3 1 v (bl 32 m).length ((bl 32 m).map (Value.int .i64)) ∧ Below w.heap.size w w' := by
  obtain ⟨i0, hi, hz0, hz1, hz2⟩ := info_parts info3
  go_enter Tryz.func27, Tryz.ntmps27
  go_wp2
  go_loopw [3, 4] (fun v i wr => ∃ k : Nat, k ≤ 32 ∧ i = .int .i64 k ∧ wr.ownsRow w.heap.size 3 1 v (bl k m).length ((bl k m).map (Value.int .i64)) ∧ Below w.heap.size w wr) (fun _ i _ => 32 - (intOf i).toNat)
  case atStart => exact ⟨0, by omega, rfl, World.ownsRow_nil _ _ _ _, Below.refl _ _⟩
  case round =>
    obtain ⟨k, hk, rfl, hown, hbel⟩ := hrel
    by_cases hlt : k < 32
    · have hh := fun w => rhas_any m k w
      rw [hasB_bit m k hlt] at hh
      have hs := bl_succ k m
      have hle := bl_length_le k m
      generalize bl k m = l at *
      have HO := Lib.hid hown; clear hown
      have HB := Lib.hid hbel; clear hbel
      cases hx : m.testBit k with
      | false =>
        rw [hx] at hs
        have hs2 : bl (k + 1) m = l := by rw [hs]; simp
        have HS := Lib.hid hs2; clear hs hs2
        go_wp2_with fail
        refine (hh _).mono ?_
        rintro e w1 ⟨rfl, rfl⟩
        rw [hx]
        go_wp2_with fail
        go_roundw
        case rel => exact ⟨k + 1, by omega, by go_num, by rw [HS.out]; exact HO.out, HB.out⟩
        case measure => simp [intOf]; omega
      | true =>
        rw [hx] at hs
        have hs2 : bl (k + 1) m = l ++ [(k : Int)] := by rw [hs]; simp
        have HS := Lib.hid hs2; clear hs hs2
        go_wp2_with fail
        refine (hh _).mono ?_
        rintro e w1 ⟨rfl, rfl⟩
        rw [hx]
        go_wp2_with (at_builtin; refine wpList_append_own _ rfl _ _ 59 rfl w.heap.size 3 i0 (.int .i64 0) 1 8 Tryz.underlying59 hi hz0 hz1 hz2 rfl (by decide) _ _ _ rfl (HO.out.alloc _) ⟨w1.heap.size, 0, none⟩ 1 1 [.int .i64 (k : Int)] rfl rfl ?c1 ?c2 ?c3 ?c4 ?c5 ?_)
        case c1 => exact cell_new1 w1 _ 3
        case c2 => intro u hu; simp at hu; subst hu; rfl
        case c3 => unfold maxLen; omega
        case c4 => omega
        case c5 => simp; have := HB.out.size; omega
        intro v' w2 hown' hgrow _
        have hb' := (HB.out.alloc HB.out.size (.cells #[.int .i64 (k : Int)] 3)).grown hgrow (by simp; have := HB.out.size; omega) (own_low HO.out)
        rw [← List.map_singleton (f := Value.int .i64), ← List.map_append, ← HS.out, show l.length + 1 = (bl (k + 1) m).length from by rw [HS.out]; simp] at hown'
        have HO' := Lib.hid hown'; clear hown'
        have HB' := Lib.hid hb'; clear hb'
        clear hgrow
        go_wp2
        go_roundw
        case rel => exact ⟨k + 1, by omega, by go_num, HO'.out, HB'.out⟩
        case measure => simp [intOf]; omega
    · obtain rfl : k = 32 := by omega
      have HO := Lib.hid hown; clear hown
      have HB := Lib.hid hbel; clear hbel
      go_wp2
      go_ret
      exact ⟨_, rfl, HO.out, HB.out⟩
end Go.Proofs.YtabenngcmpjlhaaGreatDoor
namespace Go.Proofs.YtabenngcmpjlhaaGreatDoor
open Go.RowKit PX
set_option maxRecDepth 100000
section
variable {w : World}
theorem nx_bound {N : Nat} {t : Sto} (h : Whole N t) {j : Nat} (hb : t.m.testBit j = true) : j < N := by
  have := h.mr
  unfold mrightB at this
  simp only [Bool.and_eq_true, decide_eq_true_eq] at this
  have h2 := this.2
  rw [Int.toNat_natCast] at h2
  have := Nat.ge_two_pow_of_testBit hb
  have h3 : 2 ^ j < 2 ^ N := by
    have hp : 0 < 2 ^ N := Nat.two_pow_pos N
    omega
  exact (Nat.pow_lt_pow_iff_right (a := 2) (by decide)).1 h3
theorem own_shape {u : World} {B n : Nat} {e : TypeId} {v : Value} {xs : List Value} (h : u.ownsRow B e 1 v n xs) : ∃ A c, v = .slice A n c ∧ (n = 0 ∨ ∃ ad, A = some ad) := by
  obtain ⟨_, h2⟩ := h
  rcases h2 with ⟨rfl, e⟩ | ⟨g, cap, cur, rfl, _⟩
  · exact ⟨none, 0, by rw [e], .inl e⟩
  · exact ⟨_, _, rfl, .inr ⟨_, rfl⟩⟩
structure Rb (bs : List Int) where
  i : Int
  j : Nat
  hi : i = j
  hj : j ≤ bs.length
def rbC (t : Sto) (A : Option Addr) (k : Nat) (B : Option Addr) (m : Nat) : List Value := [.slice A t.s.length k, .slice B t.c.length m, .int .i64 t.f, .bool t.x, .int .i64 t.b.n, .int .u64 t.b.c, .int .u64 t.b.b, .int .u64 t.b.o, .int .u64 t.b.p, .bool t.b.i, .bool t.b.r, .bool t.b.d, .int .u32 (t.m : Nat)]
def rbL {bs : List Int} (LA : Option Addr) (lc : Nat) (y : Rb bs) : List (Nat × AV) := [(8, .v (.slice LA bs.length lc)), (11, .lp 127 0), (13, .v (.int .i64 y.i))]
def rbB {bs : List Int} (t : Sto) (A : Option Addr) (k : Nat) (B : Option Addr) (m : Nat) (_ : Rb bs) : List (Nat × Blk) := [(127, (39, rbC t A k B m))]
structure Rn (N m0 c0 : Nat) where
  i : Int
  k : Nat
  n : Nod
  a : Adr
  hi : i = k
  hk : k ≤ c0 + 1
  h : Gets N m0 c0 yy k n ∨ Got c0 k n ∨ Fell N m0 yy n
def rnL {N m0 c0 : Nat} (kp : Bool) (LA : Option Addr) (bs : List Int) (lc : Nat) (y : Rn N m0 c0) : List (Nat × AV) := [(2, .v (.bool kp)), (7, .lp 9 0), (8, .v (.slice LA bs.length lc)), (9, .v (.int .i64 y.i)), (10, .v (.int .i64 y.i))]
def rnB {N m0 c0 : Nat} (y : Rn N m0 c0) : List (Nat × Blk) := [(9, (47, nodC y.n y.a))]
def rnK {N m0 c0 : Nat} (B0 : Nat) (LA : Option Addr) (bs : List Int) (lc : Nat) (y : Rn N m0 c0) (u : World) : Prop := NM u y.n y.a ∧ u.ownsRow B0 3 1 (.slice LA bs.length lc) bs.length (bs.map (Value.int .i64))
set_option maxHeartbeats 4000000 in
theorem ends_law (b : Int) (A : Option Addr) (kl : Nat) (l : List Evt) (s : Bool) (fz : Int) (kp : Bool) (w : World) (hc : Cas w b A l) (hf0 : 0 ≤ fz) (hf1 : fz < 256) (hT : Tab w) : Calls Tryz.prog 5 #[.agg #[.int .u8 b, .slice A l.length kl, .bool s], .int .u8 fz, .bool kp] w fun e w' => e = .returned (.bool true) ∧ Below w.heap.size w w' := by
  refine run_v ?_
  have hTu : ∀ u, Below w.heap.size w u → Tab u := fun u hb => hT.below hb hT.size
  refine t_vb (args := #[]) (fun u _ hb => alive18_any (hTu u hb)) (t_lit 9 ?_)
  refine t_vb (args := #[.slice A l.length kl, .int .i64 60]) (v := .bool (greatEv l)) (fun u _ hb => xgreat A kl 60 (hc.he.up hb) (by decide)) ?_
  cases hgr : greatEv l with
  | true => exact t_lit 9 (e_r2 (.bool true) rfl)
  | false =>
  have hk := case_ok hc hgr s
  have hs := case_sok b l s
  have hps := case_ps hc s
  have hx := xcase18 kl s hc hgr
  have hN := (blks_le b).2
  generalize blks b = N at *
  generalize caseN b l s = n at *
  refine t_lit 9 (t_call (args := #[.agg #[.int .u8 b, .slice A l.length kl, .bool s]]) (fun u _ hb => hx u (base_below hb)) ?_)
  rintro u e u' _ _ ⟨a, rfl, hn, hb⟩
  refine ⟨_, fun u => NM u n a, rfl, hb, st_nm _ _, hn, ?_⟩
  by_cases h4 : n.st = 4
  rotate_left
  · exact t_N (b := !(n.st != 4)) 30 (by simpa using h4) (e_r2 (.bool true) rfl)
  refine t_Y (b := !(n.st != 4)) 1 (by simpa using h4) ?_
  by_cases hi : n.t.b.i = true
  rotate_left
  · exact t_lit 3 (t_Y (b := !n.t.b.i) 30 (by simpa using hi) (e_r2 (.bool true) rfl))
  refine t_lit 3 (t_N (b := !n.t.b.i) 0 (by simpa using hi) ?_)
  have hu := st_up hs (by rw [h4]; decide)
  refine t_call (args := #[.int .u32 n.t.m]) (fun u _ hb => tlist_any n.t.m u) ?_
  rintro u e u' _ _ ⟨v, rfl, ho, hbl⟩
  obtain ⟨LA, lc, rfl, hLA⟩ := own_shape ho
  refine ⟨_, fun y => y.ownsRow u.heap.size 3 1 (.slice LA (bl 32 n.t.m).length lc) (bl 32 n.t.m).length ((bl 32 n.t.m).map (Value.int .i64)), rfl, hbl, fun _ _ x q => ownsRow.ext q x rfl, ho, ?_⟩
  generalize hbl0 : bl 32 n.t.m = bs at *
  have hwz : IntKind.i64.wrap fz = fz := wrap_i64 (by omega) (by omega)
  refine t_v (args := #[.agg #[.slice a.A n.t.s.length a.k, .slice a.B n.t.c.length a.m, .int .i64 n.t.f, .bool n.t.x], .int .i64 (IntKind.i64.wrap fz)]) (v := .agg #[.slice a.A n.t.s.length a.k, .slice a.B n.t.c.length a.m, .int .i64 fz, .bool n.t.x]) (fun u _ => (rarm_any a.A a.B n.t.s.length a.k n.t.c.length a.m n.t.f (IntKind.i64.wrap fz) n.t.x u).mono (by rintro e w' ⟨h1, h2⟩; exact ⟨h1.trans (by rw [hwz, if_neg (by omega)]), h2⟩)) ?_
  have hw0 := hk.live hu
  have hids : Sane n.id n := by
    have := hps.2
    rw [this.id]
    exact this
  have hka : NOk N 300 { n with t := { n.t with f := fz } } := ⟨hk.fine, hk.len, hf0, (by show fz ≤ 1000; omega), fun hu => whole_arm (hk.live hu) hf0, hk.ses, hk.peer, hk.dr, hk.mi, hk.dl, hk.ml⟩
  have hg0 : Gets N n.t.m (cntB n.t.m (n.want - 1).toNat) yy 0 { n with t := { n.t with f := fz } } := ⟨hka, hu, h4, hi, ⟨(hps.1 hu).c1, (hps.1 hu).s1⟩, hids.as, fun j _ hb => .inl hb, by rw [Nat.zero_add]⟩
  have hc32 := cntB_le n.t.m (n.want - 1).toNat
  have hblen : bs.length ≤ cntB n.t.m (n.want - 1).toNat + 1 := by rw [← hbl0, cnt_bl]; exact cnt_le _ _
  have hbm : ∀ x ∈ bs, ∃ j : Nat, x = (j : Int) ∧ j < N ∧ n.t.m.testBit j = true := fun x hx => by
    rw [← hbl0] at hx
    unfold bl at hx
    obtain ⟨j, hj, rfl⟩ := List.mem_map.1 hx
    rw [List.mem_filter] at hj
    have := nx_bound hw0 hj.2
    exact ⟨j, rfl, this, hj.2⟩
  generalize cntB n.t.m (n.want - 1).toNat = c0 at *
  generalize hB0 : u.heap.size = B0 at *
  generalize n.t.m = m0 at *
  refine t_loop rfl (⟨0, 0, { n with t := { n.t with f := fz } }, a, rfl, Nat.zero_le _, .inl hg0⟩ : Rn N m0 c0) (rnL kp LA bs lc) rnB 100 (rnK B0 LA bs lc) (fun y => 100 - y.k) (fun y => (st_nm _ _).and fun _ _ x q => ownsRow.ext q x rfl) (fun u hu _ => ⟨⟨hu.1.2.t, hu.1.2.d, hu.1.2.dn, hu.1.2.dt, hu.1.2.mi, hu.1.2.mn, hu.1.2.mt⟩, hu.2⟩) ?_
  rintro ⟨i, k, n2, a2, rfl, hk2, h2⟩ fx
  refine t_Y (b := decide ((k : Int) < 40)) 0 (by simp; omega) ?_
  rcases h2 with h2 | h2 | h2
  · have hcn := h2.cnt
    obtain ⟨w1, w2⟩ := h2.want
    have hbn := (h2.ok.live h2.up).bn
    have hwr : IntKind.i64.wrap (n2.want - 1) = n2.want - 1 := wrap_i64 (by omega) (by omega)
    have hw1 : IntKind.i64.wrap ((k : Int) + 1) = ((k + 1 : Nat) : Int) := by rw [wrap_i64 (by omega) (by omega)]; push_cast; rfl
    refine t_lit 1 (t_Y (b := n2.up) 3 h2.up (t_Y (b := n2.t.b.i) 0 h2.inc (t_Y (b := !(decide (n2.want < 1))) 6 (by simp; omega) (t_N (b := decide (n2.t.b.n < n2.want)) 0 (by simp; omega) ?_))))
    refine t_nB (r := n2.got (n2.want - 1) yy) (args := #[nodV n2 a2, .int .i64 (IntKind.i64.wrap (n2.want - 1)), .string yy]) (fun u hu' hb => by rw [hwr]; exact wGot h2.ok (by omega) h2.up (n2.want - 1) (by omega) (by omega) yy (hTu u hb) hu'.1) fun a3 O3 c3 => ?_
    exact t_end (rnL kp LA bs lc) rnB (rnK B0 LA bs lc) (fun y => 100 - y.k) (⟨k, k, n2, a2, rfl, hk2, .inl h2⟩ : Rn N m0 c0) (⟨IntKind.i64.wrap ((k : Int) + 1), k + 1, (n2.got (n2.want - 1) yy).1, a3, hw1, by omega, gets_step (by omega) h2⟩ : Rn N m0 c0) (by show 100 - (k + 1) < 100 - k; omega) fun u hu _ => ⟨hu.2.1, hu.1.2⟩
  · have hkk := h2.k
    refine t_lit 1 (t_Y (b := n2.up) 3 h2.up (t_N (b := n2.t.b.i) 0 h2.inc (t_Y (b := n2.up) 0 h2.up (t_Y (b := !n2.t.b.i) 3 (by rw [h2.inc]; rfl) (t_Y (b := decide ((n2.t.m : Int) = 0)) 2 (by rw [h2.m]; rfl) (t_Y (b := decide (n2.want = 0)) 0 (by simpa using h2.want) ?_))))))
    exact t_lit 9 (e_r2 (.bool (decide ((bs.length : Int) ≤ (k : Int)))) (by simp; omega))
  · have hu2 := h2.up
    refine t_lit 1 (t_N (b := n2.up) 4 hu2 (t_N (b := n2.up) 0 hu2 ?_))
    refine t_fresh 4 ([kp, kp, kp, kp].map Value.bool) (fun r2 hr2 => ?_)
    have hmis := h2.fine.misfit
    refine t_call (args := #[.agg #[.slice a2.A n2.t.s.length a2.k, .slice a2.B n2.t.c.length a2.m, .int .i64 n2.t.f, .bool n2.t.x], .slice (some ⟨r2, 0, none⟩) 4 4]) (fun u hu _ => rrevive_any a2.A a2.B (some ⟨r2, 0, none⟩) a2.k a2.m 4 n2.t.s n2.t.c [kp, kp, kp, kp] n2.t.f n2.t.x u hu.1.1.t (es_box (enc := Value.bool) _ hu.2) (by have := h2.fine.len; omega) (by have := h2.len; omega) (by simp [maxLen]) hmis) ?_
    rintro u e u' hu' _ ⟨A2, B2, m2, m3, rfl, h5, hb2⟩
    refine ⟨_, _, rfl, hb2, st_mem _ _ _ _ _ _, h5, ?_⟩
    obtain ⟨t', hw, hs', hc', hf', he', ha'⟩ := kept_again h2.fine [kp, kp, kp, kp]
    have hMt := h2.half [kp, kp, kp, kp] t' hw hs' hc'
    rw [← hs'] at h5 ⊢
    have hfit2 : Fit t'.s [] 0 := by
      have := hw.fine.fit (f := 0) (by rw [hc']; exact Nat.zero_le _) (by decide)
      rw [hc'] at this
      exact this
    refine t_s (fun u hu => by have := rzattach_any (A := A2) (B := B2) (n := m2) (m := m3) (s := t'.s) (c := []) (f := 0) (x := false) u hu.2 hfit2; rw [he', ha'] at this; exact this) fun A3 k3 B3 m4 => ?_
    have hwf : Fit t'.s t'.c t'.f := by rw [hc', hf']; exact hfit2
    refine t_lit 1 ?_
    refine t_loop rfl (⟨0, 0, rfl, Nat.zero_le _⟩ : Rb bs) (rbL LA lc) (rbB t' A3 k3 B3 m4) 200 (fun _ u => Mem u A3 k3 B3 m4 t'.s t'.c ∧ u.ownsRow B0 3 1 (.slice LA bs.length lc) bs.length (bs.map (Value.int .i64))) (fun y => bs.length - y.j) (fun _ => (st_mem _ _ _ _ _ _).and fun _ _ x q => ownsRow.ext q x rfl) (fun u hu _ => ⟨hu.2, hu.1.1.1.2⟩) ?_
    rintro ⟨i2, j, rfl, hj⟩ fy
    by_cases hjl : j < bs.length
    rotate_left
    · exact t_N (b := decide ((j : Int) < (bs.length : Int))) 30 (by simp; omega) (e_r2 (.bool true) rfl)
    cases hti : t'.b.i with
    | true =>
      exact t_Y (b := decide ((j : Int) < (bs.length : Int))) 3 (by simp; omega) (t_N (b := !t'.b.i) 30 (by rw [hti]; rfl) (e_r2 (.bool true) rfl))
    | false =>
    refine t_Y (b := decide ((j : Int) < (bs.length : Int))) 3 (by simp; omega) (t_Y (b := !t'.b.i) 0 (by rw [hti]; rfl) ?_)
    obtain ⟨x, hx⟩ : ∃ x, bs[j]? = some x := ⟨bs[j], List.getElem?_eq_getElem hjl⟩
    obtain ⟨bj, rfl, hbN, hbb⟩ := hbm x (List.mem_of_getElem? hx)
    obtain ⟨la, rfl⟩ : ∃ la, LA = some la := hLA.resolve_left (by omega)
    refine t_ck (p := (0 : Int) ≤ (j : Int) ∧ (j : Int) < (bs.length : Int)) ⟨by omega, by omega⟩ ?_
    refine t_load (ty := 3) (p := la.add (j * 1)) (v := .int .i64 (bj : Int)) (fun u hu _ => reads1 (by kernel_rfl) ?_) ?_
    · obtain ⟨_, hcs⟩ := own_cs hu.2
      obtain ⟨a9, e9, _, h9⟩ := hcs j bj hx
      injection e9 with e9
      subst e9
      rw [Nat.mul_one]
      exact h9
    have hyy : (t'.read (bj : Int)).1 = yy := by
      rcases hMt with q | q
      · rw [hti] at q; cases q
      · exact q bj hbN hbb
    refine t_v (v := .tuple #[.string (t'.read (bj : Int)).1, .int .i64 (t'.read (bj : Int)).2]) (fun u hu => rzread_any A3 B3 k3 m4 t'.s t'.c t'.f t'.x t'.b t'.m (bj : Int) u hu.1 hwf) ?_
    have hw1 : IntKind.i64.wrap ((j : Int) + 1) = ((j + 1 : Nat) : Int) := by
      have : bs.length ≤ 33 := by omega
      rw [wrap_i64 (by omega) (by omega)]; push_cast; rfl
    exact t_N (b := !((t'.read (bj : Int)).1.toList == yy.toList)) 9 (by rw [text_eq, decide_eq_true hyy]; rfl) (t_end (rbL (some la) lc) (rbB t' A3 k3 B3 m4) (fun _ u => Mem u A3 k3 B3 m4 t'.s t'.c ∧ u.ownsRow B0 3 1 (.slice (some la) bs.length lc) bs.length (bs.map (Value.int .i64))) (fun y => bs.length - y.j) (⟨j, j, rfl, hj⟩ : Rb bs) (⟨IntKind.i64.wrap ((j : Int) + 1), j + 1, hw1, hjl⟩ : Rb bs) (by show bs.length - (j + 1) < bs.length - j; omega) fun u hu _ => hu)
end
end Go.Proofs.YtabenngcmpjlhaaGreatDoor
