/- Links: the walk of LinkSides. Under: lists of up to a hundred texts. -/
import Derived.Test.YtbjbdlgbppanmaaYF
namespace Go.Proofs.Ytbjbdlgbppanmaa
open Go.RowKit

/-- True, and nothing that was there is changed. -/
def Yes (w : World) (e : Ending) (w' : World) : Prop := e = .returned (.bool true) ∧ Below w.heap.size w w'

theorem Es.drewN {w : World} {D : Nat} {A : Option Addr} {l : List ByteArray} (h : Es Value.string w D A l) (k : Nat) : Es Value.string (w.drewN k) D A l := h

set_option maxRecDepth 100000 in
set_option maxHeartbeats 4000000 in
theorem ksides_0 (u : Bool) (s : Int) (a b : List ByteArray) (A B : Option Addr) (n m : Nat) (P : Option Addr) (np : Nat) (p y z : List ByteArray) (f : Int) (t : ByteArray) (ok : Bool) (w : World) (hk : Lk w ⟨u, s, a, b⟩ A n B m) (hp : Es Value.string w w.heap.size P p) (hf : (f == 0) = u) (hl : b.length ≤ 100) (hlp : ¬ 100 < (p.length : Int)) (hgr : Lnk.great ⟨u, s, a, b⟩ = false)
    (hs : ∀ w, Lk w ⟨u, s, a, b⟩ A n B m → Es Value.string w w.heap.size P p → Calls Try.prog 10 #[.agg #[.bool u, .int .u64 s, .slice A a.length n, .slice B b.length m], .int .i64 0, .slice P p.length np] w (GivesK ⟨u, s, y, b⟩ (fun v => .tuple #[v, .int .i64 f]) w))
    (ht : ∀ A1 n1 B1 m1 w, Lk w ⟨u, s, y, b⟩ A1 n1 B1 m1 → Calls Try.prog 8 #[.agg #[.bool u, .int .u64 s, .slice A1 y.length n1, .slice B1 b.length m1], .int .i64 0] w (GivesK ⟨u, s, z, b⟩ (fun v => .tuple #[.string t, v, .bool ok]) w)) :
    Calls Try.prog 5 #[.agg #[.bool u, .int .u64 s, .slice A a.length n, .slice B b.length m], .slice P p.length np, .bool false] w (Yes w) := by
  have HS := Lib.hid hs; clear hs
  have HT := Lib.hid ht; clear ht
  have hg := fun w => rkgreatG_any ⟨u, s, a, b⟩ A B n m w
  rw [hgr] at hg
  have HG := Lib.hid hg; clear hg hgr
  have e9 : decide (100 < (p.length : Int)) = false := decide_eq_false hlp
  have HL := Lib.hid hl; clear hl hlp
  have H0 := Lib.hid ((Held.refl w).lay [.bool u, .int .u64 s, .slice A a.length n, .slice B b.length m] 26)
  have K0 := Lib.hid (hk.alloc (.cells ([.bool u, .int .u64 s, .slice A a.length n, .slice B b.length m] : List Value).toArray 26))
  have E0 := Lib.hid (hp.up (below1 (o := .cells ([.bool u, .int .u64 s, .slice A a.length n, .slice B b.length m] : List Value).toArray 26)))
  clear hk hp
  go_enter Try.func5, Try.ntmps5
  go_wp2_with fail
  refine (kalive_any _).mono ?_
  rintro e w1 ⟨rfl, hb⟩
  have H1 := Lib.hid (H0.out.up hb)
  have K1 := Lib.hid (K0.out.up hb)
  have E1 := Lib.hid (E0.out.up hb)
  clear hb H0 K0 E0
  have k0 := H1.out.b0.cell
  go_wp2_with fail
  refine (HG.out _).mono ?_
  rintro e w2 ⟨rfl, hb⟩
  have H2 := Lib.hid (H1.out.up hb)
  have K2 := Lib.hid (K1.out.up hb)
  have E2 := Lib.hid (E1.out.up hb)
  clear hb H1 K1 E1 HG k0
  have k0 := (H2.out.b0.alloc (.cells #[] 9)).cell
  go_wp2_with (at_builtin; refine app_txts rfl _ _ rfl _ w2.heap.size ?c1 _ [] rfl ?c2 B m b ?c3 rfl ?c4 ?c5 ?_)
  case c1 => simp
  case c2 => exact own_zero w2 _ (Nat.le_refl _)
  case c3 => exact K2.out.nb
  case c4 => exact K2.out.eb.up below1
  case c5 => have := HL.out; simp; omega
  intro v3 w3 hown hb3
  have hB3 : Below w2.heap.size w2 w3 := (below1 (o := .cells #[] 9)).trans hb3
  obtain ⟨O, co, rfl, _, hes⟩ := own_es hown
  have H3 := Lib.hid (H2.out.up hB3)
  have K3 := Lib.hid (K2.out.up hB3)
  have E3 := Lib.hid (E2.out.up hB3)
  have O3 := Lib.hid hes
  clear hB3 hb3 hown hes H2 K2 E2 k0
  have k0 := H3.out.b0.cell
  go_wp2_with fail
  refine (HS.out _ K3.out E3.out).mono ?_
  rintro e w4 ⟨A4, n4, B4, m4, rfl, hk4, hb⟩
  have H4 := Lib.hid ((H3.out.up hb).lay [.bool u, .int .u64 s, .slice A4 y.length n4, .slice B4 b.length m4] 26)
  have O4 := Lib.hid ((O3.out.up hb).up (below1 (o := .cells ([.bool u, .int .u64 s, .slice A4 y.length n4, .slice B4 b.length m4] : List Value).toArray 26)))
  have KM := Lib.hid (hk4.alloc (.cells ([.bool u, .int .u64 s, .slice A4 y.length n4, .slice B4 b.length m4] : List Value).toArray 26))
  clear hb hk4 H3 K3 E3 O3 k0 HS
  have k0 := H4.out.b0.cell
  have k1 := H4.out.b1.cell
  go_wp2_with fail
  refine (HT.out _ _ _ _ _ KM.out).mono ?_
  rintro e w5 ⟨A5, n5, B5, m5, rfl, hk5, hb⟩
  have H5 := Lib.hid ((H4.out.up hb).lay [.bool u, .int .u64 s, .slice A5 z.length n5, .slice B5 b.length m5] 26)
  have O5 := Lib.hid ((O4.out.up hb).up (below1 (o := .cells ([.bool u, .int .u64 s, .slice A5 z.length n5, .slice B5 b.length m5] : List Value).toArray 26)))
  have KM5 := Lib.hid ((KM.out.up hb).alloc (.cells ([.bool u, .int .u64 s, .slice A5 z.length n5, .slice B5 b.length m5] : List Value).toArray 26))
  have KN := Lib.hid (hk5.alloc (.cells ([.bool u, .int .u64 s, .slice A5 z.length n5, .slice B5 b.length m5] : List Value).toArray 26))
  clear hb hk5 H4 O4 KM k0 k1 HT
  have k0 := H5.out.b0.cell
  have k1 := H5.out.b1.cell
  have k2 := H5.out.b2.cell
  go_wp2_with fail
  generalize w5.alloc (.cells #[.bool u, .int .u64 s, .slice A5 z.length n5, .slice B5 b.length m5] 26) = w6 at *
  go_loopw [14, 15] (fun v j wr => ∃ k d : Nat, k ≤ b.length ∧ v = .bool true ∧ j = .int .i64 k ∧ wr = w6.drewN d) (fun _ j _ => b.length - (intOf j).toNat)
  case atStart => exact ⟨0, 0, by omega, rfl, rfl, rfl⟩
  case round =>
    obtain ⟨k, d, hk, rfl, rfl, rfl⟩ := hrel
    have hl := HL.out
    by_cases hlt : k < b.length
    · obtain ⟨a1, rfl, _, c1⟩ := KM5.out.eb k b[k] (List.getElem?_eq_getElem hlt)
      obtain ⟨a2, rfl, _, c2⟩ := KN.out.eb k b[k] (List.getElem?_eq_getElem hlt)
      obtain ⟨a3, rfl, _, c3⟩ := O5.out k b[k] (List.getElem?_eq_getElem hlt)
      generalize b[k] = x at *
      have ex : (x.toList == x.toList) = true := beq_self_eq_true _
      go_wp2_with fail
      go_quiet (fail)
      go_wp2_with fail
      go_roundw
      case rel => exact ⟨k + 1, _, by omega, rfl, by go_num, rfl⟩
      case measure => simp [intOf]; omega
    · obtain rfl : k = b.length := by omega
      go_wp2_with fail
      go_ret
      exact ⟨rfl, ext_drewN H5.out.below _⟩

set_option maxRecDepth 100000 in
set_option maxHeartbeats 4000000 in
theorem ksides_1 (u : Bool) (s : Int) (a b : List ByteArray) (A B : Option Addr) (n m : Nat) (P : Option Addr) (np : Nat) (p y z : List ByteArray) (f : Int) (t : ByteArray) (ok : Bool) (w : World) (hk : Lk w ⟨u, s, a, b⟩ A n B m) (hp : Es Value.string w w.heap.size P p) (hf : (f == 0) = u) (hl : a.length ≤ 100) (hlp : ¬ 100 < (p.length : Int)) (hgr : Lnk.great ⟨u, s, a, b⟩ = false)
    (hs : ∀ w, Lk w ⟨u, s, a, b⟩ A n B m → Es Value.string w w.heap.size P p → Calls Try.prog 10 #[.agg #[.bool u, .int .u64 s, .slice A a.length n, .slice B b.length m], .int .i64 1, .slice P p.length np] w (GivesK ⟨u, s, a, y⟩ (fun v => .tuple #[v, .int .i64 f]) w))
    (ht : ∀ A1 n1 B1 m1 w, Lk w ⟨u, s, a, y⟩ A1 n1 B1 m1 → Calls Try.prog 8 #[.agg #[.bool u, .int .u64 s, .slice A1 a.length n1, .slice B1 y.length m1], .int .i64 1] w (GivesK ⟨u, s, a, z⟩ (fun v => .tuple #[.string t, v, .bool ok]) w)) :
    Calls Try.prog 5 #[.agg #[.bool u, .int .u64 s, .slice A a.length n, .slice B b.length m], .slice P p.length np, .bool true] w (Yes w) := by
  have HS := Lib.hid hs; clear hs
  have HT := Lib.hid ht; clear ht
  have hg := fun w => rkgreatG_any ⟨u, s, a, b⟩ A B n m w
  rw [hgr] at hg
  have HG := Lib.hid hg; clear hg hgr
  have e9 : decide (100 < (p.length : Int)) = false := decide_eq_false hlp
  have HL := Lib.hid hl; clear hl hlp
  have H0 := Lib.hid ((Held.refl w).lay [.bool u, .int .u64 s, .slice A a.length n, .slice B b.length m] 26)
  have K0 := Lib.hid (hk.alloc (.cells ([.bool u, .int .u64 s, .slice A a.length n, .slice B b.length m] : List Value).toArray 26))
  have E0 := Lib.hid (hp.up (below1 (o := .cells ([.bool u, .int .u64 s, .slice A a.length n, .slice B b.length m] : List Value).toArray 26)))
  clear hk hp
  go_enter Try.func5, Try.ntmps5
  go_wp2_with fail
  refine (kalive_any _).mono ?_
  rintro e w1 ⟨rfl, hb⟩
  have H1 := Lib.hid (H0.out.up hb)
  have K1 := Lib.hid (K0.out.up hb)
  have E1 := Lib.hid (E0.out.up hb)
  clear hb H0 K0 E0
  have k0 := H1.out.b0.cell
  go_wp2_with fail
  refine (HG.out _).mono ?_
  rintro e w2 ⟨rfl, hb⟩
  have H2 := Lib.hid (H1.out.up hb)
  have K2 := Lib.hid (K1.out.up hb)
  have E2 := Lib.hid (E1.out.up hb)
  clear hb H1 K1 E1 HG k0
  have k0 := (H2.out.b0.alloc (.cells #[] 9)).cell
  go_wp2_with (at_builtin; refine app_txts rfl _ _ rfl _ w2.heap.size ?c1 _ [] rfl ?c2 A n a ?c3 rfl ?c4 ?c5 ?_)
  case c1 => simp
  case c2 => exact own_zero w2 _ (Nat.le_refl _)
  case c3 => exact K2.out.na
  case c4 => exact K2.out.ea.up below1
  case c5 => have := HL.out; simp; omega
  intro v3 w3 hown hb3
  have hB3 : Below w2.heap.size w2 w3 := (below1 (o := .cells #[] 9)).trans hb3
  obtain ⟨O, co, rfl, _, hes⟩ := own_es hown
  have H3 := Lib.hid (H2.out.up hB3)
  have K3 := Lib.hid (K2.out.up hB3)
  have E3 := Lib.hid (E2.out.up hB3)
  have O3 := Lib.hid hes
  clear hB3 hb3 hown hes H2 K2 E2 k0
  have k0 := H3.out.b0.cell
  go_wp2_with fail
  refine (HS.out _ K3.out E3.out).mono ?_
  rintro e w4 ⟨A4, n4, B4, m4, rfl, hk4, hb⟩
  have H4 := Lib.hid ((H3.out.up hb).lay [.bool u, .int .u64 s, .slice A4 a.length n4, .slice B4 y.length m4] 26)
  have O4 := Lib.hid ((O3.out.up hb).up (below1 (o := .cells ([.bool u, .int .u64 s, .slice A4 a.length n4, .slice B4 y.length m4] : List Value).toArray 26)))
  have KM := Lib.hid (hk4.alloc (.cells ([.bool u, .int .u64 s, .slice A4 a.length n4, .slice B4 y.length m4] : List Value).toArray 26))
  clear hb hk4 H3 K3 E3 O3 k0 HS
  have k0 := H4.out.b0.cell
  have k1 := H4.out.b1.cell
  go_wp2_with fail
  refine (HT.out _ _ _ _ _ KM.out).mono ?_
  rintro e w5 ⟨A5, n5, B5, m5, rfl, hk5, hb⟩
  have H5 := Lib.hid ((H4.out.up hb).lay [.bool u, .int .u64 s, .slice A5 a.length n5, .slice B5 z.length m5] 26)
  have O5 := Lib.hid ((O4.out.up hb).up (below1 (o := .cells ([.bool u, .int .u64 s, .slice A5 a.length n5, .slice B5 z.length m5] : List Value).toArray 26)))
  have KM5 := Lib.hid ((KM.out.up hb).alloc (.cells ([.bool u, .int .u64 s, .slice A5 a.length n5, .slice B5 z.length m5] : List Value).toArray 26))
  have KN := Lib.hid (hk5.alloc (.cells ([.bool u, .int .u64 s, .slice A5 a.length n5, .slice B5 z.length m5] : List Value).toArray 26))
  clear hb hk5 H4 O4 KM k0 k1 HT
  have k0 := H5.out.b0.cell
  have k1 := H5.out.b1.cell
  have k2 := H5.out.b2.cell
  go_wp2_with fail
  generalize w5.alloc (.cells #[.bool u, .int .u64 s, .slice A5 a.length n5, .slice B5 z.length m5] 26) = w6 at *
  go_loopw [14, 15] (fun v j wr => ∃ k d : Nat, k ≤ a.length ∧ v = .bool true ∧ j = .int .i64 k ∧ wr = w6.drewN d) (fun _ j _ => a.length - (intOf j).toNat)
  case atStart => exact ⟨0, 0, by omega, rfl, rfl, rfl⟩
  case round =>
    obtain ⟨k, d, hk, rfl, rfl, rfl⟩ := hrel
    have hl := HL.out
    by_cases hlt : k < a.length
    · obtain ⟨a1, rfl, _, c1⟩ := KM5.out.ea k a[k] (List.getElem?_eq_getElem hlt)
      obtain ⟨a2, rfl, _, c2⟩ := KN.out.ea k a[k] (List.getElem?_eq_getElem hlt)
      obtain ⟨a3, rfl, _, c3⟩ := O5.out k a[k] (List.getElem?_eq_getElem hlt)
      generalize a[k] = x at *
      have ex : (x.toList == x.toList) = true := beq_self_eq_true _
      go_wp2_with fail
      go_quiet (fail)
      go_wp2_with fail
      go_roundw
      case rel => exact ⟨k + 1, _, by omega, rfl, by go_num, rfl⟩
      case measure => simp [intOf]; omega
    · obtain rfl : k = a.length := by omega
      go_wp2_with fail
      go_ret
      exact ⟨rfl, ext_drewN H5.out.below _⟩

theorem Lnk.send0 (x : Lnk) (p : List ByteArray) : ∃ y, x.send 0 p = ⟨x.u, x.s, y, x.b⟩ := by
  unfold Lnk.send Lnk.on
  split
  · exact ⟨_, rfl⟩
  · exact ⟨x.a, rfl⟩
theorem Lnk.send1 (x : Lnk) (p : List ByteArray) : ∃ y, x.send 1 p = ⟨x.u, x.s, x.a, y⟩ := by
  unfold Lnk.send Lnk.on
  split
  · exact ⟨_, rfl⟩
  · exact ⟨x.b, rfl⟩
theorem Lnk.taken0 (x : Lnk) : ∃ y, x.taken 0 = ⟨x.u, x.s, y, x.b⟩ := by
  unfold Lnk.taken Lnk.on
  split
  · exact ⟨_, rfl⟩
  · exact ⟨x.a, rfl⟩
theorem Lnk.taken1 (x : Lnk) : ∃ y, x.taken 1 = ⟨x.u, x.s, x.a, y⟩ := by
  unfold Lnk.taken Lnk.on
  split
  · exact ⟨_, rfl⟩
  · exact ⟨x.b, rfl⟩

theorem small_great {x : Lnk} (h : x.great = false) : x.a.length ≤ 100 ∧ x.b.length ≤ 100 := by
  unfold Lnk.great at h
  simp at h
  omega
set_option maxRecDepth 100000 in
set_option maxHeartbeats 4000000 in

theorem ksides_great (q : Bool) (u : Bool) (s : Int) (a b : List ByteArray) (A B : Option Addr) (n m : Nat) (P : Option Addr) (np : Nat) (p : List ByteArray) (w : World) (hgr : Lnk.great ⟨u, s, a, b⟩ = true) :
    Calls Try.prog 5 #[.agg #[.bool u, .int .u64 s, .slice A a.length n, .slice B b.length m], .slice P p.length np, .bool q] w (Yes w) := by
  have hg := fun w => rkgreatG_any ⟨u, s, a, b⟩ A B n m w
  rw [hgr] at hg
  have HG := Lib.hid hg; clear hg hgr
  have H0 := Lib.hid ((Held.refl w).lay [.bool u, .int .u64 s, .slice A a.length n, .slice B b.length m] 26)
  go_enter Try.func5, Try.ntmps5
  go_wp2_with fail
  refine (kalive_any _).mono ?_
  rintro e w1 ⟨rfl, hb⟩
  have H1 := Lib.hid (H0.out.up hb)
  clear hb H0
  have k0 := H1.out.b0.cell
  go_wp2_with fail
  refine (HG.out _).mono ?_
  rintro e w2 ⟨rfl, hb⟩
  have H2 := Lib.hid (H1.out.up hb)
  clear hb H1 HG k0
  go_wp2_with fail
  go_ret
  exact ⟨rfl, H2.out.below⟩
set_option maxRecDepth 100000 in
set_option maxHeartbeats 4000000 in

theorem ksides_many (q : Bool) (u : Bool) (s : Int) (a b : List ByteArray) (A B : Option Addr) (n m : Nat) (P : Option Addr) (np : Nat) (p : List ByteArray) (w : World) (hgr : Lnk.great ⟨u, s, a, b⟩ = false) (hlp : 100 < (p.length : Int)) :
    Calls Try.prog 5 #[.agg #[.bool u, .int .u64 s, .slice A a.length n, .slice B b.length m], .slice P p.length np, .bool q] w (Yes w) := by
  have hg := fun w => rkgreatG_any ⟨u, s, a, b⟩ A B n m w
  rw [hgr] at hg
  have HG := Lib.hid hg; clear hg hgr
  have e9 : decide (100 < (p.length : Int)) = true := decide_eq_true hlp
  clear hlp
  have H0 := Lib.hid ((Held.refl w).lay [.bool u, .int .u64 s, .slice A a.length n, .slice B b.length m] 26)
  go_enter Try.func5, Try.ntmps5
  go_wp2_with fail
  refine (kalive_any _).mono ?_
  rintro e w1 ⟨rfl, hb⟩
  have H1 := Lib.hid (H0.out.up hb)
  clear hb H0
  have k0 := H1.out.b0.cell
  go_wp2_with fail
  refine (HG.out _).mono ?_
  rintro e w2 ⟨rfl, hb⟩
  have H2 := Lib.hid (H1.out.up hb)
  clear hb H1 HG k0
  go_wp2_with fail
  go_ret
  exact ⟨rfl, H2.out.below⟩

theorem ksides_law (x : Lnk) (A B : Option Addr) (n m : Nat) (P : Option Addr) (np : Nat) (p : List ByteArray) (q : Bool) (w : World) (hk : Lk w x A n B m) (hp : Es Value.string w w.heap.size P p) (hP : P = none → np = 0) (hpc : p.length ≤ np) :
    Calls Try.prog 5 #[lkV x A n B m, .slice P p.length np, .bool q] w (Yes w) := by
  cases hgr : x.great
  · by_cases hlp : 100 < (p.length : Int)
    · obtain ⟨u, s, a, b⟩ := x
      exact ksides_many q u s a b A B n m P np p w hgr hlp
    · have hl := small_great hgr
      have hs0 := fun g (w : World) hk hp => ksend_any x A B n m g P np p w hk hp hP hpc (by omega) (by omega) (by omega)
      cases q
      · have hs := hs0 0
        have ht := fun y A1 n1 B1 m1 (w : World) hk hl => ktake_any ⟨x.u, x.s, y, x.b⟩ A1 B1 n1 m1 0 w hk hl (show x.b.length ≤ 100000 from by omega)
        have hz : ∀ y : List ByteArray, (x.send 0 p) = ⟨x.u, x.s, y, x.b⟩ → y.length ≤ 100000 := by
          intro y hy
          have e : (x.send 0 p).a = y := by rw [hy]
          rw [← e]
          unfold Lnk.send Lnk.on Lnk.side
          split
          · simp; omega
          · omega
        have hfe : (x.sendE 0 == 0) = x.u := by unfold Lnk.sendE isSide; cases x.u <;> rfl
        obtain ⟨y, hy⟩ := x.send0 p
        obtain ⟨z, hzz⟩ := Lnk.taken0 ⟨x.u, x.s, y, x.b⟩
        rw [hy] at hs
        have ht2 := fun A1 n1 B1 m1 (w : World) hk => ht y A1 n1 B1 m1 w hk (hz y hy)
        rw [hzz] at ht2
        obtain ⟨u, s, a, b⟩ := x
        exact ksides_0 u s a b A B n m P np p y z _ _ _ w hk hp hfe hl.2 hlp hgr hs ht2
      · have hs := hs0 1
        have ht := fun y A1 n1 B1 m1 (w : World) hk hl => ktake_any ⟨x.u, x.s, x.a, y⟩ A1 B1 n1 m1 1 w hk (show x.a.length ≤ 100000 from by omega) hl
        have hz : ∀ y : List ByteArray, (x.send 1 p) = ⟨x.u, x.s, x.a, y⟩ → y.length ≤ 100000 := by
          intro y hy
          have e : (x.send 1 p).b = y := by rw [hy]
          rw [← e]
          unfold Lnk.send Lnk.on Lnk.side
          split
          · simp; omega
          · omega
        have hfe : (x.sendE 1 == 0) = x.u := by unfold Lnk.sendE isSide; cases x.u <;> rfl
        obtain ⟨y, hy⟩ := x.send1 p
        obtain ⟨z, hzz⟩ := Lnk.taken1 ⟨x.u, x.s, x.a, y⟩
        rw [hy] at hs
        have ht2 := fun A1 n1 B1 m1 (w : World) hk => ht y A1 n1 B1 m1 w hk (hz y hy)
        rw [hzz] at ht2
        obtain ⟨u, s, a, b⟩ := x
        exact ksides_1 u s a b A B n m P np p y z _ _ _ w hk hp hfe hl.1 hlp hgr hs ht2
  · obtain ⟨u, s, a, b⟩ := x
    exact ksides_great q u s a b A B n m P np p w hgr
end Go.Proofs.Ytbjbdlgbppanmaa
