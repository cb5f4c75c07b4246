/- Links: what Open, Close, Idle, Great and Same of the document answer. Under: lists of up to a million texts, for Same. -/
import Derived.Test.YtbjbdlgbppanmaaYA
namespace Go.Proofs.Ytbjbdlgbppanmaa
open Go.RowKit

theorem ktoList_inj {x y : ByteArray} (h : x.toList = y.toList) : x = y := by
  rw [ByteArray.toList_eq, ByteArray.toList_eq] at h
  obtain ⟨⟨a⟩⟩ := x
  obtain ⟨⟨b⟩⟩ := y
  simp only at h
  rw [h]
theorem ktext_eq (x y : ByteArray) : (x.toList == y.toList) = decide (x = y) := by
  by_cases h : x = y
  · subst h; simp
  · rw [decide_eq_false h]
    exact beq_eq_false_iff_ne.2 fun e => h (ktoList_inj e)
theorem keq_step {α : Type} {l1 l2 : List α} {k : Nat} (h1 : k < l1.length) (h2 : k < l2.length) (h : l1.take k = l2.take k) (he : l1[k] = l2[k]) : l1.take (k + 1) = l2.take (k + 1) := by
  rw [take_snoc l1 k h1, take_snoc l2 k h2, h, he]
theorem keq_no {α : Type} {l1 l2 : List α} {k : Nat} (h1 : k < l1.length) (h2 : k < l2.length) (he : l1[k] ≠ l2[k]) : l1 ≠ l2 := by
  intro h; subst h; exact he rfl
theorem keq_yes {α : Type} {l1 l2 : List α} (hl : l1.length = l2.length) (h : l1.take l1.length = l2.take l1.length) : l1 = l2 := by
  rw [List.take_length, hl, List.take_length] at h; exact h

set_option maxHeartbeats 1000000 in
theorem ktexts_any (A1 A2 : Option Addr) (c1 c2 : Nat) (l1 l2 : List ByteArray) (w : World) (h1 : Es Value.string w w.heap.size A1 l1) (h2 : Es Value.string w w.heap.size A2 l2) (m1 : l1.length ≤ 1000000) :
    Calls Try.prog 22 #[.slice A1 l1.length c1, .slice A2 l2.length c2] w fun e w' => e = .returned (.bool (decide (l1 = l2))) ∧ Below w.heap.size w w' := by
  have H1 := Lib.hid h1; clear h1
  have H2 := Lib.hid h2; clear h2
  by_cases hl : l1.length = l2.length
  rotate_left
  · have hli : ((l1.length : Int) == (l2.length : Int)) = false := by rw [beq_eq_false_iff_ne]; omega
    have hnb : ((l1.length : Int) != (l2.length : Int)) = true := by simp [bne, hli]
    rw [decide_eq_false (fun e => hl (by rw [e]))]
    clear hl
    go_enter Try.func22, Try.ntmps22
    go_wp2
    go_ret
    exact ⟨rfl, Below.refl _ _⟩
  have hli : ((l1.length : Int) == (l2.length : Int)) = true := by simp [hl]
  have hnb : ((l1.length : Int) != (l2.length : Int)) = false := by simp [bne, hli]
  have HL := Lib.hid hl; clear hl
  have hy := fun (e : l1 = l2) => (decide_eq_true e).symm
  have hn := fun (e : l1 ≠ l2) => (decide_eq_false e).symm
  generalize decide (l1 = l2) = r at *
  have HY := Lib.hid hy; clear hy
  have HN := Lib.hid hn; clear hn
  go_enter Try.func22, Try.ntmps22
  go_wp2
  go_loopw [5] (fun i wr => ∃ k n : Nat, k ≤ l1.length ∧ i = .int .i64 k ∧ Hid (l1.take k = l2.take k) ∧ wr = w.drewN n) (fun i _ => l1.length - (intOf i).toNat)
  case atStart => exact ⟨0, 0, by omega, rfl, by simp [Hid], rfl⟩
  case round =>
    obtain ⟨k, n, hk, rfl, hp, rfl⟩ := hrel
    by_cases hlt : k < l1.length
    · have hlt2 : k < l2.length := by rw [← HL.out]; exact hlt
      obtain ⟨a1, rfl, hb1, hc1⟩ := H1.out k l1[k] (List.getElem?_eq_getElem hlt)
      obtain ⟨a2, rfl, hb2, hc2⟩ := H2.out k l2[k] (List.getElem?_eq_getElem hlt2)
      have hs := keq_step hlt hlt2 hp.out
      have hh := keq_no hlt hlt2
      have HS := Lib.hid hs; clear hs
      have HH := Lib.hid hh; clear hh
      clear hp
      generalize l1[k] = x at *
      generalize l2[k] = y at *
      by_cases hxy : x = y
      · have he : (x.toList == y.toList) = true := by rw [ktext_eq, decide_eq_true hxy]
        have HX := Lib.hid hxy; clear hxy
        go_wp2
        go_quiet (fail)
        go_wp2
        go_roundw
        case rel => exact ⟨k + 1, _, by omega, by go_num, HS.out HX.out, rfl⟩
        case measure => simp [intOf]; omega
      · have he : (x.toList == y.toList) = false := by rw [ktext_eq, decide_eq_false hxy]
        have hne := HN.out (HH.out hxy)
        have HF := Lib.hid hne; clear hne
        clear hxy HH HS
        go_wp2
        go_quiet (fail)
        go_wp2
        go_ret
        exact ⟨ret_bool HF.out, ext_drewN (ext_drewN (Below.refl _ _) _) _⟩
    · obtain rfl : k = l1.length := by omega
      have hq := HY.out (keq_yes HL.out hp.out)
      have HQ := Lib.hid hq; clear hq
      clear hp
      go_wp2
      go_ret
      exact ⟨ret_bool HQ.out, ext_drewN (Below.refl _ _) _⟩

set_option maxHeartbeats 1000000 in
theorem rkopen_any (u : Bool) (s : Int) (a b : List ByteArray) (A B : Option Addr) (n m : Nat) (w : World) : Calls Try.prog 14 #[.agg #[.bool u, .int .u64 s, .slice A a.length n, .slice B b.length m]] w fun e w' => e = .returned (.agg #[.bool true, .int .u64 (nextS s), .slice none 0 0, .slice none 0 0]) ∧ Below w.heap.size w w' := by
  have H0 := Lib.hid (((Held.refl w).lay [.bool u, .int .u64 s, .slice A a.length n, .slice B b.length m] 26).own [.bool false, .int .u64 0, .slice none 0 0, .slice none 0 0] 26 (n := 4) rfl)
  rw [World.size_alloc] at H0
  have k0 := H0.out.b0.cell
  have hn : IntKind.u64.wrap (s + 1) = nextS s := rfl
  go_enter Try.func14, Try.ntmps14
  go_wp2_with fail
  refine bodyPost_ret (v := .agg #[.bool true, .int .u64 (nextS s), .slice none 0 0, .slice none 0 0]) (by simp [results, Try.results14, go_sem, nextS]) rfl ⟨rfl, ?_⟩
  exact below2

set_option maxHeartbeats 1000000 in
theorem rkclose_any (u : Bool) (s : Int) (a b : List ByteArray) (A B : Option Addr) (n m : Nat) (w : World) : Calls Try.prog 16 #[.agg #[.bool u, .int .u64 s, .slice A a.length n, .slice B b.length m]] w fun e w' => e = .returned (.agg #[.bool false, .int .u64 s, .slice none 0 0, .slice none 0 0]) ∧ Below w.heap.size w w' := by
  have H0 := Lib.hid (((Held.refl w).lay [.bool u, .int .u64 s, .slice A a.length n, .slice B b.length m] 26).own [.bool false, .int .u64 0, .slice none 0 0, .slice none 0 0] 26 (n := 4) rfl)
  rw [World.size_alloc] at H0
  have k0 := H0.out.b0.cell
  have hn : IntKind.u64.wrap (s + 1) = nextS s := rfl
  go_enter Try.func16, Try.ntmps16
  go_wp2_with fail
  refine bodyPost_ret (v := .agg #[.bool false, .int .u64 s, .slice none 0 0, .slice none 0 0]) (by simp [results, Try.results16, go_sem]) rfl ⟨rfl, ?_⟩
  exact below2

theorem len_nil (a : List ByteArray) : ((a.length : Int) == 0) = decide (a = []) := by
  cases a with
  | nil => rfl
  | cons x t =>
    rw [decide_eq_false (by simp), beq_eq_false_iff_ne]
    simp
    omega

set_option maxHeartbeats 1000000 in
theorem rkidle_any (u : Bool) (s : Int) (a b : List ByteArray) (A B : Option Addr) (n m : Nat) (w : World) (ha : a.length ≤ 1000000) (hb : b.length ≤ 1000000) : Calls Try.prog 18 #[.agg #[.bool u, .int .u64 s, .slice A a.length n, .slice B b.length m]] w fun e w' => e = .returned (.bool (Lnk.idle ⟨u, s, a, b⟩)) ∧ Below w.heap.size w w' := by
  have H0 := Lib.hid ((Held.refl w).lay [.bool u, .int .u64 s, .slice A a.length n, .slice B b.length m] 26)
  have k0 := H0.out.b0.cell
  have hq : (((a.length : Int) + (b.length : Int)) == 0) = Lnk.idle ⟨u, s, a, b⟩ := by
    unfold Lnk.idle
    dsimp only
    rw [← len_nil a, ← len_nil b, Bool.beq_eq_decide_eq, Bool.beq_eq_decide_eq, Bool.beq_eq_decide_eq, ← Bool.decide_and, decide_eq_decide]
    omega
  have hw : wrap64 ((a.length : Int) + (b.length : Int)) = (a.length : Int) + (b.length : Int) := by unfold wrap64; omega
  go_enter Try.func18, Try.ntmps18
  go_wp2_with fail
  go_ret
  exact ⟨rfl, H0.out.below⟩

set_option maxHeartbeats 1000000 in
theorem rkgreat_any (u : Bool) (s : Int) (a b : List ByteArray) (A B : Option Addr) (n m : Nat) (w : World) : Calls Try.prog 7 #[.agg #[.bool u, .int .u64 s, .slice A a.length n, .slice B b.length m]] w fun e w' => e = .returned (.bool (Lnk.great ⟨u, s, a, b⟩)) ∧ Below w.heap.size w w' := by
  have H0 := Lib.hid ((Held.refl w).lay [.bool u, .int .u64 s, .slice A a.length n, .slice B b.length m] 26)
  have k0 := H0.out.b0.cell
  have h1 : decide ((100 : Int) < (a.length : Int)) = decide (100 < a.length) := by rw [decide_eq_decide]; omega
  have h2 : decide ((100 : Int) < (b.length : Int)) = decide (100 < b.length) := by rw [decide_eq_decide]; omega
  unfold Lnk.great
  dsimp only
  rw [← h1, ← h2]
  clear h1 h2
  by_cases h : (100 : Int) < (a.length : Int)
  · have e1 : decide ((100 : Int) < (a.length : Int)) = true := decide_eq_true h
    go_enter Try.func7, Try.ntmps7
    go_wp2_with fail
    go_ret
    exact ⟨ret_bool (by simp), H0.out.below⟩
  · have e1 : decide ((100 : Int) < (a.length : Int)) = false := decide_eq_false h
    go_enter Try.func7, Try.ntmps7
    go_wp2_with fail
    go_ret
    exact ⟨ret_bool (by simp), H0.out.below⟩

set_option maxHeartbeats 2000000 in
theorem rksame_any (u : Bool) (s : Int) (a b : List ByteArray) (A B : Option Addr) (n m : Nat) (u2 : Bool) (s2 : Int) (a2 b2 : List ByteArray) (A2 B2 : Option Addr) (n2 m2 : Nat) (w : World) (h1 : Lk w ⟨u, s, a, b⟩ A n B m) (h2 : Lk w ⟨u2, s2, a2, b2⟩ A2 n2 B2 m2) (ha : a.length ≤ 1000000) (hb : b.length ≤ 1000000) : Calls Try.prog 12 #[.agg #[.bool u, .int .u64 s, .slice A a.length n, .slice B b.length m], .agg #[.bool u2, .int .u64 s2, .slice A2 a2.length n2, .slice B2 b2.length m2]] w fun e w' => e = .returned (.bool (Lnk.same ⟨u, s, a, b⟩ ⟨u2, s2, a2, b2⟩)) ∧ Below w.heap.size w w' := by
  have H0 := Lib.hid (((Held.refl w).lay [.bool u, .int .u64 s, .slice A a.length n, .slice B b.length m] 26).lay [.bool u2, .int .u64 s2, .slice A2 a2.length n2, .slice B2 b2.length m2] 26)
  have P1 := Lib.hid ((h1.alloc (.cells #[.bool u, .int .u64 s, .slice A a.length n, .slice B b.length m] 26)).alloc (.cells #[.bool u2, .int .u64 s2, .slice A2 a2.length n2, .slice B2 b2.length m2] 26))
  have P2 := Lib.hid ((h2.alloc (.cells #[.bool u, .int .u64 s, .slice A a.length n, .slice B b.length m] 26)).alloc (.cells #[.bool u2, .int .u64 s2, .slice A2 a2.length n2, .slice B2 b2.length m2] 26))
  clear h1 h2
  rw [World.size_alloc] at H0
  have k0 := H0.out.b0.cell
  have k1 := H0.out.b1.cell
  unfold Lnk.same
  dsimp only
  cases hu : (u == u2)
  · go_enter Try.func12, Try.ntmps12
    go_wp2_with fail
    go_ret
    exact ⟨ret_bool (by simp), H0.out.below⟩
  · cases hs : (s == s2)
    · go_enter Try.func12, Try.ntmps12
      go_wp2_with fail
      go_ret
      exact ⟨ret_bool (by simp), H0.out.below⟩
    · have ta := fun w h h' => ktexts_any A A2 n n2 a a2 w h h' ha
      have tb := fun w h h' => ktexts_any B B2 m m2 b b2 w h h' hb
      have TA := Lib.hid ta; clear ta
      have TB := Lib.hid tb; clear tb
      by_cases hq : a = a2
      · rw [decide_eq_true hq] at TA ⊢
        clear hq
        generalize decide (b = b2) = y at *
        go_enter Try.func12, Try.ntmps12
        go_wp2_with fail
        refine (TA.out _ P1.out.ea P2.out.ea).mono ?_
        rintro e w1 ⟨rfl, hb⟩
        have H1 := Lib.hid (H0.out.up hb)
        have Q1 := Lib.hid (P1.out.up hb)
        have Q2 := Lib.hid (P2.out.up hb)
        clear hb k0 k1
        have k0 := H1.out.b0.cell
        have k1 := H1.out.b1.cell
        go_wp2_with fail
        refine (TB.out _ Q1.out.eb Q2.out.eb).mono ?_
        rintro e w2 ⟨rfl, hb⟩
        have H2 := Lib.hid (H1.out.up hb)
        clear hb
        go_wp2_with fail
        go_ret
        exact ⟨ret_bool (by simp), H2.out.below⟩
      · rw [decide_eq_false hq] at TA ⊢
        clear hq
        go_enter Try.func12, Try.ntmps12
        go_wp2_with fail
        refine (TA.out _ P1.out.ea P2.out.ea).mono ?_
        rintro e w1 ⟨rfl, hb⟩
        have H1 := Lib.hid (H0.out.up hb)
        clear hb k0 k1
        go_wp2_with fail
        go_ret
        exact ⟨ret_bool (by simp), H1.out.below⟩
end Go.Proofs.Ytbjbdlgbppanmaa
