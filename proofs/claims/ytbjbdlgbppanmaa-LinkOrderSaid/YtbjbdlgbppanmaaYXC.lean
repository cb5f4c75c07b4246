/- Links: what the code's Send answers. Under: lists of up to a hundred thousand texts. -/
import Derived.Test.YtbjbdlgbppanmaaYXB
import Derived.Test.YtbjbdlgbppanmaaYC
namespace Go.Proofs.Ytbjbdlgbppanmaa
open Go.RowKit

set_option maxRecDepth 100000 in
set_option maxHeartbeats 4000000 in
theorem ks_arg (s : Int) (a b : List ByteArray) (A B : Option Addr) (n m : Nat) (P : Option Addr) (np : Nat) (p : List ByteArray) (u : Bool) (g : Int) (hg : isSide g = false) (w : World) : Calls Try.prog 10 #[.agg #[.bool u, .int .u64 s, .slice A a.length n, .slice B b.length m], .int .i64 g, .slice P p.length np] w fun e w' => e = .returned (.tuple #[.agg #[.bool u, .int .u64 s, .slice A a.length n, .slice B b.length m], .int .i64 1]) ∧ Below w.heap.size w w' := by
  have HG := Lib.hid hg; clear hg
  have H0 := Lib.hid (((Held.refl w).own [.bool u, .int .u64 s, .slice A a.length n, .slice B b.length m] 26 (n := 4) rfl).own [.bool false, .int .u64 0, .slice none 0 0, .slice none 0 0] 26 (n := 4) rfl)
  have BL0 := Lib.hid ((Box.new w [.bool u, .int .u64 s, .slice A a.length n, .slice B b.length m] 26).alloc (.cells ([.bool false, .int .u64 0, .slice none 0 0, .slice none 0 0] : List Value).toArray 26))
  have BR0 := Lib.hid (Box.new2 w (.cells ([.bool u, .int .u64 s, .slice A a.length n, .slice B b.length m] : List Value).toArray 26) [.bool false, .int .u64 0, .slice none 0 0, .slice none 0 0] 26)
  rw [World.size_alloc] at H0
  go_enter Try.func10, Try.ntmps10
  go_wp2_with fail
  refine (kside_any g false HG.out _).mono ?_
  rintro e w1 ⟨rfl, hb1⟩
  have H1 := Lib.hid (H0.out.up hb1)
  have BL1 := Lib.hid (BL0.out.below hb1)
  have BR1 := Lib.hid (BR0.out.below hb1)
  clear H0 BL0 BR0 hb1
  have kl := BL1.out.cell
  have fl := BL1.out.frozen
  have kr := BR1.out.cell
  have fr := BR1.out.frozen
  go_wp2_with fail
  refine bodyPost_ret (v := .tuple #[.agg #[.bool u, .int .u64 s, .slice A a.length n, .slice B b.length m], .int .i64 1]) (by simp [results, Try.results10, go_sem, kr]) rfl ⟨rfl, ?_⟩
  exact (H1.out.set4 (b := w.heap.size + 1) ⟨4, by simp⟩ (.bool u) (.int .u64 s) (.slice A a.length n) (.slice B b.length m)).below

set_option maxRecDepth 100000 in
set_option maxHeartbeats 4000000 in
theorem ks_down0 (s : Int) (a b : List ByteArray) (A B : Option Addr) (n m : Nat) (P : Option Addr) (np : Nat) (p : List ByteArray)  (w : World) : Calls Try.prog 10 #[.agg #[.bool false, .int .u64 s, .slice A a.length n, .slice B b.length m], .int .i64 0, .slice P p.length np] w fun e w' => e = .returned (.tuple #[.agg #[.bool false, .int .u64 s, .slice A a.length n, .slice B b.length m], .int .i64 7]) ∧ Below w.heap.size w w' := by
  have H0 := Lib.hid (((Held.refl w).own [.bool false, .int .u64 s, .slice A a.length n, .slice B b.length m] 26 (n := 4) rfl).own [.bool false, .int .u64 0, .slice none 0 0, .slice none 0 0] 26 (n := 4) rfl)
  have BL0 := Lib.hid ((Box.new w [.bool false, .int .u64 s, .slice A a.length n, .slice B b.length m] 26).alloc (.cells ([.bool false, .int .u64 0, .slice none 0 0, .slice none 0 0] : List Value).toArray 26))
  have BR0 := Lib.hid (Box.new2 w (.cells ([.bool false, .int .u64 s, .slice A a.length n, .slice B b.length m] : List Value).toArray 26) [.bool false, .int .u64 0, .slice none 0 0, .slice none 0 0] 26)
  rw [World.size_alloc] at H0
  go_enter Try.func10, Try.ntmps10
  go_wp2_with fail
  refine (kside_any 0 true rfl _).mono ?_
  rintro e w1 ⟨rfl, hb1⟩
  have H1 := Lib.hid (H0.out.up hb1)
  have BL1 := Lib.hid (BL0.out.below hb1)
  have BR1 := Lib.hid (BR0.out.below hb1)
  clear H0 BL0 BR0 hb1
  have kl := BL1.out.cell
  have fl := BL1.out.frozen
  have kr := BR1.out.cell
  have fr := BR1.out.frozen
  go_wp2_with fail
  refine bodyPost_ret (v := .tuple #[.agg #[.bool false, .int .u64 s, .slice A a.length n, .slice B b.length m], .int .i64 7]) (by simp [results, Try.results10, go_sem, kr]) rfl ⟨rfl, ?_⟩
  exact (H1.out.set4 (b := w.heap.size + 1) ⟨4, by simp⟩ (.bool false) (.int .u64 s) (.slice A a.length n) (.slice B b.length m)).below

set_option maxRecDepth 100000 in
set_option maxHeartbeats 4000000 in
theorem ks_down1 (s : Int) (a b : List ByteArray) (A B : Option Addr) (n m : Nat) (P : Option Addr) (np : Nat) (p : List ByteArray)  (w : World) : Calls Try.prog 10 #[.agg #[.bool false, .int .u64 s, .slice A a.length n, .slice B b.length m], .int .i64 1, .slice P p.length np] w fun e w' => e = .returned (.tuple #[.agg #[.bool false, .int .u64 s, .slice A a.length n, .slice B b.length m], .int .i64 7]) ∧ Below w.heap.size w w' := by
  have H0 := Lib.hid (((Held.refl w).own [.bool false, .int .u64 s, .slice A a.length n, .slice B b.length m] 26 (n := 4) rfl).own [.bool false, .int .u64 0, .slice none 0 0, .slice none 0 0] 26 (n := 4) rfl)
  have BL0 := Lib.hid ((Box.new w [.bool false, .int .u64 s, .slice A a.length n, .slice B b.length m] 26).alloc (.cells ([.bool false, .int .u64 0, .slice none 0 0, .slice none 0 0] : List Value).toArray 26))
  have BR0 := Lib.hid (Box.new2 w (.cells ([.bool false, .int .u64 s, .slice A a.length n, .slice B b.length m] : List Value).toArray 26) [.bool false, .int .u64 0, .slice none 0 0, .slice none 0 0] 26)
  rw [World.size_alloc] at H0
  go_enter Try.func10, Try.ntmps10
  go_wp2_with fail
  refine (kside_any 1 true rfl _).mono ?_
  rintro e w1 ⟨rfl, hb1⟩
  have H1 := Lib.hid (H0.out.up hb1)
  have BL1 := Lib.hid (BL0.out.below hb1)
  have BR1 := Lib.hid (BR0.out.below hb1)
  clear H0 BL0 BR0 hb1
  have kl := BL1.out.cell
  have fl := BL1.out.frozen
  have kr := BR1.out.cell
  have fr := BR1.out.frozen
  go_wp2_with fail
  refine bodyPost_ret (v := .tuple #[.agg #[.bool false, .int .u64 s, .slice A a.length n, .slice B b.length m], .int .i64 7]) (by simp [results, Try.results10, go_sem, kr]) rfl ⟨rfl, ?_⟩
  exact (H1.out.set4 (b := w.heap.size + 1) ⟨4, by simp⟩ (.bool false) (.int .u64 s) (.slice A a.length n) (.slice B b.length m)).below

set_option maxRecDepth 100000 in
set_option maxHeartbeats 4000000 in
theorem ks_0 (s : Int) (a b : List ByteArray) (A B : Option Addr) (n m : Nat) (P : Option Addr) (np : Nat) (p : List ByteArray) (w : World) (hk : Lk w ⟨true, s, a, b⟩ A n B m) (hp : Es Value.string w w.heap.size P p) (hP : P = none → np = 0) (hl : a.length ≤ 100000) (hlp : p.length ≤ 100000) : Calls Try.prog 10 #[.agg #[.bool true, .int .u64 s, .slice A a.length n, .slice B b.length m], .int .i64 0, .slice P p.length np] w (GivesK ⟨true, s, a ++ p, b⟩ (fun v => .tuple #[v, .int .i64 0]) w) := by
  have H0 := Lib.hid (((Held.refl w).own [.bool true, .int .u64 s, .slice A a.length n, .slice B b.length m] 26 (n := 4) rfl).own [.bool false, .int .u64 0, .slice none 0 0, .slice none 0 0] 26 (n := 4) rfl)
  have BL0 := Lib.hid ((Box.new w [.bool true, .int .u64 s, .slice A a.length n, .slice B b.length m] 26).alloc (.cells ([.bool false, .int .u64 0, .slice none 0 0, .slice none 0 0] : List Value).toArray 26))
  have BR0 := Lib.hid (Box.new2 w (.cells ([.bool true, .int .u64 s, .slice A a.length n, .slice B b.length m] : List Value).toArray 26) [.bool false, .int .u64 0, .slice none 0 0, .slice none 0 0] 26)
  rw [World.size_alloc] at H0
  have HK := Lib.hid hk; clear hk
  have HP := Lib.hid hp; clear hp
  have HPN := Lib.hid hP; clear hP
  go_enter Try.func10, Try.ntmps10
  go_wp2_with fail
  refine (kside_any 0 true rfl _).mono ?_
  rintro e w1 ⟨rfl, hb1⟩
  have H1 := Lib.hid (H0.out.up hb1)
  have BL1 := Lib.hid (BL0.out.below hb1)
  have BR1 := Lib.hid (BR0.out.below hb1)
  have P1 := Lib.hid (HK.out.up H1.out.below)
  have E1 := Lib.hid (HP.out.up H1.out.below)
  clear H0 BL0 BR0 hb1
  have kl := BL1.out.cell
  go_wp2_with fail
  refine (kconcat_any w1.heap.size A P n np a p (w1.alloc (.cells #[.slice A a.length n, .slice P p.length np] 23)) (by simp) (by simp) (by simp) (P1.out.ea.up below1) (E1.out.up below1) P1.out.na HPN.out (by omega)).mono ?_
  rintro e w2 ⟨v, rfl, hown2, hb2⟩
  obtain ⟨A2, c2, rfl, hA2, _⟩ := own_es hown2
  have HO := Lib.hid hown2; clear hown2 hl hlp
  have BA : Below w1.heap.size w1 (w1.alloc (.cells #[.slice A a.length n, .slice P p.length np] 23)) := below1
  have hB2 : Below w1.heap.size w1 w2 := ext BA hb2
  have hpl : w.heap.size < (w1.alloc (.cells #[.slice A a.length n, .slice P p.length np] 23)).heap.size := Nat.lt_of_lt_of_le BL1.out.lt BA.size
  have hpr : w.heap.size + 1 < (w1.alloc (.cells #[.slice A a.length n, .slice P p.length np] 23)).heap.size := Nat.lt_of_lt_of_le BR1.out.lt BA.size
  have HL := Lib.hid (And.intro hpl hpr)
  generalize hq0 : a ++ p = z at *
  have HZ := Lib.hid hq0; clear hq0
  have H2 := Lib.hid (H1.out.up hB2)
  have BL2 := Lib.hid (BL1.out.below hB2)
  have BR2 := Lib.hid (BR1.out.below hB2)
  clear hB2 hb2 H1 BL1 BR1 P1 E1 kl BA hpl hpr
  have kl := BL2.out.cell
  have fl := BL2.out.frozen
  have kr := BR2.out.cell
  have fr := BR2.out.frozen
  go_wp2_with fail
  refine bodyPost_ret (v := .tuple #[.agg #[.bool true, .int .u64 s, .slice A2 z.length c2, .slice B b.length m], .int .i64 0]) (by simp [results, Try.results10, go_sem, kr]) rfl ?_
  have HF := (H2.out.set (b := w.heap.size) ⟨4, by simp⟩ 2 (.slice A2 z.length c2)).set4 (b := w.heap.size + 1) ⟨4, by simp⟩ (.bool true) (.int .u64 s) (.slice A2 z.length c2) (.slice B b.length m)
  have HQ := own_past (own_past (own_past (own_past (own_past HO.out HL.out.1 2 (.slice A2 z.length c2)) HL.out.2 0 (.bool true)) HL.out.2 1 (.int .u64 s)) HL.out.2 2 (.slice A2 z.length c2)) HL.out.2 3 (.slice B b.length m)
  have hq := es_of_own HQ
  unfold GivesK
  rw [HZ.out]
  exact ⟨A2, c2, B, m, rfl, ⟨hq.1, HK.out.eb.up HF.below, hq.2.1, HK.out.nb, hq.2.2, HK.out.lb⟩, HF.below⟩

set_option maxRecDepth 100000 in
set_option maxHeartbeats 4000000 in
theorem ks_1 (s : Int) (a b : List ByteArray) (A B : Option Addr) (n m : Nat) (P : Option Addr) (np : Nat) (p : List ByteArray) (w : World) (hk : Lk w ⟨true, s, a, b⟩ A n B m) (hp : Es Value.string w w.heap.size P p) (hP : P = none → np = 0) (hl : b.length ≤ 100000) (hlp : p.length ≤ 100000) : Calls Try.prog 10 #[.agg #[.bool true, .int .u64 s, .slice A a.length n, .slice B b.length m], .int .i64 1, .slice P p.length np] w (GivesK ⟨true, s, a, b ++ p⟩ (fun v => .tuple #[v, .int .i64 0]) w) := by
  have H0 := Lib.hid (((Held.refl w).own [.bool true, .int .u64 s, .slice A a.length n, .slice B b.length m] 26 (n := 4) rfl).own [.bool false, .int .u64 0, .slice none 0 0, .slice none 0 0] 26 (n := 4) rfl)
  have BL0 := Lib.hid ((Box.new w [.bool true, .int .u64 s, .slice A a.length n, .slice B b.length m] 26).alloc (.cells ([.bool false, .int .u64 0, .slice none 0 0, .slice none 0 0] : List Value).toArray 26))
  have BR0 := Lib.hid (Box.new2 w (.cells ([.bool true, .int .u64 s, .slice A a.length n, .slice B b.length m] : List Value).toArray 26) [.bool false, .int .u64 0, .slice none 0 0, .slice none 0 0] 26)
  rw [World.size_alloc] at H0
  have HK := Lib.hid hk; clear hk
  have HP := Lib.hid hp; clear hp
  have HPN := Lib.hid hP; clear hP
  go_enter Try.func10, Try.ntmps10
  go_wp2_with fail
  refine (kside_any 1 true rfl _).mono ?_
  rintro e w1 ⟨rfl, hb1⟩
  have H1 := Lib.hid (H0.out.up hb1)
  have BL1 := Lib.hid (BL0.out.below hb1)
  have BR1 := Lib.hid (BR0.out.below hb1)
  have P1 := Lib.hid (HK.out.up H1.out.below)
  have E1 := Lib.hid (HP.out.up H1.out.below)
  clear H0 BL0 BR0 hb1
  have kl := BL1.out.cell
  go_wp2_with fail
  refine (kconcat_any w1.heap.size B P m np b p (w1.alloc (.cells #[.slice B b.length m, .slice P p.length np] 23)) (by simp) (by simp) (by simp) (P1.out.eb.up below1) (E1.out.up below1) P1.out.nb HPN.out (by omega)).mono ?_
  rintro e w2 ⟨v, rfl, hown2, hb2⟩
  obtain ⟨A2, c2, rfl, hA2, _⟩ := own_es hown2
  have HO := Lib.hid hown2; clear hown2 hl hlp
  have BA : Below w1.heap.size w1 (w1.alloc (.cells #[.slice B b.length m, .slice P p.length np] 23)) := below1
  have hB2 : Below w1.heap.size w1 w2 := ext BA hb2
  have hpl : w.heap.size < (w1.alloc (.cells #[.slice B b.length m, .slice P p.length np] 23)).heap.size := Nat.lt_of_lt_of_le BL1.out.lt BA.size
  have hpr : w.heap.size + 1 < (w1.alloc (.cells #[.slice B b.length m, .slice P p.length np] 23)).heap.size := Nat.lt_of_lt_of_le BR1.out.lt BA.size
  have HL := Lib.hid (And.intro hpl hpr)
  generalize hq0 : b ++ p = z at *
  have HZ := Lib.hid hq0; clear hq0
  have H2 := Lib.hid (H1.out.up hB2)
  have BL2 := Lib.hid (BL1.out.below hB2)
  have BR2 := Lib.hid (BR1.out.below hB2)
  clear hB2 hb2 H1 BL1 BR1 P1 E1 kl BA hpl hpr
  have kl := BL2.out.cell
  have fl := BL2.out.frozen
  have kr := BR2.out.cell
  have fr := BR2.out.frozen
  go_wp2_with fail
  refine bodyPost_ret (v := .tuple #[.agg #[.bool true, .int .u64 s, .slice A a.length n, .slice A2 z.length c2], .int .i64 0]) (by simp [results, Try.results10, go_sem, kr]) rfl ?_
  have HF := (H2.out.set (b := w.heap.size) ⟨4, by simp⟩ 3 (.slice A2 z.length c2)).set4 (b := w.heap.size + 1) ⟨4, by simp⟩ (.bool true) (.int .u64 s) (.slice A a.length n) (.slice A2 z.length c2)
  have HQ := own_past (own_past (own_past (own_past (own_past HO.out HL.out.1 3 (.slice A2 z.length c2)) HL.out.2 0 (.bool true)) HL.out.2 1 (.int .u64 s)) HL.out.2 2 (.slice A a.length n)) HL.out.2 3 (.slice A2 z.length c2)
  have hq := es_of_own HQ
  unfold GivesK
  rw [HZ.out]
  exact ⟨A, n, A2, c2, rfl, ⟨HK.out.ea.up HF.below, hq.1, HK.out.na, hq.2.1, HK.out.la, hq.2.2⟩, HF.below⟩

theorem ksend_any (x : Lnk) (A B : Option Addr) (n m : Nat) (g : Int) (P : Option Addr) (np : Nat) (p : List ByteArray) (w : World) (hk : Lk w x A n B m) (hp : Es Value.string w w.heap.size P p) (hP : P = none → np = 0) (_hnp : p.length ≤ np) (hl : x.a.length ≤ 100000) (hl2 : x.b.length ≤ 100000) (hlp : p.length ≤ 100000) :
    Calls Try.prog 10 #[lkV x A n B m, .int .i64 g, .slice P p.length np] w (GivesK (x.send g p) (fun v => .tuple #[v, .int .i64 (x.sendE g)]) w) := by
  obtain ⟨u, s, a, b⟩ := x
  by_cases h0 : g = 0
  · subst h0
    cases u
    · exact (ks_down0 s a b A B n m P np p w).mono fun e w' h => ⟨A, n, B, m, h.1, hk.up h.2, h.2⟩
    · exact ks_0 s a b A B n m P np p w hk hp hP hl hlp
  · by_cases h1 : g = 1
    · subst h1
      cases u
      · exact (ks_down1 s a b A B n m P np p w).mono fun e w' h => ⟨A, n, B, m, h.1, hk.up h.2, h.2⟩
      · exact ks_1 s a b A B n m P np p w hk hp hP hl2 hlp
    · have e1 : isSide g = false := by unfold isSide; simp [h0, h1]
      have e2 : (Lnk.send ⟨u, s, a, b⟩ g p) = ⟨u, s, a, b⟩ := by unfold Lnk.send; rw [e1]; simp
      have e3 : (Lnk.sendE ⟨u, s, a, b⟩ g) = 1 := by unfold Lnk.sendE; rw [e1]; simp
      rw [e2, e3]
      exact (ks_arg s a b A B n m P np p u g e1 w).mono fun e w' h => ⟨A, n, B, m, h.1, hk.up h.2, h.2⟩
end Go.Proofs.Ytbjbdlgbppanmaa
