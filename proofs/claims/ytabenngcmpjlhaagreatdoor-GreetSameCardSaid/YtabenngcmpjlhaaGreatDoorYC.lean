/- Links: what Send of the document answers. Under: lists of up to a hundred thousand texts. -/
import Derived.Deep.CutRange
import Derived.Test.YtabenngcmpjlhaaGreatDoorYB
namespace Go.Proofs.YtabenngcmpjlhaaGreatDoor
open Go.RowKit
theorem es_of_own {w : World} {base cap : Nat} {A : Option Addr} {l : List ByteArray} (h : w.ownsRow base 9 1 (.slice A l.length cap) l.length (l.map Value.string)) : Es Value.string w w.heap.size A l ∧ (A = none → cap = 0) ∧ l.length ≤ cap := by
  have hc := own_cap h
  obtain ⟨A', c', e, hn, h⟩ := own_es h
  injection e with e1 e2 e3
  subst e1; subst e3
  exact ⟨h, hn, hc⟩
set_option maxRecDepth 100000 in
set_option maxHeartbeats 4000000 in
theorem rks_arg (s : Int) (a b : List ByteArray) (A B : Option Addr) (n m : Nat) (P : Option Addr) (np : Nat) (p : List ByteArray) (u : Bool) (g : Int) (h0 : g ≠ 0) (h1 : g ≠ 1) (w : World) : Calls Tryz.prog 230 #[.agg #[.bool u, .int .u64 s, .slice A a.length n, .slice B b.length m], .int .i64 g, .slice P p.length np] w fun e w' => e = .returned (.tuple #[.agg #[.bool u, .int .u64 s, .slice A a.length n, .slice B b.length m], .int .i64 1]) ∧ Below w.heap.size w w' := by
  have e0 : (g != 0) = true := bne_iff_ne.2 h0
  have e1 : (g != 1) = true := bne_iff_ne.2 h1
  clear h0 h1
  have H0 := Lib.hid (((Held.refl w).own [.bool u, .int .u64 s, .slice A a.length n, .slice B b.length m] 81 (n := 4) rfl).own [.bool false, .int .u64 0, .slice none 0 0, .slice none 0 0] 81 (n := 4) rfl)
  have BL0 := Lib.hid ((Box.new w [.bool u, .int .u64 s, .slice A a.length n, .slice B b.length m] 81).alloc (.cells ([.bool false, .int .u64 0, .slice none 0 0, .slice none 0 0] : List Value).toArray 81))
  have BR0 := Lib.hid (Box.new2 w (.cells ([.bool u, .int .u64 s, .slice A a.length n, .slice B b.length m] : List Value).toArray 81) [.bool false, .int .u64 0, .slice none 0 0, .slice none 0 0] 81)
  rw [World.size_alloc] at H0
  have kl := BL0.out.cell
  have kr := BR0.out.cell
  have fr := BR0.out.frozen
  go_enter Tryz.func230, Tryz.ntmps230
  go_wp2_with fail
  refine bodyPost_ret (v := .tuple #[.agg #[.bool u, .int .u64 s, .slice A a.length n, .slice B b.length m], .int .i64 1]) (by simp [results, Tryz.results230, go_sem]) rfl ⟨rfl, ?_⟩
  exact below2
set_option maxRecDepth 100000 in
set_option maxHeartbeats 4000000 in
theorem rks_down0 (s : Int) (a b : List ByteArray) (A B : Option Addr) (n m : Nat) (P : Option Addr) (np : Nat) (p : List ByteArray)  (w : World) : Calls Tryz.prog 230 #[.agg #[.bool false, .int .u64 s, .slice A a.length n, .slice B b.length m], .int .i64 0, .slice P p.length np] w fun e w' => e = .returned (.tuple #[.agg #[.bool false, .int .u64 s, .slice A a.length n, .slice B b.length m], .int .i64 7]) ∧ Below w.heap.size w w' := by
  have H0 := Lib.hid (((Held.refl w).own [.bool false, .int .u64 s, .slice A a.length n, .slice B b.length m] 81 (n := 4) rfl).own [.bool false, .int .u64 0, .slice none 0 0, .slice none 0 0] 81 (n := 4) rfl)
  have BL0 := Lib.hid ((Box.new w [.bool false, .int .u64 s, .slice A a.length n, .slice B b.length m] 81).alloc (.cells ([.bool false, .int .u64 0, .slice none 0 0, .slice none 0 0] : List Value).toArray 81))
  have BR0 := Lib.hid (Box.new2 w (.cells ([.bool false, .int .u64 s, .slice A a.length n, .slice B b.length m] : List Value).toArray 81) [.bool false, .int .u64 0, .slice none 0 0, .slice none 0 0] 81)
  rw [World.size_alloc] at H0
  have kl := BL0.out.cell
  have kr := BR0.out.cell
  have fr := BR0.out.frozen
  go_enter Tryz.func230, Tryz.ntmps230
  go_wp2_with fail
  refine bodyPost_ret (v := .tuple #[.agg #[.bool false, .int .u64 s, .slice A a.length n, .slice B b.length m], .int .i64 7]) (by simp [results, Tryz.results230, go_sem]) rfl ⟨rfl, ?_⟩
  exact below2
set_option maxRecDepth 100000 in
set_option maxHeartbeats 4000000 in
theorem rks_down1 (s : Int) (a b : List ByteArray) (A B : Option Addr) (n m : Nat) (P : Option Addr) (np : Nat) (p : List ByteArray)  (w : World) : Calls Tryz.prog 230 #[.agg #[.bool false, .int .u64 s, .slice A a.length n, .slice B b.length m], .int .i64 1, .slice P p.length np] w fun e w' => e = .returned (.tuple #[.agg #[.bool false, .int .u64 s, .slice A a.length n, .slice B b.length m], .int .i64 7]) ∧ Below w.heap.size w w' := by
  have H0 := Lib.hid (((Held.refl w).own [.bool false, .int .u64 s, .slice A a.length n, .slice B b.length m] 81 (n := 4) rfl).own [.bool false, .int .u64 0, .slice none 0 0, .slice none 0 0] 81 (n := 4) rfl)
  have BL0 := Lib.hid ((Box.new w [.bool false, .int .u64 s, .slice A a.length n, .slice B b.length m] 81).alloc (.cells ([.bool false, .int .u64 0, .slice none 0 0, .slice none 0 0] : List Value).toArray 81))
  have BR0 := Lib.hid (Box.new2 w (.cells ([.bool false, .int .u64 s, .slice A a.length n, .slice B b.length m] : List Value).toArray 81) [.bool false, .int .u64 0, .slice none 0 0, .slice none 0 0] 81)
  rw [World.size_alloc] at H0
  have kl := BL0.out.cell
  have kr := BR0.out.cell
  have fr := BR0.out.frozen
  go_enter Tryz.func230, Tryz.ntmps230
  go_wp2_with fail
  refine bodyPost_ret (v := .tuple #[.agg #[.bool false, .int .u64 s, .slice A a.length n, .slice B b.length m], .int .i64 7]) (by simp [results, Tryz.results230, go_sem]) rfl ⟨rfl, ?_⟩
  exact below2
set_option maxRecDepth 100000 in
set_option maxHeartbeats 4000000 in
theorem rks_0 (s : Int) (a b : List ByteArray) (A B : Option Addr) (n m : Nat) (P : Option Addr) (np : Nat) (p : List ByteArray) (w : World) (hk : Lk w ⟨true, s, a, b⟩ A n B m) (hp : Es Value.string w w.heap.size P p) (hP : P = none → np = 0) (hl : a.length ≤ 100000) (hlp : p.length ≤ 100000) : Calls Tryz.prog 230 #[.agg #[.bool true, .int .u64 s, .slice A a.length n, .slice B b.length m], .int .i64 0, .slice P p.length np] w (GivesK ⟨true, s, a ++ p, b⟩ (fun v => .tuple #[v, .int .i64 0]) w) := by
  have H0 := Lib.hid (((Held.refl w).own [.bool true, .int .u64 s, .slice A a.length n, .slice B b.length m] 81 (n := 4) rfl).own [.bool false, .int .u64 0, .slice none 0 0, .slice none 0 0] 81 (n := 4) rfl)
  have BL0 := Lib.hid ((Box.new w [.bool true, .int .u64 s, .slice A a.length n, .slice B b.length m] 81).alloc (.cells ([.bool false, .int .u64 0, .slice none 0 0, .slice none 0 0] : List Value).toArray 81))
  have BR0 := Lib.hid (Box.new2 w (.cells ([.bool true, .int .u64 s, .slice A a.length n, .slice B b.length m] : List Value).toArray 81) [.bool false, .int .u64 0, .slice none 0 0, .slice none 0 0] 81)
  rw [World.size_alloc] at H0
  have P0 := Lib.hid ((hk.alloc (.cells ([.bool true, .int .u64 s, .slice A a.length n, .slice B b.length m] : List Value).toArray 81)).alloc (.cells ([.bool false, .int .u64 0, .slice none 0 0, .slice none 0 0] : List Value).toArray 81))
  have E0 := Lib.hid ((hp.up (below1 (o := .cells ([.bool true, .int .u64 s, .slice A a.length n, .slice B b.length m] : List Value).toArray 81))).up (below1 (o := .cells ([.bool false, .int .u64 0, .slice none 0 0, .slice none 0 0] : List Value).toArray 81)))
  have HK := Lib.hid hk; clear hk hp
  go_enter Tryz.func230, Tryz.ntmps230
  go_upto_region 5 with fail
  generalize (w.alloc (.cells #[.bool true, .int .u64 s, .slice A a.length n, .slice B b.length m] 81)).alloc (.cells #[.bool false, .int .u64 0, .slice none 0 0, .slice none 0 0] 81) = W at *
  have kl := (BL0.out.alloc (.cells #[] 9)).cell
  go_wp2_with (at_builtin; refine app_txts rfl _ _ rfl _ W.heap.size ?c1 _ [] rfl ?c2 A n a ?c3 rfl ?c4 ?c5 ?_)
  case c1 => simp
  case c2 => exact own_zero W _ (Nat.le_refl _)
  case c3 => exact P0.out.na
  case c4 => exact P0.out.ea.up below1
  case c5 => simp; omega
  intro v1 w1 hown1 hb1
  have hB1 : Below W.heap.size W w1 := (below1 (o := .cells #[] 9)).trans hb1
  go_wp2_with (at_builtin; refine app_txts rfl _ _ rfl _ W.heap.size ?d1 _ a rfl ?d2 P np p ?d3 rfl ?d4 ?d5 ?_)
  case d1 => exact hB1.size
  case d2 => exact hown1
  case d3 => exact hP
  case d4 => exact E0.out.up hB1
  case d5 => omega
  intro v2 w2 hown2 hb2
  have hB2 : Below W.heap.size W w2 := hB1.trans hb2
  rw [← List.map_append, ← List.length_append] at hown2
  clear hown1 hb1 hB1 hb2 kl
  obtain ⟨A2, c2, rfl, hA2, _⟩ := own_es hown2
  have HO := Lib.hid hown2; clear hown2 hl hlp hP
  generalize hq0 : a ++ p = z at *
  have HZ := Lib.hid hq0; clear hq0
  have hpl : w.heap.size < W.heap.size := BL0.out.lt
  have hpr : w.heap.size + 1 < W.heap.size := BR0.out.lt
  have H2 := Lib.hid (H0.out.up hB2)
  have BL2 := Lib.hid (BL0.out.below hB2)
  have BR2 := Lib.hid (BR0.out.below hB2)
  clear hB2 H0 BL0 BR0 P0 E0
  have kl := BL2.out.cell
  have fl := BL2.out.frozen
  have kr := BR2.out.cell
  have fr := BR2.out.frozen
  go_wp2_with fail
  refine bodyPost_ret (v := .tuple #[.agg #[.bool true, .int .u64 s, .slice A2 z.length c2, .slice B b.length m], .int .i64 0]) (by simp [results, Tryz.results230, go_sem, kr]) rfl ?_
  have HF := (H2.out.set (b := w.heap.size) ⟨4, by simp⟩ 2 (.slice A2 z.length c2)).set4 (b := w.heap.size + 1) ⟨4, by simp⟩ (.bool true) (.int .u64 s) (.slice A2 z.length c2) (.slice B b.length m)
  have HQ := own_past (own_past (own_past (own_past (own_past HO.out hpl 2 (.slice A2 z.length c2)) hpr 0 (.bool true)) hpr 1 (.int .u64 s)) hpr 2 (.slice A2 z.length c2)) hpr 3 (.slice B b.length m)
  have hq := es_of_own HQ
  unfold GivesK
  rw [HZ.out]
  exact ⟨A2, c2, B, m, rfl, ⟨hq.1, HK.out.eb.up HF.below, hq.2.1, HK.out.nb, hq.2.2, HK.out.lb, own_ty HQ, HK.out.tb.up HF.below⟩, HF.below⟩
set_option maxRecDepth 100000 in
set_option maxHeartbeats 4000000 in
theorem rks_1 (s : Int) (a b : List ByteArray) (A B : Option Addr) (n m : Nat) (P : Option Addr) (np : Nat) (p : List ByteArray) (w : World) (hk : Lk w ⟨true, s, a, b⟩ A n B m) (hp : Es Value.string w w.heap.size P p) (hP : P = none → np = 0) (hl : b.length ≤ 100000) (hlp : p.length ≤ 100000) : Calls Tryz.prog 230 #[.agg #[.bool true, .int .u64 s, .slice A a.length n, .slice B b.length m], .int .i64 1, .slice P p.length np] w (GivesK ⟨true, s, a, b ++ p⟩ (fun v => .tuple #[v, .int .i64 0]) w) := by
  have H0 := Lib.hid (((Held.refl w).own [.bool true, .int .u64 s, .slice A a.length n, .slice B b.length m] 81 (n := 4) rfl).own [.bool false, .int .u64 0, .slice none 0 0, .slice none 0 0] 81 (n := 4) rfl)
  have BL0 := Lib.hid ((Box.new w [.bool true, .int .u64 s, .slice A a.length n, .slice B b.length m] 81).alloc (.cells ([.bool false, .int .u64 0, .slice none 0 0, .slice none 0 0] : List Value).toArray 81))
  have BR0 := Lib.hid (Box.new2 w (.cells ([.bool true, .int .u64 s, .slice A a.length n, .slice B b.length m] : List Value).toArray 81) [.bool false, .int .u64 0, .slice none 0 0, .slice none 0 0] 81)
  rw [World.size_alloc] at H0
  have P0 := Lib.hid ((hk.alloc (.cells ([.bool true, .int .u64 s, .slice A a.length n, .slice B b.length m] : List Value).toArray 81)).alloc (.cells ([.bool false, .int .u64 0, .slice none 0 0, .slice none 0 0] : List Value).toArray 81))
  have E0 := Lib.hid ((hp.up (below1 (o := .cells ([.bool true, .int .u64 s, .slice A a.length n, .slice B b.length m] : List Value).toArray 81))).up (below1 (o := .cells ([.bool false, .int .u64 0, .slice none 0 0, .slice none 0 0] : List Value).toArray 81)))
  have HK := Lib.hid hk; clear hk hp
  go_enter Tryz.func230, Tryz.ntmps230
  go_upto_region 5 with fail
  generalize (w.alloc (.cells #[.bool true, .int .u64 s, .slice A a.length n, .slice B b.length m] 81)).alloc (.cells #[.bool false, .int .u64 0, .slice none 0 0, .slice none 0 0] 81) = W at *
  have kl := (BL0.out.alloc (.cells #[] 9)).cell
  go_wp2_with (at_builtin; refine app_txts rfl _ _ rfl _ W.heap.size ?c1 _ [] rfl ?c2 B m b ?c3 rfl ?c4 ?c5 ?_)
  case c1 => simp
  case c2 => exact own_zero W _ (Nat.le_refl _)
  case c3 => exact P0.out.nb
  case c4 => exact P0.out.eb.up below1
  case c5 => simp; omega
  intro v1 w1 hown1 hb1
  have hB1 : Below W.heap.size W w1 := (below1 (o := .cells #[] 9)).trans hb1
  go_wp2_with (at_builtin; refine app_txts rfl _ _ rfl _ W.heap.size ?d1 _ b rfl ?d2 P np p ?d3 rfl ?d4 ?d5 ?_)
  case d1 => exact hB1.size
  case d2 => exact hown1
  case d3 => exact hP
  case d4 => exact E0.out.up hB1
  case d5 => omega
  intro v2 w2 hown2 hb2
  have hB2 : Below W.heap.size W w2 := hB1.trans hb2
  rw [← List.map_append, ← List.length_append] at hown2
  clear hown1 hb1 hB1 hb2 kl
  obtain ⟨A2, c2, rfl, hA2, _⟩ := own_es hown2
  have HO := Lib.hid hown2; clear hown2 hl hlp hP
  generalize hq0 : b ++ p = z at *
  have HZ := Lib.hid hq0; clear hq0
  have hpl : w.heap.size < W.heap.size := BL0.out.lt
  have hpr : w.heap.size + 1 < W.heap.size := BR0.out.lt
  have H2 := Lib.hid (H0.out.up hB2)
  have BL2 := Lib.hid (BL0.out.below hB2)
  have BR2 := Lib.hid (BR0.out.below hB2)
  clear hB2 H0 BL0 BR0 P0 E0
  have kl := BL2.out.cell
  have fl := BL2.out.frozen
  have kr := BR2.out.cell
  have fr := BR2.out.frozen
  go_wp2_with fail
  refine bodyPost_ret (v := .tuple #[.agg #[.bool true, .int .u64 s, .slice A a.length n, .slice A2 z.length c2], .int .i64 0]) (by simp [results, Tryz.results230, go_sem, kr]) rfl ?_
  have HF := (H2.out.set (b := w.heap.size) ⟨4, by simp⟩ 3 (.slice A2 z.length c2)).set4 (b := w.heap.size + 1) ⟨4, by simp⟩ (.bool true) (.int .u64 s) (.slice A a.length n) (.slice A2 z.length c2)
  have HQ := own_past (own_past (own_past (own_past (own_past HO.out hpl 3 (.slice A2 z.length c2)) hpr 0 (.bool true)) hpr 1 (.int .u64 s)) hpr 2 (.slice A a.length n)) hpr 3 (.slice A2 z.length c2)
  have hq := es_of_own HQ
  unfold GivesK
  rw [HZ.out]
  exact ⟨A, n, A2, c2, rfl, ⟨HK.out.ea.up HF.below, hq.1, HK.out.na, hq.2.1, HK.out.la, hq.2.2, HK.out.ta.up HF.below, own_ty HQ⟩, HF.below⟩
theorem rksend_any (x : Lnk) (A B : Option Addr) (n m : Nat) (g : Int) (P : Option Addr) (np : Nat) (p : List ByteArray) (w : World) (hk : Lk w x A n B m) (hp : Es Value.string w w.heap.size P p) (hP : P = none → np = 0) (hl : x.a.length ≤ 100000) (hl2 : x.b.length ≤ 100000) (hlp : p.length ≤ 100000) :
    Calls Tryz.prog 230 #[lkV x A n B m, .int .i64 g, .slice P p.length np] w (GivesK (x.send g p) (fun v => .tuple #[v, .int .i64 (x.sendE g)]) w) := by
  obtain ⟨u, s, a, b⟩ := x
  by_cases h0 : g = 0
  · subst h0
    cases u
    · exact (rks_down0 s a b A B n m P np p w).mono fun e w' h => ⟨A, n, B, m, h.1, hk.up h.2, h.2⟩
    · exact rks_0 s a b A B n m P np p w hk hp hP hl hlp
  · by_cases h1 : g = 1
    · subst h1
      cases u
      · exact (rks_down1 s a b A B n m P np p w).mono fun e w' h => ⟨A, n, B, m, h.1, hk.up h.2, h.2⟩
      · exact rks_1 s a b A B n m P np p w hk hp hP hl2 hlp
    · have e1 : isSide g = false := by unfold isSide; simp [h0, h1]
      have e2 : (Lnk.send ⟨u, s, a, b⟩ g p) = ⟨u, s, a, b⟩ := by unfold Lnk.send; rw [e1]; simp
      have e3 : (Lnk.sendE ⟨u, s, a, b⟩ g) = 1 := by unfold Lnk.sendE; rw [e1]; simp
      rw [e2, e3]
      exact (rks_arg s a b A B n m P np p u g h0 h1 w).mono fun e w' h => ⟨A, n, B, m, h.1, hk.up h.2, h.2⟩
end Go.Proofs.YtabenngcmpjlhaaGreatDoor
