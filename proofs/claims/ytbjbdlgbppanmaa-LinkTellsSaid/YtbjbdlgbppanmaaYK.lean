/- Links: the law LinkTells, put together. Under: nothing but that the lists lie in memory. -/
import Derived.Test.YtbjbdlgbppanmaaYL
namespace Go.Proofs.Ytbjbdlgbppanmaa
open Go.RowKit

set_option maxRecDepth 100000 in
set_option maxHeartbeats 4000000 in
theorem ktells_first (u : Bool) (s : Int) (a b : List ByteArray) (A B : Option Addr) (n m : Nat) (u2 : Bool) (s2 : Int) (a2 b2 : List ByteArray) (A2 B2 : Option Addr) (n2 m2 : Nat) (g : Int) (w : World) (hg1 : Lnk.great ⟨u, s, a, b⟩ = true) :
    Calls Try.prog 3 #[.agg #[.bool u, .int .u64 s, .slice A a.length n, .slice B b.length m], .agg #[.bool u2, .int .u64 s2, .slice A2 a2.length n2, .slice B2 b2.length m2], .int .i64 g] w (Yes w) := by
  have g1 := fun w => rkgreatG_any ⟨u, s, a, b⟩ A B n m w
  rw [hg1] at g1
  have G1 := Lib.hid g1; clear g1 hg1
  have H0 := Lib.hid (((Held.refl w).lay [.bool u, .int .u64 s, .slice A a.length n, .slice B b.length m] 26).lay [.bool u2, .int .u64 s2, .slice A2 a2.length n2, .slice B2 b2.length m2] 26)
  rw [World.size_alloc] at H0
  go_enter Try.func3, Try.ntmps3
  go_wp2_with fail
  refine (kalive_any _).mono ?_
  rintro e w1 ⟨rfl, hb⟩
  have H1 := Lib.hid (H0.out.up hb)
  clear hb H0
  have k0 := H1.out.b0.cell
  have k1 := H1.out.b1.cell
  go_wp2_with fail
  refine (G1.out _).mono ?_
  rintro e w2 ⟨rfl, hb⟩
  have H2 := Lib.hid (H1.out.up hb)
  clear hb H1 k0 k1
  go_wp2_with fail
  go_ret
  exact ⟨rfl, H2.out.below⟩

set_option maxRecDepth 100000 in
set_option maxHeartbeats 4000000 in
theorem ktells_second (u : Bool) (s : Int) (a b : List ByteArray) (A B : Option Addr) (n m : Nat) (u2 : Bool) (s2 : Int) (a2 b2 : List ByteArray) (A2 B2 : Option Addr) (n2 m2 : Nat) (g : Int) (w : World) (hg1 : Lnk.great ⟨u, s, a, b⟩ = false) (hg2 : Lnk.great ⟨u2, s2, a2, b2⟩ = true) :
    Calls Try.prog 3 #[.agg #[.bool u, .int .u64 s, .slice A a.length n, .slice B b.length m], .agg #[.bool u2, .int .u64 s2, .slice A2 a2.length n2, .slice B2 b2.length m2], .int .i64 g] w (Yes w) := by
  have g1 := fun w => rkgreatG_any ⟨u, s, a, b⟩ A B n m w
  rw [hg1] at g1
  have G1 := Lib.hid g1; clear g1 hg1
  have g2 := fun w => rkgreatG_any ⟨u2, s2, a2, b2⟩ A2 B2 n2 m2 w
  rw [hg2] at g2
  have G2 := Lib.hid g2; clear g2 hg2
  have H0 := Lib.hid (((Held.refl w).lay [.bool u, .int .u64 s, .slice A a.length n, .slice B b.length m] 26).lay [.bool u2, .int .u64 s2, .slice A2 a2.length n2, .slice B2 b2.length m2] 26)
  rw [World.size_alloc] at H0
  go_enter Try.func3, Try.ntmps3
  go_wp2_with fail
  refine (kalive_any _).mono ?_
  rintro e w1 ⟨rfl, hb⟩
  have H1 := Lib.hid (H0.out.up hb)
  clear hb H0
  have k0 := H1.out.b0.cell
  have k1 := H1.out.b1.cell
  go_wp2_with fail
  refine (G1.out _).mono ?_
  rintro e w2 ⟨rfl, hb⟩
  have H2 := Lib.hid (H1.out.up hb)
  clear hb H1 k0 k1
  have k0 := H2.out.b0.cell
  have k1 := H2.out.b1.cell
  go_wp2_with fail
  refine (G2.out _).mono ?_
  rintro e w3 ⟨rfl, hb⟩
  have H3 := Lib.hid (H2.out.up hb)
  clear hb H2 k0 k1
  go_wp2_with fail
  go_ret
  exact ⟨rfl, H3.out.below⟩

theorem Lnk.on_a (x : Lnk) (g : Int) (l : List ByteArray) (h : l.length ≤ 100000) (ha : x.a.length ≤ 100000) : (x.on g l).a.length ≤ 100000 := by
  unfold Lnk.on
  split
  · exact h
  · exact ha
theorem Lnk.on_b (x : Lnk) (g : Int) (l : List ByteArray) (h : l.length ≤ 100000) (hb : x.b.length ≤ 100000) : (x.on g l).b.length ≤ 100000 := by
  unfold Lnk.on
  split
  · exact hb
  · exact h
theorem Lnk.side_le (x : Lnk) (g : Int) (ha : x.a.length ≤ 100) (hb : x.b.length ≤ 100) : (x.side g).length ≤ 100 := by
  unfold Lnk.side
  split
  · exact ha
  · exact hb
theorem Lnk.send_le (x : Lnk) (g : Int) (p : List ByteArray) (ha : x.a.length ≤ 100) (hb : x.b.length ≤ 100) (hp : p.length ≤ 100) : (x.send g p).a.length ≤ 100000 ∧ (x.send g p).b.length ≤ 100000 := by
  have := x.side_le g ha hb
  unfold Lnk.send
  split
  · exact ⟨x.on_a g _ (by rw [List.length_append]; omega) (by omega), x.on_b g _ (by rw [List.length_append]; omega) (by omega)⟩
  · exact ⟨by omega, by omega⟩
theorem Lnk.taken_le (x : Lnk) (g : Int) (ha : x.a.length ≤ 100) (hb : x.b.length ≤ 100) : (x.taken g).a.length ≤ 100000 ∧ (x.taken g).b.length ≤ 100000 := by
  have := x.side_le g ha hb
  unfold Lnk.taken
  split
  · exact ⟨x.on_a g _ (by rw [List.length_tail]; omega) (by omega), x.on_b g _ (by rw [List.length_tail]; omega) (by omega)⟩
  · exact ⟨by omega, by omega⟩

theorem ktells_law (x y : Lnk) (A B : Option Addr) (n m : Nat) (A2 B2 : Option Addr) (n2 m2 : Nat) (g : Int) (w : World) (hk : Lk w x A n B m) (hk2 : Lk w y A2 n2 B2 m2) :
    Calls Try.prog 3 #[lkV x A n B m, lkV y A2 n2 B2 m2, .int .i64 g] w (Yes w) := by
  cases hg1 : x.great
  · cases hg2 : y.great
    · have l1 := small_great hg1
      have l2 := small_great hg2
      have mt := x.taken_le g l1.1 l1.2
      have ms := x.send_le g [⟨#[112]⟩, ⟨#[113]⟩] l1.1 l1.2 (by simp)
      have h1 := fun A1 n1 B1 m1 (w : World) hk => ktake_any x A1 B1 n1 m1 g w hk (by omega) (by omega)
      have h2 := fun A1 n1 B1 m1 Q (w : World) hk hp => ksend_any x A1 B1 n1 m1 g Q 2 [⟨#[112]⟩, ⟨#[113]⟩] w hk hp (by intro e; obtain ⟨z, hz, _⟩ := hp 0 _ rfl; rw [hz] at e; cases e) (Nat.le_refl _) (by omega) (by omega) (by simp)
      have h3 := fun A1 n1 B1 m1 (w : World) hk => rktake_any x A1 B1 n1 m1 g w hk (by omega) (by omega)
      have h4 := fun A1 n1 B1 m1 Q (w : World) hk hp => rksend_any x A1 B1 n1 m1 g Q 2 [⟨#[112]⟩, ⟨#[113]⟩] w hk hp (by intro e; obtain ⟨z, hz, _⟩ := hp 0 _ rfl; rw [hz] at e; cases e) (by omega) (by omega) (by simp)
      have h5 := fun A1 n1 B1 m1 (w : World) hk => kopen_any x A1 B1 n1 m1 w hk
      have h6 := fun A1 n1 B1 m1 (w : World) (_ : Lk w x A1 n1 B1 m1) => rkopenG_any x A1 B1 n1 m1 w
      have h7 := fun A1 n1 B1 m1 (w : World) hk => kclose_any x A1 B1 n1 m1 w hk
      have h8 := fun A1 n1 B1 m1 (w : World) (_ : Lk w x A1 n1 B1 m1) => rkcloseG_any x A1 B1 n1 m1 w
      have h9 := fun A1 n1 B1 m1 (w : World) hk => kidle_any x A1 B1 n1 m1 w hk (by omega) (by omega)
      have h10 := fun A1 n1 B1 m1 (w : World) (_ : Lk w x A1 n1 B1 m1) => rkidleG_any x A1 B1 n1 m1 w (by omega) (by omega)
      have h11 := fun (w : World) hx hy => ksame_any x A B n m y A2 B2 n2 m2 w hx hy (by omega) (by omega) (by omega) (by omega)
      have h12 := fun (w : World) hx hy => rksameG_any x A B n m y A2 B2 n2 m2 w hx hy (by omega) (by omega)
      generalize x.taken g = M at *
      generalize x.send g [⟨#[112]⟩, ⟨#[113]⟩] = Y at *
      generalize x.first g = f1 at *
      generalize x.takes g = ok at *
      generalize x.sendE g = er at *
      generalize x.idle = ii at *
      generalize x.same y = sm at *
      have la : x.a.length ≤ 100000 := by omega
      have lb : x.b.length ≤ 100000 := by omega
      obtain ⟨u, s, a, b⟩ := x
      obtain ⟨u2, s2, a2, b2⟩ := y
      obtain ⟨mu, ms', ma, mb⟩ := M
      obtain ⟨yu, ys, ya, yb⟩ := Y
      exact ktells_go u s a b A B n m u2 s2 a2 b2 A2 B2 n2 m2 g w hk hk2 hg1 hg2 mu yu ms' ys er ma mb ya yb f1 ok ii sm mt.1 mt.2 ms.1 ms.2 la lb h1 h2 h5 h7 h9 h11 h3 h4 h6 h8 h10 h12
    · obtain ⟨u, s, a, b⟩ := x
      obtain ⟨u2, s2, a2, b2⟩ := y
      exact ktells_second u s a b A B n m u2 s2 a2 b2 A2 B2 n2 m2 g w hg1 hg2
  · obtain ⟨u, s, a, b⟩ := x
    obtain ⟨u2, s2, a2, b2⟩ := y
    exact ktells_first u s a b A B n m u2 s2 a2 b2 A2 B2 n2 m2 g w hg1
end Go.Proofs.Ytbjbdlgbppanmaa
