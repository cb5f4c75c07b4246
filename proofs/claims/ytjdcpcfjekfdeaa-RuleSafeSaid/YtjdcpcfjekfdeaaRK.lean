/- Rule: the walk of RuleSafe, the whole of it. No condition but the width of the masks. -/
import Derived.Test.YtjdcpcfjekfdeaaRK0
import Derived.Test.YtjdcpcfjekfdeaaRK1
import Derived.Test.YtjdcpcfjekfdeaaRK2
import Derived.Test.YtjdcpcfjekfdeaaRK3
namespace Go.Proofs.Ytjdcpcfjekfdeaa
open Go.RowKit

set_option maxRecDepth 100000 in
set_option maxHeartbeats 16000000 in
theorem safe_no (x y : Hel) (w : World) (hx : x.m < 4294967296) (hy : y.m < 4294967296) (hr : (x.right && y.right) = false) : Calls Try.prog 6 #[helV x, helV y] w (Yes w) := by
  have h1 := fun w => rhright_any x w hx
  have h2 := fun w => rhright_any y w hy
  have hg : x.right = true → y.right = false := fun h => by rw [h] at hr; simpa using hr
  clear hr hx hy
  generalize x.right = g at *
  generalize y.right = g2 at *
  obtain ⟨n, c, b, o, p, i, r, d, q, m⟩ := x
  obtain ⟨n2, c2, b2, o2, p2, i2, r2, d2, q2, m2⟩ := y
  dsimp only [helV] at *
  have HR1 := Lib.hid h1; clear h1
  have HR2 := Lib.hid h2; clear h2
  have HG := Lib.hid hg; clear hg
  have H0 := ((Held.refl w).lay [.int .i64 n, .int .u64 c, .int .u64 b, .int .u64 o, .int .u64 p, .bool i, .bool r, .bool d, .bool q, .int .u32 (m : Int)] 28).lay [.int .i64 n2, .int .u64 c2, .int .u64 b2, .int .u64 o2, .int .u64 p2, .bool i2, .bool r2, .bool d2, .bool q2, .int .u32 (m2 : Int)] 28
  simp only [World.size_alloc] at H0
  replace H0 := Lib.hid H0
  cases g
  · clear HG
    go_enter Try.func6, Try.ntmps6
    go_wp2_with fail
    refine (ualive_any _).mono ?_
    rintro e w1 ⟨rfl, hb⟩
    have H1 := Lib.hid (H0.out.up hb)
    clear hb H0
    have k0 := H1.out.b0.cell
    have k1 := H1.out.b1.cell
    go_wp2_with fail
    refine (HR1.out _).mono ?_
    rintro e w2 ⟨rfl, hb⟩
    have H2 := Lib.hid (H1.out.up hb)
    clear hb H1 k0 k1
    have k0 := H2.out.b0.cell
    have k1 := H2.out.b1.cell
    go_wp2_with fail
    go_ret
    exact ⟨rfl, H2.out.below⟩
  · obtain rfl := HG.out rfl
    clear HG
    go_enter Try.func6, Try.ntmps6
    go_wp2_with fail
    refine (ualive_any _).mono ?_
    rintro e w1 ⟨rfl, hb⟩
    have H1 := Lib.hid (H0.out.up hb)
    clear hb H0
    have k0 := H1.out.b0.cell
    have k1 := H1.out.b1.cell
    go_wp2_with fail
    refine (HR1.out _).mono ?_
    rintro e w2 ⟨rfl, hb⟩
    have H2 := Lib.hid (H1.out.up hb)
    clear hb H1 k0 k1
    have k0 := H2.out.b0.cell
    have k1 := H2.out.b1.cell
    go_wp2_with fail
    refine (HR2.out _).mono ?_
    rintro e w3 ⟨rfl, hb⟩
    have H3 := Lib.hid (H2.out.up hb)
    clear hb H2 k0 k1
    have k0 := H3.out.b0.cell
    have k1 := H3.out.b1.cell
    go_wp2_with fail
    go_ret
    exact ⟨rfl, H3.out.below⟩

set_option maxRecDepth 100000 in
set_option maxHeartbeats 16000000 in
theorem safe_none (x y : Hel) (w : World) (hx : x.m < 4294967296) (hy : y.m < 4294967296) (hr : x.right = true) (hs : y.right = true) (ha : decS x y = -1 ∧ (decK x y = 1 ∨ decK x y = 4)) : Calls Try.prog 6 #[helV x, helV y] w (Yes w) := by
  have h1 := fun w => rhright_any x w hx
  have h2 := fun w => rhright_any y w hy
  rw [hr] at h1
  rw [hs] at h2
  have hd := fun w => decide_any x y w
  clear hr hs hx hy
  generalize decK x y = K at *
  generalize decS x y = S at *
  obtain ⟨n, c, b, o, p, i, r, d, q, m⟩ := x
  obtain ⟨n2, c2, b2, o2, p2, i2, r2, d2, q2, m2⟩ := y
  dsimp only [helV] at *
  have HR1 := Lib.hid h1; clear h1
  have HR2 := Lib.hid h2; clear h2
  have HD := Lib.hid hd; clear hd
  have H0 := ((Held.refl w).lay [.int .i64 n, .int .u64 c, .int .u64 b, .int .u64 o, .int .u64 p, .bool i, .bool r, .bool d, .bool q, .int .u32 (m : Int)] 28).lay [.int .i64 n2, .int .u64 c2, .int .u64 b2, .int .u64 o2, .int .u64 p2, .bool i2, .bool r2, .bool d2, .bool q2, .int .u32 (m2 : Int)] 28
  simp only [World.size_alloc] at H0
  replace H0 := Lib.hid H0
  rcases ha with ⟨rfl, rfl | rfl⟩
  · go_enter Try.func6, Try.ntmps6
    go_wp2_with fail
    refine (ualive_any _).mono ?_
    rintro e w1 ⟨rfl, hb⟩
    have H1 := Lib.hid (H0.out.up hb)
    clear hb H0
    have k0 := H1.out.b0.cell
    have k1 := H1.out.b1.cell
    go_wp2_with fail
    refine (HR1.out _).mono ?_
    rintro e w2 ⟨rfl, hb⟩
    have H2 := Lib.hid (H1.out.up hb)
    clear hb H1 k0 k1
    have k0 := H2.out.b0.cell
    have k1 := H2.out.b1.cell
    go_wp2_with fail
    refine (HR2.out _).mono ?_
    rintro e w3 ⟨rfl, hb⟩
    have H3 := Lib.hid (H2.out.up hb)
    clear hb H2 k0 k1
    have k0 := H3.out.b0.cell
    have k1 := H3.out.b1.cell
    go_wp2_with fail
    refine (HD.out _).mono ?_
    rintro e w4 ⟨rfl, hb⟩
    have H4 := Lib.hid ((H3.out.up hb).lay [.int .i64 1, .int .i64 (-1)] 32)
    clear hb H3 k0 k1
    have k0 := H4.out.b0.cell
    have k1 := H4.out.b1.cell
    have k2 := H4.out.b2.cell
    go_wp2_with fail
    go_ret
    exact ⟨rfl, H4.out.below⟩
  · go_enter Try.func6, Try.ntmps6
    go_wp2_with fail
    refine (ualive_any _).mono ?_
    rintro e w1 ⟨rfl, hb⟩
    have H1 := Lib.hid (H0.out.up hb)
    clear hb H0
    have k0 := H1.out.b0.cell
    have k1 := H1.out.b1.cell
    go_wp2_with fail
    refine (HR1.out _).mono ?_
    rintro e w2 ⟨rfl, hb⟩
    have H2 := Lib.hid (H1.out.up hb)
    clear hb H1 k0 k1
    have k0 := H2.out.b0.cell
    have k1 := H2.out.b1.cell
    go_wp2_with fail
    refine (HR2.out _).mono ?_
    rintro e w3 ⟨rfl, hb⟩
    have H3 := Lib.hid (H2.out.up hb)
    clear hb H2 k0 k1
    have k0 := H3.out.b0.cell
    have k1 := H3.out.b1.cell
    go_wp2_with fail
    refine (HD.out _).mono ?_
    rintro e w4 ⟨rfl, hb⟩
    have H4 := Lib.hid ((H3.out.up hb).lay [.int .i64 4, .int .i64 (-1)] 32)
    clear hb H3 k0 k1
    have k0 := H4.out.b0.cell
    have k1 := H4.out.b1.cell
    have k2 := H4.out.b2.cell
    go_wp2_with fail
    go_ret
    exact ⟨rfl, H4.out.below⟩

theorem safe_yes (x y : Hel) (w : World) (hx : x.m < 4294967296) (hy : y.m < 4294967296) (hr : x.right = true) (hs : y.right = true) : Calls Try.prog 6 #[helV x, helV y] w (Yes w) := by
  rcases dec_safe x y with h | ⟨hk, hn, ⟨h0, h1⟩ | ⟨h0, h1⟩⟩
  · exact safe_none x y w hx hy hr hs h
  · rcases hk with hk | hk
    · exact safe02_yes x y w hx hy hr hs hn hk h0 h1
    · exact safe03_yes x y w hx hy hr hs hn hk h0 h1
  · rcases hk with hk | hk
    · exact safe12_yes x y w hx hy hr hs hn hk h0 h1
    · exact safe13_yes x y w hx hy hr hs hn hk h0 h1

theorem safe_law (x y : Hel) (w : World) (hx : x.m < 4294967296) (hy : y.m < 4294967296) : Calls Try.prog 6 #[helV x, helV y] w (Yes w) := by
  cases hr : (x.right && y.right)
  · exact safe_no x y w hx hy hr
  · rw [Bool.and_eq_true] at hr
    exact safe_yes x y w hx hy hr.1 hr.2

end Go.Proofs.Ytjdcpcfjekfdeaa
