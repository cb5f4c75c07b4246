/- Rule: the walk of RuleOnes. No condition but the width of the masks. -/
import Derived.Test.YtjdcpcfjekfdeaaRH
import Derived.Test.YtjdcpcfjekfdeaaR1
namespace Go.Proofs.Ytjdcpcfjekfdeaa
open Go.RowKit

set_option maxRecDepth 100000 in
set_option maxHeartbeats 16000000 in
theorem ones_no (x y : Hel) (w : World) (hx : x.m < 4294967296) (hy : y.m < 4294967296) (hr : (x.right && y.right) = false) : Calls Try.prog 7 #[helV x, helV y] w (Yes w) := by
  have h1 := fun w => rhright_any x w hx
  have h2 := fun w => rhright_any y w hy
  have hg : x.right = true → y.right = false := fun h => by rw [h] at hr; simpa using hr
  clear hr hx hy
  generalize x.right = g at *
  generalize y.right = g2 at *
  obtain ⟨n, c, b, o, p, i, r, d, q, m⟩ := x
  obtain ⟨n2, c2, b2, o2, p2, i2, r2, d2, q2, m2⟩ := y
  dsimp only [helV] at *
  have HR1 := Lib.hid h1; clear h1
  have HR2 := Lib.hid h2; clear h2
  have HG := Lib.hid hg; clear hg
  have H0 := ((Held.refl w).lay [.int .i64 n, .int .u64 c, .int .u64 b, .int .u64 o, .int .u64 p, .bool i, .bool r, .bool d, .bool q, .int .u32 (m : Int)] 28).lay [.int .i64 n2, .int .u64 c2, .int .u64 b2, .int .u64 o2, .int .u64 p2, .bool i2, .bool r2, .bool d2, .bool q2, .int .u32 (m2 : Int)] 28
  simp only [World.size_alloc] at H0
  replace H0 := Lib.hid H0
  cases g
  · clear HG
    go_enter Try.func7, Try.ntmps7
    go_wp2_with fail
    refine (ualive_any _).mono ?_
    rintro e w1 ⟨rfl, hb⟩
    have H1 := Lib.hid (H0.out.up hb)
    clear hb H0
    have k0 := H1.out.b0.cell
    have k1 := H1.out.b1.cell
    go_wp2_with fail
    refine (HR1.out _).mono ?_
    rintro e w2 ⟨rfl, hb⟩
    have H2 := Lib.hid (H1.out.up hb)
    clear hb H1 k0 k1
    have k0 := H2.out.b0.cell
    have k1 := H2.out.b1.cell
    go_wp2_with fail
    go_ret
    exact ⟨rfl, H2.out.below⟩
  · obtain rfl := HG.out rfl
    clear HG
    go_enter Try.func7, Try.ntmps7
    go_wp2_with fail
    refine (ualive_any _).mono ?_
    rintro e w1 ⟨rfl, hb⟩
    have H1 := Lib.hid (H0.out.up hb)
    clear hb H0
    have k0 := H1.out.b0.cell
    have k1 := H1.out.b1.cell
    go_wp2_with fail
    refine (HR1.out _).mono ?_
    rintro e w2 ⟨rfl, hb⟩
    have H2 := Lib.hid (H1.out.up hb)
    clear hb H1 k0 k1
    have k0 := H2.out.b0.cell
    have k1 := H2.out.b1.cell
    go_wp2_with fail
    refine (HR2.out _).mono ?_
    rintro e w3 ⟨rfl, hb⟩
    have H3 := Lib.hid (H2.out.up hb)
    clear hb H2 k0 k1
    have k0 := H3.out.b0.cell
    have k1 := H3.out.b1.cell
    go_wp2_with fail
    go_ret
    exact ⟨rfl, H3.out.below⟩

set_option maxRecDepth 100000 in
set_option maxHeartbeats 16000000 in
theorem ones_yes (x y : Hel) (w : World) (hx : x.m < 4294967296) (hy : y.m < 4294967296) (hr : x.right = true) (hs : y.right = true) : Calls Try.prog 7 #[helV x, helV y] w (Yes w) := by
  have h1 := fun w => rhright_any x w hx
  have h2 := fun w => rhright_any y w hy
  rw [hr] at h1
  rw [hs] at h2
  have hd := fun w => decide_any x y w
  obtain ⟨n1, n2x, c1⟩ := Hel.right_n hr
  obtain ⟨n3, n4, c3⟩ := Hel.right_n hs
  have hb := fun w => bits_any (decK x y) (decS x y) x y w hx hy ⟨n1, n2x⟩
  have hz : decK x y = 1 → bitsB (decK x y) x y = 0 := fun h => by
    rw [h]
    rfl
  have ho := dec_ones x y c1 c3
  have hf : x.c = y.c → decK x y = 4 → whyB x y = true := fun hc h => like_four x y c1 hc h
  have hk : decK x y = 1 ∨ decK x y = 2 ∨ decK x y = 3 ∨ decK x y = 4 := by
    rcases dec_safe x y with ⟨_, h | h⟩ | ⟨h | h, _⟩ <;> simp [h]
  unfold whyB at hf
  clear hr hs hx hy n1 n2x n3 n4 c1 c3
  generalize bitsB (decK x y) x y = z at *
  obtain ⟨n, c, b, o, p, i, r, d, q, m⟩ := x
  obtain ⟨n2, c2, b2, o2, p2, i2, r2, d2, q2, m2⟩ := y
  dsimp only [helV] at *
  generalize decK ⟨n, c, b, o, p, i, r, d, q, m⟩ ⟨n2, c2, b2, o2, p2, i2, r2, d2, q2, m2⟩ = K at *
  generalize decS ⟨n, c, b, o, p, i, r, d, q, m⟩ ⟨n2, c2, b2, o2, p2, i2, r2, d2, q2, m2⟩ = S at *
  have HB := Lib.hid hb; clear hb
  have HR1 := Lib.hid h1; clear h1
  have HR2 := Lib.hid h2; clear h2
  have HD := Lib.hid hd; clear hd
  have H0 := ((Held.refl w).lay [.int .i64 n, .int .u64 c, .int .u64 b, .int .u64 o, .int .u64 p, .bool i, .bool r, .bool d, .bool q, .int .u32 (m : Int)] 28).lay [.int .i64 n2, .int .u64 c2, .int .u64 b2, .int .u64 o2, .int .u64 p2, .bool i2, .bool r2, .bool d2, .bool q2, .int .u32 (m2 : Int)] 28
  simp only [World.size_alloc] at H0
  replace H0 := Lib.hid H0
  go_enter Try.func7, Try.ntmps7
  dsimp only [List.append]
  go_wp2_with fail
  refine (ualive_any _).mono ?_
  rintro e w1 ⟨rfl, hb⟩
  have H1 := Lib.hid (H0.out.up hb)
  clear hb H0
  have k0 := H1.out.b0.cell
  have k1 := H1.out.b1.cell
  go_wp2_with fail
  refine (HR1.out _).mono ?_
  rintro e w2 ⟨rfl, hb⟩
  have H2 := Lib.hid (H1.out.up hb)
  clear hb H1 k0 k1
  have k0 := H2.out.b0.cell
  have k1 := H2.out.b1.cell
  go_wp2_with fail
  refine (HR2.out _).mono ?_
  rintro e w3 ⟨rfl, hb⟩
  have H3 := Lib.hid (H2.out.up hb)
  clear hb H2 k0 k1
  have k0 := H3.out.b0.cell
  have k1 := H3.out.b1.cell
  go_wp2_with fail
  refine (HD.out _).mono ?_
  rintro e w4 ⟨rfl, hb⟩
  have H4 := Lib.hid ((H3.out.up hb).lay [.int .i64 K, .int .i64 S] 32)
  clear hb H3 k0 k1
  have k0 := H4.out.b0.cell
  have k1 := H4.out.b1.cell
  have k2 := H4.out.b2.cell
  rcases hk with rfl | rfl | rfl | rfl
  · obtain ⟨rfl, rfl, rfl, rfl, rfl, rfl, rfl⟩ := ho rfl
    obtain rfl := hz rfl
    clear hf ho
    have ec : (c == c) = true := beq_self_eq_true c
    go_wp2_with fail
    refine (HB.out _).mono ?_
    rintro e w5 ⟨rfl, hb⟩
    have H5 := Lib.hid (H4.out.up hb)
    clear hb H4 k0 k1 k2
    have k0 := H5.out.b0.cell
    have k1 := H5.out.b1.cell
    have k2 := H5.out.b2.cell
    go_wp2_with fail
    go_ret
    exact ⟨rfl, H5.out.below⟩
  · clear hf ho hz
    go_wp2_with fail
    go_ret
    exact ⟨rfl, H4.out.below⟩
  · clear hf ho hz
    go_wp2_with fail
    go_ret
    exact ⟨rfl, H4.out.below⟩
  · clear ho hz
    by_cases hc : c = c2
    · subst hc
      have ec : (c == c) = true := beq_self_eq_true c
      replace hf := hf rfl rfl
      by_cases hn : n = n2
      · subst hn
        have en : (n != n) = false := bne_self_eq_false n
        cases q
        · cases i
          · cases d
            · cases i2
              · cases d2
                · simp at hf
                · cases q2
                  · simp at hf
                  · go_wp2_with fail
                    go_ret
                    exact ⟨rfl, H4.out.below⟩
              · cases q2
                · cases d2
                  · simp at hf
                  · simp at hf
                · go_wp2_with fail
                  go_ret
                  exact ⟨rfl, H4.out.below⟩
            · cases d2
              · cases i2
                · simp at hf
                · go_wp2_with fail
                  go_ret
                  exact ⟨rfl, H4.out.below⟩
              · go_wp2_with fail
                go_ret
                exact ⟨rfl, H4.out.below⟩
          · cases i2
            · cases d
              · cases d2
                · simp at hf
                · go_wp2_with fail
                  go_ret
                  exact ⟨rfl, H4.out.below⟩
              · cases d2
                · simp at hf
                · go_wp2_with fail
                  go_ret
                  exact ⟨rfl, H4.out.below⟩
            · go_wp2_with fail
              go_ret
              exact ⟨rfl, H4.out.below⟩
        · cases q2
          · cases i
            · cases d
              · cases i2
                · cases d2
                  · simp at hf
                  · simp at hf
                · cases d2
                  · simp at hf
                  · simp at hf
              · cases d2
                · cases i2
                  · go_wp2_with fail
                    go_ret
                    exact ⟨rfl, H4.out.below⟩
                  · go_wp2_with fail
                    go_ret
                    exact ⟨rfl, H4.out.below⟩
                · go_wp2_with fail
                  go_ret
                  exact ⟨rfl, H4.out.below⟩
            · cases i2
              · cases d
                · cases d2
                  · go_wp2_with fail
                    go_ret
                    exact ⟨rfl, H4.out.below⟩
                  · go_wp2_with fail
                    go_ret
                    exact ⟨rfl, H4.out.below⟩
                · cases d2
                  · go_wp2_with fail
                    go_ret
                    exact ⟨rfl, H4.out.below⟩
                  · go_wp2_with fail
                    go_ret
                    exact ⟨rfl, H4.out.below⟩
              · go_wp2_with fail
                go_ret
                exact ⟨rfl, H4.out.below⟩
          · go_wp2_with fail
            go_ret
            exact ⟨rfl, H4.out.below⟩
      · have en : (n != n2) = true := bne_iff_ne.2 hn
        clear hf
        go_wp2_with fail
        go_ret
        exact ⟨rfl, H4.out.below⟩
    · have ec : (c == c2) = false := beq_eq_false_iff_ne.2 hc
      clear hf
      go_wp2_with fail
      go_ret
      exact ⟨rfl, H4.out.below⟩

theorem ones_law (x y : Hel) (w : World) (hx : x.m < 4294967296) (hy : y.m < 4294967296) : Calls Try.prog 7 #[helV x, helV y] w (Yes w) := by
  cases hr : (x.right && y.right)
  · exact ones_no x y w hx hy hr
  · rw [Bool.and_eq_true] at hr
    exact ones_yes x y w hx hy hr.1 hr.2

end Go.Proofs.Ytjdcpcfjekfdeaa
