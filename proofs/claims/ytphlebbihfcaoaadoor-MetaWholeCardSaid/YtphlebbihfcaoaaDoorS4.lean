/- Superblocks read: eight bytes as a number, one behind the other, on both sides; the reference's Encode; what a row of bytes reads as. -/
import Derived.Test.YtphlebbihfcaoaaDoorS3
namespace Go.Proofs.YtphlebbihfcaoaaDoor
open Go.RowKit

/-- The number of eight bytes from a place on. -/
def num8 (l : List UInt8) (k : Nat) : Int := ((val ((l.drop k).take 8) : Nat) : Int)

theorem num8_range (l : List UInt8) (k : Nat) : 0 ≤ num8 l k ∧ num8 l k < 18446744073709551616 := by
  unfold num8
  have h := val_lt ((l.drop k).take 8)
  have h2 : ((l.drop k).take 8).length ≤ 8 := by rw [List.length_take]; omega
  have h3 : 256 ^ ((l.drop k).take 8).length ≤ 256 ^ 8 := Nat.pow_le_pow_right (by decide) h2
  have h4 : (256 : Nat) ^ 8 = 18446744073709551616 := by decide
  omega

theorem extract_num8 (s : ByteArray) (k : Nat) : ((val (s.extract k (k + 8)).data.toList : Nat) : Int) = num8 s.data.toList k := by
  unfold num8
  obtain ⟨⟨l⟩⟩ := s
  have e : ((⟨⟨l⟩⟩ : ByteArray).extract k (k + 8)).data.toList = (l.drop k).take 8 := by
    simp [List.extract, show k + 8 - k = 8 from by omega]
  rw [e]

theorem extract8 (s : ByteArray) (k : Nat) (h : k + 8 ≤ s.size) : (s.extract k (k + 8)).size = 8 := by simp; omega

theorem get64_b (s : ByteArray) (w : World) (h0 : s.size = 8) :
    Calls Tryd.prog 69 #[.string s] w fun e w' => e = .returned (.tuple #[.int .u64 (val s.data.toList), .bool true]) ∧ Below w.heap.size w w' := by
  refine (get64_yes s w h0).mono ?_
  rintro e w' ⟨rfl, n, rfl⟩
  exact ⟨rfl, below_drewN (Below.refl _ _) n⟩

set_option maxRecDepth 100000 in
set_option maxHeartbeats 1000000 in
theorem sread_any (s : ByteArray) (w : World) (hs : (s.size : Int) = 32) :
    Calls Tryd.prog 54 #[.string s] w fun e w' => e = .returned (.agg #[.int .u64 (num8 s.data.toList 0), .int .u64 (num8 s.data.toList 8), .int .u64 (num8 s.data.toList 16), .int .u64 (num8 s.data.toList 24)]) ∧ Below w.heap.size w w' := by
  have g0 := extract_num8 s 0
  have g1 := extract_num8 s 8
  have g2 := extract_num8 s 16
  have g3 := extract_num8 s 24
  have z0 := extract8 s 0 (by omega)
  have z1 := extract8 s 8 (by omega)
  have z2 := extract8 s 16 (by omega)
  have z3 := extract8 s 24 (by omega)
  have G0 := Lib.hid g0; clear g0
  have G1 := Lib.hid g1; clear g1
  have G2 := Lib.hid g2; clear g2
  have G3 := Lib.hid g3; clear g3
  have Z0 := Lib.hid z0; clear z0
  have Z1 := Lib.hid z1; clear z1
  have Z2 := Lib.hid z2; clear z2
  have Z3 := Lib.hid z3; clear z3
  generalize num8 s.data.toList 0 = x0 at *
  generalize num8 s.data.toList 8 = x1 at *
  generalize num8 s.data.toList 16 = x2 at *
  generalize num8 s.data.toList 24 = x3 at *
  have H0 := Lib.hid (((Held.refl w).own [Value.int .u64 0, .int .u64 0, .int .u64 0, .int .u64 0] 74 (n := 4) rfl).own [Value.int .u64 0, .int .u64 0, .int .u64 0, .int .u64 0] 74 (n := 4) rfl)
  have X0 := Lib.hid (Box.new2 w (.cells #[.int .u64 0, .int .u64 0, .int .u64 0, .int .u64 0] 74) [Value.int .u64 0, .int .u64 0, .int .u64 0, .int .u64 0] 74)
  rw [World.size_alloc] at H0
  go_enter Tryd.func54, Tryd.ntmps54
  go_wp2_with fail
  refine wp_loop_rounds 5 ?_
  rw [rounds_succ]
  go_wp2_with fail
  refine (get64_b _ _ Z0.out).mono ?_
  rintro e w1 ⟨rfl, hb⟩
  rw [G0.out]
  have kx := (X0.out.below hb).cell
  have fx := (X0.out.below hb).frozen
  have H1 := Lib.hid ((H0.out.up hb).set (b := w.heap.size + 1) ⟨4, by simp⟩ 0 (.int .u64 x0))
  have X1 := Lib.hid ((X0.out.below hb).set 0 (.int .u64 x0))
  simp only [List.set_cons_zero] at X1
  clear hb H0 X0
  go_wp2_with fail
  generalize w1.setCell ⟨w.heap.size + 1, 0, none⟩ (.int .u64 x0) = v1 at *
  clear kx fx
  rw [rounds_succ]
  go_wp2_with fail
  refine (get64_b _ _ Z1.out).mono ?_
  rintro e w2 ⟨rfl, hb⟩
  rw [G1.out]
  have kx := (X1.out.below hb).cell
  have fx := (X1.out.below hb).frozen
  have H2 := Lib.hid ((H1.out.up hb).set (b := w.heap.size + 1) ⟨4, by simp⟩ 1 (.int .u64 x1))
  have X2 := Lib.hid ((X1.out.below hb).set 1 (.int .u64 x1))
  simp only [List.set_cons_zero, List.set_cons_succ] at X2
  clear hb H1 X1
  go_wp2_with fail
  generalize w2.setCell ⟨w.heap.size + 1, 1, none⟩ (.int .u64 x1) = v2 at *
  clear kx fx
  rw [rounds_succ]
  go_wp2_with fail
  refine (get64_b _ _ Z2.out).mono ?_
  rintro e w3 ⟨rfl, hb⟩
  rw [G2.out]
  have kx := (X2.out.below hb).cell
  have fx := (X2.out.below hb).frozen
  have H3 := Lib.hid ((H2.out.up hb).set (b := w.heap.size + 1) ⟨4, by simp⟩ 2 (.int .u64 x2))
  have X3 := Lib.hid ((X2.out.below hb).set 2 (.int .u64 x2))
  simp only [List.set_cons_zero, List.set_cons_succ] at X3
  clear hb H2 X2
  go_wp2_with fail
  generalize w3.setCell ⟨w.heap.size + 1, 2, none⟩ (.int .u64 x2) = v3 at *
  clear kx fx
  rw [rounds_succ]
  go_wp2_with fail
  refine (get64_b _ _ Z3.out).mono ?_
  rintro e w4 ⟨rfl, hb⟩
  rw [G3.out]
  have kx := (X3.out.below hb).cell
  have fx := (X3.out.below hb).frozen
  have H4 := Lib.hid ((H3.out.up hb).set (b := w.heap.size + 1) ⟨4, by simp⟩ 3 (.int .u64 x3))
  have X4 := Lib.hid ((X3.out.below hb).set 3 (.int .u64 x3))
  simp only [List.set_cons_zero, List.set_cons_succ] at X4
  clear hb H3 X3
  go_wp2_with fail
  generalize w4.setCell ⟨w.heap.size + 1, 3, none⟩ (.int .u64 x3) = v4 at *
  clear kx fx
  rw [rounds_succ]
  obtain ⟨u0, u1, u2, u3, hy⟩ := H4.out.o1.four
  have kx := X4.out.cell
  have ky := hy.cell
  have fy := hy.frozen
  have H5 := Lib.hid ((((H4.out.set (b := w.heap.size) ⟨4, by simp⟩ 0 (.int .u64 x0)).set (b := w.heap.size) ⟨4, by simp⟩ 1 (.int .u64 x1)).set (b := w.heap.size) ⟨4, by simp⟩ 2 (.int .u64 x2)).set (b := w.heap.size) ⟨4, by simp⟩ 3 (.int .u64 x3))
  clear H4
  go_wp2_with fail
  have hz := hy.four (.int .u64 x0) (.int .u64 x1) (.int .u64 x2) (.int .u64 x3)
  generalize (((v4.setCell ⟨w.heap.size, 0, none⟩ (.int .u64 x0)).setCell ⟨w.heap.size, 1, none⟩ (.int .u64 x1)).setCell ⟨w.heap.size, 2, none⟩ (.int .u64 x2)).setCell ⟨w.heap.size, 3, none⟩ (.int .u64 x3) = v5 at *
  have kz := hz.cell
  refine bodyPost_ret (v := .agg #[.int .u64 x0, .int .u64 x1, .int .u64 x2, .int .u64 x3]) (by simp [results, Tryd.results54, go_sem, kz]) rfl ⟨rfl, ?_⟩
  exact H5.out.below

theorem rnumber_any (s : ByteArray) (k : Nat) (w : World) (hk : (k : Int) + 8 ≤ s.size) (h9 : (k : Int) ≤ 3000) :
    Calls Tryd.prog 36 #[.string s, .int .i64 k] w fun e w' => e = .returned (.int .u64 (num8 s.data.toList k)) ∧ w' = w := by
  have g := extract_num8 s k
  have z := extract8 s k (by omega)
  have G := Lib.hid g; clear g
  have Z := Lib.hid z; clear z
  generalize num8 s.data.toList k = x at *
  go_enter Tryd.func36, Tryd.ntmps36
  go_wp2_with fail
  refine (rget64_yes _ _ Z.out).mono ?_
  rintro e w1 ⟨rfl, rfl⟩
  rw [G.out]
  go_wp2_with fail
  go_ret
  exact ⟨rfl, rfl⟩

set_option maxHeartbeats 1000000 in
theorem rencode_yes (s : Sup) (w : World) (hw : s.wide) (hr : s.right = true) :
    Calls Tryd.prog 26 #[supV s] w fun e w' => e = .returned (.tuple #[.string s.bytes, .int .i64 0]) ∧ Below w.heap.size w w' := by
  have hsr := fun w => rsright_any s w
  rw [hr] at hsr
  have hn : 1 ≤ s.n ∧ s.n ≤ 32 := by
    unfold Sup.right at hr
    simp at hr
    exact hr.1
  have hb := fun w => rbytes_any s w hw (by omega) (by omega)
  have hbl := body_length s
  have hz : ((txt s.body).size : Int) ≤ 3000 := by rw [txt_size, hbl]; decide
  have he : txt (sealed (txt s.body).data.toList) = s.bytes := rfl
  generalize s.bytes = y at *
  generalize s.body = x at *
  obtain ⟨n, c, b, o, p, i, r, d⟩ := s
  dsimp only [supV] at *
  have HSR := Lib.hid hsr; clear hsr hr
  have HB := Lib.hid hb; clear hb
  have HE := Lib.hid he; clear he
  have HZ := Lib.hid hz; clear hz
  have HH := Lib.hid ((Held.refl w).lay [.int .i64 n, .int .u64 c, .int .u64 b, .int .u64 o, .int .u64 p, .bool i, .bool r, .bool d] 31)
  go_enter Tryd.func26, Tryd.ntmps26
  go_wp2_with fail
  refine (HSR.out _).mono ?_
  rintro e w1 ⟨rfl, hb⟩
  have H1 := Lib.hid (HH.out.up hb)
  clear hb HH
  have k := H1.out.b0.cell
  go_wp2_with fail
  refine (HB.out _).mono ?_
  rintro e w2 ⟨rfl, hb⟩
  have H2 := Lib.hid (H1.out.up hb)
  clear hb H1 k
  go_wp2_with fail
  refine (rseal_any _ _ HZ.out).mono ?_
  rintro e w3 ⟨rfl, hb⟩
  have H3 := Lib.hid (H2.out.up hb)
  clear hb H2
  rw [HE.out]
  go_wp2_with fail
  go_ret2
  exact ⟨rfl, H3.out.below⟩

set_option maxHeartbeats 1000000 in
theorem rencode_no (s : Sup) (w : World) (hr : s.right = false) :
    Calls Tryd.prog 26 #[supV s] w fun e w' => e = .returned (.tuple #[.string ⟨#[]⟩, .int .i64 1]) ∧ Below w.heap.size w w' := by
  have hsr := fun w => rsright_any s w
  rw [hr] at hsr
  obtain ⟨n, c, b, o, p, i, r, d⟩ := s
  dsimp only [supV] at *
  have HSR := Lib.hid hsr; clear hsr hr
  go_enter Tryd.func26, Tryd.ntmps26
  go_wp2_with fail
  refine (HSR.out _).mono ?_
  rintro e w1 ⟨rfl, hb⟩
  go_wp2_with fail
  go_ret2
  exact ⟨rfl, ext below1 hb⟩

end Go.Proofs.YtphlebbihfcaoaaDoor
