/- Superblocks read: eight bytes as a number, one behind the other, on both sides; the reference's Encode; what a row of bytes reads as. -/
import Derived.Test.YtlgfinomkpingaaS3
namespace Go.Proofs.Ytlgfinomkpingaa
open Go.RowKit

/-- The number of eight bytes from a place on. -/
def num8 (l : List UInt8) (k : Nat) : Int := ((val ((l.drop k).take 8) : Nat) : Int)

theorem num8_range (l : List UInt8) (k : Nat) : 0 ≤ num8 l k ∧ num8 l k < 18446744073709551616 := by
  unfold num8
  have h := val_lt ((l.drop k).take 8)
  have h2 : ((l.drop k).take 8).length ≤ 8 := by rw [List.length_take]; omega
  have h3 : 256 ^ ((l.drop k).take 8).length ≤ 256 ^ 8 := Nat.pow_le_pow_right (by decide) h2
  have h4 : (256 : Nat) ^ 8 = 18446744073709551616 := by decide
  omega

theorem extract_num8 (s : ByteArray) (k : Nat) : ((val (s.extract k (k + 8)).data.toList : Nat) : Int) = num8 s.data.toList k := by
  unfold num8
  obtain ⟨⟨l⟩⟩ := s
  have e : ((⟨⟨l⟩⟩ : ByteArray).extract k (k + 8)).data.toList = (l.drop k).take 8 := by
    simp [List.extract, show k + 8 - k = 8 from by omega]
  rw [e]

theorem extract8 (s : ByteArray) (k : Nat) (h : k + 8 ≤ s.size) : (s.extract k (k + 8)).size = 8 := by simp; omega

theorem rnumber_any (s : ByteArray) (k : Nat) (w : World) (hk : (k : Int) + 8 ≤ s.size) (h9 : (k : Int) ≤ 3000) :
    Calls Try.prog 71 #[.string s, .int .i64 k] w fun e w' => e = .returned (.int .u64 (num8 s.data.toList k)) ∧ w' = w := by
  have g := extract_num8 s k
  have z := extract8 s k (by omega)
  have G := Lib.hid g; clear g
  have Z := Lib.hid z; clear z
  generalize num8 s.data.toList k = x at *
  go_enter Try.func71, Try.ntmps71
  go_wp2_with fail
  refine (rget64_yes _ _ Z.out).mono ?_
  rintro e w1 ⟨rfl, rfl⟩
  rw [G.out]
  go_wp2_with fail
  go_ret
  exact ⟨rfl, rfl⟩

set_option maxHeartbeats 1000000 in
theorem rencode_yes (s : Sup) (w : World) (hw : s.wide) (hr : s.right = true) :
    Calls Try.prog 40 #[supV s] w fun e w' => e = .returned (.tuple #[.string s.bytes, .int .i64 0]) ∧ Below w.heap.size w w' := by
  have hsr := fun w => rsright_any s w
  rw [hr] at hsr
  have hn : 1 ≤ s.n ∧ s.n ≤ 32 := by
    unfold Sup.right at hr
    simp at hr
    exact hr.1
  have hb := fun w => rbytes_any s w hw (by omega) (by omega)
  have hbl := body_length s
  have hz : ((txt s.body).size : Int) ≤ 3000 := by rw [txt_size, hbl]; decide
  have he : txt (sealed (txt s.body).data.toList) = s.bytes := rfl
  generalize s.bytes = y at *
  generalize s.body = x at *
  obtain ⟨n, c, b, o, p, i, r, d⟩ := s
  dsimp only [supV] at *
  have HSR := Lib.hid hsr; clear hsr hr
  have HB := Lib.hid hb; clear hb
  have HE := Lib.hid he; clear he
  have HZ := Lib.hid hz; clear hz
  have HH := Lib.hid ((Held.refl w).lay [.int .i64 n, .int .u64 c, .int .u64 b, .int .u64 o, .int .u64 p, .bool i, .bool r, .bool d] 52)
  go_enter Try.func40, Try.ntmps40
  go_wp2_with fail
  refine (HSR.out _).mono ?_
  rintro e w1 ⟨rfl, hb⟩
  have H1 := Lib.hid (HH.out.up hb)
  clear hb HH
  have k := H1.out.b0.cell
  go_wp2_with fail
  refine (HB.out _).mono ?_
  rintro e w2 ⟨rfl, hb⟩
  have H2 := Lib.hid (H1.out.up hb)
  clear hb H1 k
  go_wp2_with fail
  refine (rseal_any _ _ HZ.out).mono ?_
  rintro e w3 ⟨rfl, hb⟩
  have H3 := Lib.hid (H2.out.up hb)
  clear hb H2
  rw [HE.out]
  go_wp2_with fail
  go_ret2
  exact ⟨rfl, H3.out.below⟩

set_option maxHeartbeats 1000000 in
theorem rencode_no (s : Sup) (w : World) (hr : s.right = false) :
    Calls Try.prog 40 #[supV s] w fun e w' => e = .returned (.tuple #[.string ⟨#[]⟩, .int .i64 1]) ∧ Below w.heap.size w w' := by
  have hsr := fun w => rsright_any s w
  rw [hr] at hsr
  obtain ⟨n, c, b, o, p, i, r, d⟩ := s
  dsimp only [supV] at *
  have HSR := Lib.hid hsr; clear hsr hr
  go_enter Try.func40, Try.ntmps40
  go_wp2_with fail
  refine (HSR.out _).mono ?_
  rintro e w1 ⟨rfl, hb⟩
  go_wp2_with fail
  go_ret2
  exact ⟨rfl, ext below1 hb⟩

end Go.Proofs.Ytlgfinomkpingaa
