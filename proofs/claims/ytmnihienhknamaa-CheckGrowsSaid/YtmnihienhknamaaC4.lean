/- The walks of the laws on sums: each answers true, for every argument. No condition. -/
import Derived.Test.YtmnihienhknamaaC3
namespace Go.Proofs.Ytmnihienhknamaa
open Go.RowKit

/-- What the law answers: true, with all that was there as it was. -/
def Yes (w : World) (e : Ending) (w' : World) : Prop := e = .returned (.bool true) ∧ Below w.heap.size w w'

theorem ext {a b c : World} (h : Below a.heap.size a b) (k : Below b.heap.size b c) : Below a.heap.size a c := h.trans (k.mono h.size)
theorem ext_drewN {a b : World} (h : Below a.heap.size a b) (n : Nat) : Below a.heap.size a (b.drewN n) := below_drewN h n

/-- Both functions that open a text answer alike. -/
theorem open_both (s : ByteArray) (hs : (s.size : Int) ≤ 3000) : ∃ (r : ByteArray) (c : Int),
    (∀ w, Calls Try.prog 7 #[.string s] w fun e w' => e = .returned (.tuple #[.string r, .int .i64 c]) ∧ ∃ n, w' = w.drewN n) ∧
    (∀ w, Calls Try.prog 8 #[.string s] w fun e w' => e = .returned (.tuple #[.string r, .int .i64 c]) ∧ Below w.heap.size w w') := by
  by_cases h : (s.size : Int) < 4
  · exact ⟨_, _, fun w => open_short s w h, fun w => ropen_short s w h⟩
  · have hn : s.size = (s.size - 4) + 4 := by omega
    by_cases hw : whole (s.size - 4) s
    · exact ⟨_, _, fun w => open_good s _ w hs hn hw, fun w => ropen_good s _ w hs hn hw⟩
    · exact ⟨_, _, fun w => open_bad s _ w hs hn hw, fun w => ropen_bad s _ w hs hn hw⟩

set_option maxHeartbeats 1000000 in
theorem sums_long (s : ByteArray) (w : World) (hs : 2000 < (s.size : Int)) :
    Calls Try.prog 3 #[.string s] w (Yes w) := by
  go_enter Try.func3, Try.ntmps3
  go_wp2_with fail
  refine (alive_any _).mono ?_
  rintro e w1 ⟨rfl, hb1⟩
  go_wp2_with fail
  go_ret
  exact ⟨rfl, hb1⟩

set_option maxHeartbeats 1000000 in
theorem sums_short (s : ByteArray) (w : World) (hs : (s.size : Int) ≤ 2000) :
    Calls Try.prog 3 #[.string s] w (Yes w) := by
  have hs3 : (s.size : Int) ≤ 3000 := by omega
  obtain ⟨r, c, ho, hr⟩ := open_both s hs3
  have HO := Lib.hid ho; clear ho
  have HR := Lib.hid hr; clear hr
  go_enter Try.func3, Try.ntmps3
  go_wp2_with fail
  refine (alive_any _).mono ?_
  rintro e w1 ⟨rfl, hb1⟩
  go_wp2_with fail
  refine (HO.out _).mono ?_
  rintro e w2 ⟨rfl, n2, rfl⟩
  go_wp2_with fail
  refine (HR.out _).mono ?_
  rintro e w3 ⟨rfl, hb3⟩
  go_wp2_with fail
  refine (sum_any _ _ hs3).mono ?_
  rintro e w4 ⟨rfl, n4, rfl⟩
  go_wp2_with fail
  refine (rsum_any _ _ hs3).mono ?_
  rintro e w5 ⟨rfl, rfl⟩
  generalize ((fnv s.data.toList : Nat) : Int) = f
  go_wp2_with fail
  refine (seal_any _ _ hs3).mono ?_
  rintro e w6 ⟨rfl, hb6⟩
  go_wp2_with fail
  refine (rseal_any _ _ hs3).mono ?_
  rintro e w7 ⟨rfl, hb7⟩
  generalize txt (sealed s.data.toList) = x
  go_wp2_with fail
  go_ret
  exact ⟨rfl, ext (ext (ext_drewN (ext (ext_drewN hb1 n2) hb3) n4) hb6) hb7⟩

theorem sums_any (s : ByteArray) (w : World) : Calls Try.prog 3 #[.string s] w (Yes w) := by
  by_cases h : 2000 < (s.size : Int)
  · exact sums_long s w h
  · exact sums_short s w (by omega)

theorem ret_bool {b : Bool} (h : b = true) : Ending.returned (.bool b) = .returned (.bool true) := by rw [h]

theorem is_byte (b : Int) (h0 : 0 ≤ b) (h1 : b < 256) : ∃ c : UInt8, b = (c.toNat : Int) := by
  refine ⟨UInt8.ofNat b.toNat, ?_⟩
  have : (UInt8.ofNat b.toNat).toNat = b.toNat % 256 := by simp
  rw [this]
  omega

theorem one_byte (s : ByteArray) (c : UInt8) : s ++ strOfNums [(c.toNat : Int)] = txt (s.data.toList ++ [c]) := by
  obtain ⟨⟨l⟩⟩ := s
  rw [show strOfNums [(c.toNat : Int)] = (⟨([c] : List UInt8).toArray⟩ : ByteArray) from by simp [strOfNums]]
  exact join_str l [c]

set_option maxHeartbeats 1000000 in
theorem grows_long (s : ByteArray) (b : Int) (w : World) (hs : 2000 < (s.size : Int)) :
    Calls Try.prog 5 #[.string s, .int .u8 b] w (Yes w) := by
  go_enter Try.func5, Try.ntmps5
  go_wp2_with fail
  refine (alive_any _).mono ?_
  rintro e w1 ⟨rfl, hb1⟩
  go_wp2_with fail
  go_ret
  exact ⟨rfl, hb1⟩

set_option maxHeartbeats 1000000 in
theorem grows_short (s : ByteArray) (c : UInt8) (w : World) (hs : (s.size : Int) ≤ 2000) :
    Calls Try.prog 5 #[.string s, .int .u8 (c.toNat : Int)] w (Yes w) := by
  have hs3 : (s.size : Int) ≤ 3000 := by omega
  have c1 : ∀ (w : World) (n : Nat) (a : Int), (convert 31 9 (.slice (some ⟨w.heap.size, 0, none⟩) 1 1)).run Try.prog ((w.drewN n).alloc (.cells #[.int .u8 a] 5)) = .ok (.string (strOfNums [a])) ((w.drewN n).alloc (.cells #[.int .u8 a] 5)) :=
    fun w n a => conv_row (w.drewN n) _ rfl 1 [a] 1 rfl
  go_enter Try.func5, Try.ntmps5
  go_wp2_with fail
  refine (alive_any _).mono ?_
  rintro e w1 ⟨rfl, hb1⟩
  go_wp2_with fail
  refine (sum_any _ _ hs3).mono ?_
  rintro e w2 ⟨rfl, n2, rfl⟩
  have hf := fnv_lt s.data.toList
  generalize hg : fnv s.data.toList = f at *
  have HG := Lib.hid hg; clear hg
  have hz : ((strOfNums [(c.toNat : Int)]).size : Int) ≤ 1 := by rw [strOfNums_size]; simp
  have hc : (c.toNat : Int) < 256 := byte_lt c
  go_wp2_with fail
  rw [one_byte]
  refine (sum_any _ _ (by rw [txt_size, List.length_append, ← size_len]; simp; omega)).mono ?_
  rintro e w3 ⟨rfl, n3, rfl⟩
  rw [txt_data, fnv_snoc, HG.out]
  have hst := step64 f c hf
  go_wp2_with fail
  go_ret
  have hlt := step_lt f c
  exact ⟨ret_bool (by rw [IntWalk.u64_in _ (by omega), beq_self_eq_true]), below_drewN ((ext_drewN hb1 n2).alloc hb1.size _) n3⟩

theorem grows_any (s : ByteArray) (b : Int) (w : World) (h0 : 0 ≤ b) (h1 : b < 256) : Calls Try.prog 5 #[.string s, .int .u8 b] w (Yes w) := by
  by_cases h : 2000 < (s.size : Int)
  · exact grows_long s b w h
  · obtain ⟨c, rfl⟩ := is_byte b h0 h1
    exact grows_short s c w (by omega)
end Go.Proofs.Ytmnihienhknamaa
