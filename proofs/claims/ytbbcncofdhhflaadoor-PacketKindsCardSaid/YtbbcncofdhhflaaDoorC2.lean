/- Sealed texts opened: what both functions that open them answer, for every text of up to 3000 bytes. -/
import Derived.Test.YtbbcncofdhhflaaDoorC1
namespace Go.Proofs.YtbbcncofdhhflaaDoor
open Go.RowKit

/-- Of n bytes, and their sum behind them? -/
def whole (n : Nat) (s : ByteArray) : Prop := val (s.data.toList.drop n) = fnv (s.data.toList.take n)

theorem tail_list (s : ByteArray) (n : Nat) : (s.extract n s.size).data.toList = s.data.toList.drop n := by
  obtain ⟨⟨l⟩⟩ := s
  simp [ByteArray.size]
  exact List.take_of_length_le (by simp)
theorem head_list (s : ByteArray) (n : Nat) : (s.extract 0 n).data.toList = s.data.toList.take n := by
  obtain ⟨⟨l⟩⟩ := s
  simp

theorem text_ne {a b : ByteArray} (h : a ≠ b) : (a.toList == b.toList) = false := by
  rw [beq_eq_false_iff_ne, ByteArray.toList_eq, ByteArray.toList_eq]
  intro e
  exact h (ByteArray.ext (by rw [← Array.toList_inj]; exact e))

theorem ret_open {a b : ByteArray} (h : a = b) (c : Int) : Ending.returned (.tuple #[.string a, .int .i64 c]) = .returned (.tuple #[.string b, .int .i64 c]) := by rw [h]

theorem extract_txt (s : ByteArray) (n : Nat) : s.extract 0 n = txt (s.data.toList.take n) := by
  rw [← head_list, txt_of]

set_option maxHeartbeats 400000 in
theorem open_short (s : ByteArray) (w : World) (hs : (s.size : Int) < 4) :
    Calls Tryd.prog 42 #[.string s] w fun e w' => e = .returned (.tuple #[.string ⟨#[]⟩, .int .i64 2]) ∧ ∃ n, w' = w.drewN n := by
  go_enter Tryd.func42, Tryd.ntmps42
  go_wp2
  go_ret2
  exact ⟨rfl, 0, rfl⟩

set_option maxHeartbeats 400000 in
theorem open_good (s : ByteArray) (n : Nat) (w : World) (hs : (s.size : Int) ≤ 3000) (hn : s.size = n + 4) (hw : whole n s) :
    Calls Tryd.prog 42 #[.string s] w fun e w' => e = .returned (.tuple #[.string (txt (s.data.toList.take n)), .int .i64 0]) ∧ ∃ n, w' = w.drewN n := by
  have h4 : ¬ ((s.size : Int) < 4) := by omega
  have he : (s.size : Int) - 4 = (n : Int) := by omega
  have hle : (n : Int) ≤ s.size := by omega
  have z1 : (s.extract n s.size).size = 4 := by simp; omega
  have z2 : ((s.extract 0 n).size : Int) ≤ 3000 := by simp; omega
  have hv : (val (s.extract n s.size).data.toList : Int) = fnv (s.extract 0 n).data.toList := by rw [tail_list, head_list, hw]
  have Z1 := Lib.hid z1; clear z1
  have Z2 := Lib.hid z2; clear z2
  have HV := Lib.hid hv; clear hv hw hn
  go_enter Tryd.func42, Tryd.ntmps42
  go_wp2_with fail
  refine (get32_yes _ _ Z1.out).mono ?_
  rintro e w1 ⟨rfl, n1, rfl⟩
  rw [HV.out]
  clear HV
  generalize hf : ((fnv (s.extract 0 n).data.toList : Nat) : Int) = f
  have HF := Lib.hid hf; clear hf
  go_wp2_with fail
  refine (sum_any _ _ Z2.out).mono ?_
  rintro e w2 ⟨rfl, n2, rfl⟩
  rw [HF.out]
  go_wp2_with fail
  go_ret2
  exact ⟨ret_open (extract_txt s n) 0, _, rfl⟩

set_option maxHeartbeats 400000 in
theorem open_bad (s : ByteArray) (n : Nat) (w : World) (hs : (s.size : Int) ≤ 3000) (hn : s.size = n + 4) (hw : ¬ whole n s) :
    Calls Tryd.prog 42 #[.string s] w fun e w' => e = .returned (.tuple #[.string ⟨#[]⟩, .int .i64 3]) ∧ ∃ n, w' = w.drewN n := by
  have h4 : ¬ ((s.size : Int) < 4) := by omega
  have he : (s.size : Int) - 4 = (n : Int) := by omega
  have hle : (n : Int) ≤ s.size := by omega
  have z1 : (s.extract n s.size).size = 4 := by simp; omega
  have z2 : ((s.extract 0 n).size : Int) ≤ 3000 := by simp; omega
  have hv : ((val (s.extract n s.size).data.toList : Int) != fnv (s.extract 0 n).data.toList) = true := by
    rw [bne_iff_ne, tail_list, head_list]
    intro h
    exact hw (by unfold whole; omega)
  have Z1 := Lib.hid z1; clear z1
  have Z2 := Lib.hid z2; clear z2
  have HV := Lib.hid hv; clear hv hw hn
  go_enter Tryd.func42, Tryd.ntmps42
  go_wp2_with fail
  refine (get32_yes _ _ Z1.out).mono ?_
  rintro e w1 ⟨rfl, n1, rfl⟩
  generalize hg : ((val (s.extract n s.size).data.toList : Nat) : Int) = g at *
  have HG := Lib.hid hg; clear hg
  go_wp2_with fail
  refine (sum_any _ _ Z2.out).mono ?_
  rintro e w2 ⟨rfl, n2, rfl⟩
  generalize hf : ((fnv (s.extract 0 n).data.toList : Nat) : Int) = f at *
  have HF := Lib.hid hf; clear hf
  have hv := HV.out
  go_wp2_with fail
  go_ret2
  exact ⟨rfl, _, rfl⟩

set_option maxHeartbeats 400000 in
theorem ropen_short (s : ByteArray) (w : World) (hs : (s.size : Int) < 4) :
    Calls Tryd.prog 30 #[.string s] w fun e w' => e = .returned (.tuple #[.string ⟨#[]⟩, .int .i64 2]) ∧ Below w.heap.size w w' := by
  go_enter Tryd.func30, Tryd.ntmps30
  go_wp2
  go_ret2
  exact ⟨rfl, Below.refl _ _⟩

theorem whole_iff (s : ByteArray) (n : Nat) (hn : s.size = n + 4) : whole n s ↔ txt (sealed (s.extract 0 n).data.toList) = s := by
  have hl : s.data.toList.length = n + 4 := by rw [Array.length_toList]; exact hn
  rw [head_list]
  unfold whole sealed
  constructor
  · intro h
    have e := be_val (s.data.toList.drop n)
    rw [List.length_drop, hl, show n + 4 - n = 4 from by omega, h] at e
    rw [e, List.take_append_drop, txt_of]
  · intro h
    have e : s.data.toList.take n ++ be 4 (fnv (s.data.toList.take n)) = s.data.toList := by
      have := congrArg (fun x : ByteArray => x.data.toList) h
      simpa [txt] using this
    have e2 : s.data.toList.drop n = be 4 (fnv (s.data.toList.take n)) := by
      conv => lhs; rw [← e]
      rw [List.drop_append_of_le_length (by simp; omega), List.drop_of_length_le (by simp; omega), List.nil_append]
    rw [e2, val_sum]

set_option maxHeartbeats 400000 in
theorem ropen_good (s : ByteArray) (n : Nat) (w : World) (hs : (s.size : Int) ≤ 3000) (hn : s.size = n + 4) (hw : whole n s) :
    Calls Tryd.prog 30 #[.string s] w fun e w' => e = .returned (.tuple #[.string (txt (s.data.toList.take n)), .int .i64 0]) ∧ Below w.heap.size w w' := by
  have h4 : ¬ ((s.size : Int) < 4) := by omega
  have he : (s.size : Int) - 4 = (n : Int) := by omega
  have hle : (n : Int) ≤ s.size := by omega
  have z2 : ((s.extract 0 n).size : Int) ≤ 3000 := by simp; omega
  have hv := (whole_iff s n hn).1 hw
  have Z2 := Lib.hid z2; clear z2
  have HV := Lib.hid hv; clear hv hw hn
  go_enter Tryd.func30, Tryd.ntmps30
  go_wp2_with fail
  refine (rseal_any _ _ Z2.out).mono ?_
  rintro e w1 ⟨rfl, hb1⟩
  rw [HV.out]
  clear HV
  go_wp2_with fail
  go_ret2
  exact ⟨ret_open (extract_txt s n) 0, hb1⟩

set_option maxHeartbeats 400000 in
theorem ropen_bad (s : ByteArray) (n : Nat) (w : World) (hs : (s.size : Int) ≤ 3000) (hn : s.size = n + 4) (hw : ¬ whole n s) :
    Calls Tryd.prog 30 #[.string s] w fun e w' => e = .returned (.tuple #[.string ⟨#[]⟩, .int .i64 3]) ∧ Below w.heap.size w w' := by
  have h4 : ¬ ((s.size : Int) < 4) := by omega
  have he : (s.size : Int) - 4 = (n : Int) := by omega
  have hle : (n : Int) ≤ s.size := by omega
  have z2 : ((s.extract 0 n).size : Int) ≤ 3000 := by simp; omega
  have hv : txt (sealed (s.extract 0 n).data.toList) ≠ s := fun h => hw ((whole_iff s n hn).2 h)
  have Z2 := Lib.hid z2; clear z2
  have HV := Lib.hid hv; clear hv hw hn
  go_enter Tryd.func30, Tryd.ntmps30
  go_wp2_with fail
  refine (rseal_any _ _ Z2.out).mono ?_
  rintro e w1 ⟨rfl, hb1⟩
  generalize hf : txt (sealed (s.extract 0 n).data.toList) = f at *
  have HF := Lib.hid hf; clear hf
  have hv := text_ne HV.out
  go_wp2_with fail
  go_ret2
  exact ⟨rfl, hb1⟩
end Go.Proofs.YtbbcncofdhhflaaDoor
