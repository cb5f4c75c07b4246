/- Packets: Decode, by the document, where it is no hello. No other condition. -/
import Derived.Test.YtbbcncofdhhflaaDoorPK4
namespace Go.Proofs.YtbbcncofdhhflaaDoor
open Go.RowKit

set_option maxRecDepth 100000 in
set_option maxHeartbeats 16000000 in
theorem rpd_none_bad (s t : ByteArray) (k l : Int) (w : World) (ho : ∀ w, Calls Tryd.prog 30 #[.string s] w fun e w' => e = .returned (.tuple #[.string t, .int .i64 0]) ∧ Below w.heap.size w w') (h9 : 9 ≤ t.size) (hg : ∀ w, Calls Tryd.prog 31 #[.string (t.extract 1 9)] w fun e w' => e = .returned (.tuple #[.int .u64 l, .bool true]) ∧ Below w.heap.size w w') (hk : ((t[0]'(by omega)).toNat : Int) = k) (hk1 : k ≠ 1) (hkr : 0 ≤ k ∧ k < 256) (tl : ByteArray) (he : t.extract 9 t.size = tl) (hz : (t.size : Int) ≤ 3000) (hb : blockK k = true) (hp : tl.size = 0) (hr : ∀ w, Calls Tryd.prog 11 #[.agg #[.int .i64 k, .int .u64 l, .int .i64 0, .int .u64 0, .int .u64 0, .int .u64 0, .int .u64 0, .bool false, .bool false, .bool false, .bool false, .int .u32 0, .int .i64 0, .string tl]] w fun e w' => e = .returned (.bool false) ∧ Below w.heap.size w w') :
    Calls Tryd.prog 14 #[.string s] w fun e w' => e = .returned (.tuple #[.agg #[.int .i64 0, .int .u64 0, .int .i64 0, .int .u64 0, .int .u64 0, .int .u64 0, .int .u64 0, .bool false, .bool false, .bool false, .bool false, .int .u32 0, .int .i64 0, .string ⟨#[]⟩], .int .i64 2]) ∧ Below w.heap.size w w' := by
  have HR := Lib.hid hr; clear hr
  have hbl := fun w => rblock_any k w
  rw [hb] at hbl
  have HB := Lib.hid hbl; clear hbl
  have e1 : (k == 1) = false := beq_eq_false_iff_ne.2 hk1
  have hwk : wrap64 k = k := by unfold wrap64; omega
  clear hk1 hb hkr
  have hpi : (tl.size : Int) = 0 := by omega
  have HO := Lib.hid ho; clear ho
  have HG := Lib.hid hg; clear hg
  have H0 := Lib.hid ((Held.refl w).own [.int .i64 0, .int .u64 0, .int .i64 0, .int .u64 0, .int .u64 0, .int .u64 0, .int .u64 0, .bool false, .bool false, .bool false, .bool false, .int .u32 0, .int .i64 0, .string ⟨#[]⟩] 30 (n := 14) rfl)
  have BR0 := Lib.hid (Box.new w [.int .i64 0, .int .u64 0, .int .i64 0, .int .u64 0, .int .u64 0, .int .u64 0, .int .u64 0, .bool false, .bool false, .bool false, .bool false, .int .u32 0, .int .i64 0, .string ⟨#[]⟩] 30)
  go_enter Tryd.func14, Tryd.ntmps14
  go_wp2_with fail
  refine (HO.out _).mono ?_
  rintro e w1 ⟨rfl, hb⟩
  have H1 := Lib.hid (H0.out.up hb)
  have BR1 := Lib.hid (BR0.out.below hb)
  clear hb
  go_wp2_with fail
  refine (HG.out _).mono ?_
  rintro e w2 ⟨rfl, hb⟩
  have H2 := Lib.hid (H1.out.up hb)
  have BR2 := Lib.hid (BR1.out.below hb)
  clear hb
  go_wp2_with fail
  refine (HB.out _).mono ?_
  rintro e w6 ⟨rfl, rfl⟩
  go_wp2_with fail
  have BP8 := Lib.hid (Box.new w2 [.int .i64 k, .int .u64 l, .int .i64 0, .int .u64 0, .int .u64 0, .int .u64 0, .int .u64 0, .bool false, .bool false, .bool false, .bool false, .int .u32 0, .int .i64 0, .string tl] 30)
  have HN := Lib.hid (Nat.ne_of_lt BR2.out.lt)
  have H8 := Lib.hid (H2.out.own [.int .i64 k, .int .u64 l, .int .i64 0, .int .u64 0, .int .u64 0, .int .u64 0, .int .u64 0, .bool false, .bool false, .bool false, .bool false, .int .u32 0, .int .i64 0, .string tl] 30 (n := 14) rfl)
  have BR8 := Lib.hid (BR2.out.alloc (.cells ([.int .i64 k, .int .u64 l, .int .i64 0, .int .u64 0, .int .u64 0, .int .u64 0, .int .u64 0, .bool false, .bool false, .bool false, .bool false, .int .u32 0, .int .i64 0, .string tl] : List Value).toArray 30))
  clear BR2 H2
  refine (HR.out _).mono ?_
  rintro e w9 ⟨rfl, hb⟩
  have H9 := Lib.hid (H8.out.up hb)
  have BR9 := Lib.hid (BR8.out.below hb)
  have BP9 := Lib.hid (BP8.out.below hb)
  clear hb H8 BR8 BP8
  clear BP9
  have kr := BR9.out.cell
  have fr := BR9.out.frozen
  go_wp2_with fail
  refine bodyPost_ret (v := .tuple #[.agg #[.int .i64 0, .int .u64 0, .int .i64 0, .int .u64 0, .int .u64 0, .int .u64 0, .int .u64 0, .bool false, .bool false, .bool false, .bool false, .int .u32 0, .int .i64 0, .string ⟨#[]⟩], .int .i64 2]) (by simp [results, Tryd.results14, go_sem, kr]) rfl ⟨rfl, ?_⟩
  exact (H9.out.set14 (b := w.heap.size) ⟨14, by simp⟩ _ _ _ _ _ _ _ _ _ _ _ _ _ _).below

set_option maxRecDepth 100000 in
set_option maxHeartbeats 16000000 in
theorem rpd_none_diff (s t u : ByteArray) (k l : Int) (w : World) (ho : ∀ w, Calls Tryd.prog 30 #[.string s] w fun e w' => e = .returned (.tuple #[.string t, .int .i64 0]) ∧ Below w.heap.size w w') (h9 : 9 ≤ t.size) (hg : ∀ w, Calls Tryd.prog 31 #[.string (t.extract 1 9)] w fun e w' => e = .returned (.tuple #[.int .u64 l, .bool true]) ∧ Below w.heap.size w w') (hk : ((t[0]'(by omega)).toNat : Int) = k) (hk1 : k ≠ 1) (hkr : 0 ≤ k ∧ k < 256) (tl : ByteArray) (he : t.extract 9 t.size = tl) (hz : (t.size : Int) ≤ 3000) (hb : blockK k = true) (hp : tl.size = 0) (hr : ∀ w, Calls Tryd.prog 11 #[.agg #[.int .i64 k, .int .u64 l, .int .i64 0, .int .u64 0, .int .u64 0, .int .u64 0, .int .u64 0, .bool false, .bool false, .bool false, .bool false, .int .u32 0, .int .i64 0, .string tl]] w fun e w' => e = .returned (.bool true) ∧ Below w.heap.size w w') (hy : ∀ w, Calls Tryd.prog 20 #[.agg #[.int .i64 k, .int .u64 l, .int .i64 0, .int .u64 0, .int .u64 0, .int .u64 0, .int .u64 0, .bool false, .bool false, .bool false, .bool false, .int .u32 0, .int .i64 0, .string tl]] w fun e w' => e = .returned (.string u) ∧ Below w.heap.size w w') (hu : (u.toList == t.toList) = false) :
    Calls Tryd.prog 14 #[.string s] w fun e w' => e = .returned (.tuple #[.agg #[.int .i64 0, .int .u64 0, .int .i64 0, .int .u64 0, .int .u64 0, .int .u64 0, .int .u64 0, .bool false, .bool false, .bool false, .bool false, .int .u32 0, .int .i64 0, .string ⟨#[]⟩], .int .i64 2]) ∧ Below w.heap.size w w' := by
  have HR := Lib.hid hr; clear hr
  have HY := Lib.hid hy; clear hy
  have hbl := fun w => rblock_any k w
  rw [hb] at hbl
  have HB := Lib.hid hbl; clear hbl
  have e1 : (k == 1) = false := beq_eq_false_iff_ne.2 hk1
  have hwk : wrap64 k = k := by unfold wrap64; omega
  clear hk1 hb hkr
  have hpi : (tl.size : Int) = 0 := by omega
  have HO := Lib.hid ho; clear ho
  have HG := Lib.hid hg; clear hg
  have H0 := Lib.hid ((Held.refl w).own [.int .i64 0, .int .u64 0, .int .i64 0, .int .u64 0, .int .u64 0, .int .u64 0, .int .u64 0, .bool false, .bool false, .bool false, .bool false, .int .u32 0, .int .i64 0, .string ⟨#[]⟩] 30 (n := 14) rfl)
  have BR0 := Lib.hid (Box.new w [.int .i64 0, .int .u64 0, .int .i64 0, .int .u64 0, .int .u64 0, .int .u64 0, .int .u64 0, .bool false, .bool false, .bool false, .bool false, .int .u32 0, .int .i64 0, .string ⟨#[]⟩] 30)
  go_enter Tryd.func14, Tryd.ntmps14
  go_wp2_with fail
  refine (HO.out _).mono ?_
  rintro e w1 ⟨rfl, hb⟩
  have H1 := Lib.hid (H0.out.up hb)
  have BR1 := Lib.hid (BR0.out.below hb)
  clear hb
  go_wp2_with fail
  refine (HG.out _).mono ?_
  rintro e w2 ⟨rfl, hb⟩
  have H2 := Lib.hid (H1.out.up hb)
  have BR2 := Lib.hid (BR1.out.below hb)
  clear hb
  go_wp2_with fail
  refine (HB.out _).mono ?_
  rintro e w6 ⟨rfl, rfl⟩
  go_wp2_with fail
  have BP8 := Lib.hid (Box.new w2 [.int .i64 k, .int .u64 l, .int .i64 0, .int .u64 0, .int .u64 0, .int .u64 0, .int .u64 0, .bool false, .bool false, .bool false, .bool false, .int .u32 0, .int .i64 0, .string tl] 30)
  have HN := Lib.hid (Nat.ne_of_lt BR2.out.lt)
  have H8 := Lib.hid (H2.out.own [.int .i64 k, .int .u64 l, .int .i64 0, .int .u64 0, .int .u64 0, .int .u64 0, .int .u64 0, .bool false, .bool false, .bool false, .bool false, .int .u32 0, .int .i64 0, .string tl] 30 (n := 14) rfl)
  have BR8 := Lib.hid (BR2.out.alloc (.cells ([.int .i64 k, .int .u64 l, .int .i64 0, .int .u64 0, .int .u64 0, .int .u64 0, .int .u64 0, .bool false, .bool false, .bool false, .bool false, .int .u32 0, .int .i64 0, .string tl] : List Value).toArray 30))
  clear BR2 H2
  refine (HR.out _).mono ?_
  rintro e w9 ⟨rfl, hb⟩
  have H9 := Lib.hid (H8.out.up hb)
  have BR9 := Lib.hid (BR8.out.below hb)
  have BP9 := Lib.hid (BP8.out.below hb)
  clear hb H8 BR8 BP8
  have kp := BP9.out.cell
  go_wp2_with fail
  refine (HY.out _).mono ?_
  rintro e w10 ⟨rfl, hb⟩
  have H10 := Lib.hid (H9.out.up hb)
  have BR10 := Lib.hid (BR9.out.below hb)
  have BP10 := Lib.hid (BP9.out.below hb)
  clear hb kp H9 BR9 BP9
  have kr := BR10.out.cell
  have fr := BR10.out.frozen
  go_wp2_with fail
  refine bodyPost_ret (v := .tuple #[.agg #[.int .i64 0, .int .u64 0, .int .i64 0, .int .u64 0, .int .u64 0, .int .u64 0, .int .u64 0, .bool false, .bool false, .bool false, .bool false, .int .u32 0, .int .i64 0, .string ⟨#[]⟩], .int .i64 2]) (by simp [results, Tryd.results14, go_sem, kr]) rfl ⟨rfl, ?_⟩
  exact (H10.out.set14 (b := w.heap.size) ⟨14, by simp⟩ _ _ _ _ _ _ _ _ _ _ _ _ _ _).below

set_option maxRecDepth 100000 in
set_option maxHeartbeats 16000000 in
theorem rpd_none_ok (s t : ByteArray) (k l : Int) (w : World) (ho : ∀ w, Calls Tryd.prog 30 #[.string s] w fun e w' => e = .returned (.tuple #[.string t, .int .i64 0]) ∧ Below w.heap.size w w') (h9 : 9 ≤ t.size) (hg : ∀ w, Calls Tryd.prog 31 #[.string (t.extract 1 9)] w fun e w' => e = .returned (.tuple #[.int .u64 l, .bool true]) ∧ Below w.heap.size w w') (hk : ((t[0]'(by omega)).toNat : Int) = k) (hk1 : k ≠ 1) (hkr : 0 ≤ k ∧ k < 256) (tl : ByteArray) (he : t.extract 9 t.size = tl) (hz : (t.size : Int) ≤ 3000) (hb : blockK k = true) (hp : tl.size = 0) (hr : ∀ w, Calls Tryd.prog 11 #[.agg #[.int .i64 k, .int .u64 l, .int .i64 0, .int .u64 0, .int .u64 0, .int .u64 0, .int .u64 0, .bool false, .bool false, .bool false, .bool false, .int .u32 0, .int .i64 0, .string tl]] w fun e w' => e = .returned (.bool true) ∧ Below w.heap.size w w') (hy : ∀ w, Calls Tryd.prog 20 #[.agg #[.int .i64 k, .int .u64 l, .int .i64 0, .int .u64 0, .int .u64 0, .int .u64 0, .int .u64 0, .bool false, .bool false, .bool false, .bool false, .int .u32 0, .int .i64 0, .string tl]] w fun e w' => e = .returned (.string t) ∧ Below w.heap.size w w') :
    Calls Tryd.prog 14 #[.string s] w fun e w' => e = .returned (.tuple #[.agg #[.int .i64 k, .int .u64 l, .int .i64 0, .int .u64 0, .int .u64 0, .int .u64 0, .int .u64 0, .bool false, .bool false, .bool false, .bool false, .int .u32 0, .int .i64 0, .string tl], .int .i64 0]) ∧ Below w.heap.size w w' := by
  have HR := Lib.hid hr; clear hr
  have HY := Lib.hid hy; clear hy
  have hbl := fun w => rblock_any k w
  rw [hb] at hbl
  have HB := Lib.hid hbl; clear hbl
  have e1 : (k == 1) = false := beq_eq_false_iff_ne.2 hk1
  have hwk : wrap64 k = k := by unfold wrap64; omega
  clear hk1 hb hkr
  have hpi : (tl.size : Int) = 0 := by omega
  have HO := Lib.hid ho; clear ho
  have HG := Lib.hid hg; clear hg
  have H0 := Lib.hid ((Held.refl w).own [.int .i64 0, .int .u64 0, .int .i64 0, .int .u64 0, .int .u64 0, .int .u64 0, .int .u64 0, .bool false, .bool false, .bool false, .bool false, .int .u32 0, .int .i64 0, .string ⟨#[]⟩] 30 (n := 14) rfl)
  have BR0 := Lib.hid (Box.new w [.int .i64 0, .int .u64 0, .int .i64 0, .int .u64 0, .int .u64 0, .int .u64 0, .int .u64 0, .bool false, .bool false, .bool false, .bool false, .int .u32 0, .int .i64 0, .string ⟨#[]⟩] 30)
  go_enter Tryd.func14, Tryd.ntmps14
  go_wp2_with fail
  refine (HO.out _).mono ?_
  rintro e w1 ⟨rfl, hb⟩
  have H1 := Lib.hid (H0.out.up hb)
  have BR1 := Lib.hid (BR0.out.below hb)
  clear hb
  go_wp2_with fail
  refine (HG.out _).mono ?_
  rintro e w2 ⟨rfl, hb⟩
  have H2 := Lib.hid (H1.out.up hb)
  have BR2 := Lib.hid (BR1.out.below hb)
  clear hb
  go_wp2_with fail
  refine (HB.out _).mono ?_
  rintro e w6 ⟨rfl, rfl⟩
  go_wp2_with fail
  have BP8 := Lib.hid (Box.new w2 [.int .i64 k, .int .u64 l, .int .i64 0, .int .u64 0, .int .u64 0, .int .u64 0, .int .u64 0, .bool false, .bool false, .bool false, .bool false, .int .u32 0, .int .i64 0, .string tl] 30)
  have HN := Lib.hid (Nat.ne_of_lt BR2.out.lt)
  have H8 := Lib.hid (H2.out.own [.int .i64 k, .int .u64 l, .int .i64 0, .int .u64 0, .int .u64 0, .int .u64 0, .int .u64 0, .bool false, .bool false, .bool false, .bool false, .int .u32 0, .int .i64 0, .string tl] 30 (n := 14) rfl)
  have BR8 := Lib.hid (BR2.out.alloc (.cells ([.int .i64 k, .int .u64 l, .int .i64 0, .int .u64 0, .int .u64 0, .int .u64 0, .int .u64 0, .bool false, .bool false, .bool false, .bool false, .int .u32 0, .int .i64 0, .string tl] : List Value).toArray 30))
  clear BR2 H2
  refine (HR.out _).mono ?_
  rintro e w9 ⟨rfl, hb⟩
  have H9 := Lib.hid (H8.out.up hb)
  have BR9 := Lib.hid (BR8.out.below hb)
  have BP9 := Lib.hid (BP8.out.below hb)
  clear hb H8 BR8 BP8
  have kp := BP9.out.cell
  go_wp2_with fail
  refine (HY.out _).mono ?_
  rintro e w10 ⟨rfl, hb⟩
  have H10 := Lib.hid (H9.out.up hb)
  have BR10 := Lib.hid (BR9.out.below hb)
  have BP10 := Lib.hid (BP9.out.below hb)
  clear hb kp H9 BR9 BP9
  have kp := BP10.out.cell
  have kr := BR10.out.cell
  have fr := BR10.out.frozen
  go_wp2_with fail
  refine bodyPost_ret (v := .tuple #[.agg #[.int .i64 k, .int .u64 l, .int .i64 0, .int .u64 0, .int .u64 0, .int .u64 0, .int .u64 0, .bool false, .bool false, .bool false, .bool false, .int .u32 0, .int .i64 0, .string tl], .int .i64 0]) (by simp [results, Tryd.results14, go_sem, kr]) rfl ⟨rfl, ?_⟩
  exact (H10.out.set14 (b := w.heap.size) ⟨14, by simp⟩ _ _ _ _ _ _ _ _ _ _ _ _ _ _).below

end Go.Proofs.YtbbcncofdhhflaaDoor
