/- Packets: Decode, by the document; for every text of up to three thousand bytes. No other condition. -/
import Derived.Test.YtbbcncofdhhflaaDoorPK3
namespace Go.Proofs.YtbbcncofdhhflaaDoor
open Go.RowKit

/-- A hello stored into a packet's block. -/
theorem Held.hel2 {W0 w : World} {L : List (Nat × List Value)} {M : List (Nat × Nat)} {b : Nat} (h : Held W0 L M w) (hb : ∃ n, (b, n) ∈ M) (v0 v1 v2 v3 v4 v5 v6 v7 v8 v9 : Value) : Held W0 L M ((((((((((w.setCell ⟨b, 2, none⟩ v0).setCell ⟨b, 3, none⟩ v1).setCell ⟨b, 4, none⟩ v2).setCell ⟨b, 5, none⟩ v3).setCell ⟨b, 6, none⟩ v4).setCell ⟨b, 7, none⟩ v5).setCell ⟨b, 8, none⟩ v6).setCell ⟨b, 9, none⟩ v7).setCell ⟨b, 10, none⟩ v8).setCell ⟨b, 11, none⟩ v9) :=
  (((((((((h.set hb 2 v0).set hb 3 v1).set hb 4 v2).set hb 5 v3).set hb 6 v4).set hb 7 v5).set hb 8 v6).set hb 9 v7).set hb 10 v8).set hb 11 v9
theorem Held.set14 {W0 w : World} {L : List (Nat × List Value)} {M : List (Nat × Nat)} {b : Nat} (h : Held W0 L M w) (hb : ∃ n, (b, n) ∈ M) (v0 v1 v2 v3 v4 v5 v6 v7 v8 v9 v10 v11 v12 v13 : Value) : Held W0 L M ((((((((((((((w.setCell ⟨b, 0, none⟩ v0).setCell ⟨b, 1, none⟩ v1).setCell ⟨b, 2, none⟩ v2).setCell ⟨b, 3, none⟩ v3).setCell ⟨b, 4, none⟩ v4).setCell ⟨b, 5, none⟩ v5).setCell ⟨b, 6, none⟩ v6).setCell ⟨b, 7, none⟩ v7).setCell ⟨b, 8, none⟩ v8).setCell ⟨b, 9, none⟩ v9).setCell ⟨b, 10, none⟩ v10).setCell ⟨b, 11, none⟩ v11).setCell ⟨b, 12, none⟩ v12).setCell ⟨b, 13, none⟩ v13) :=
  (((((((((((((h.set hb 0 v0).set hb 1 v1).set hb 2 v2).set hb 3 v3).set hb 4 v4).set hb 5 v5).set hb 6 v6).set hb 7 v7).set hb 8 v8).set hb 9 v9).set hb 10 v10).set hb 11 v11).set hb 12 v12).set hb 13 v13
theorem Box.hel2 {w : World} {b : Nat} {a0 a1 a12 a13 u0 u1 u2 u3 u4 u5 u6 u7 u8 u9 : Value} (h : Box w b [a0, a1, u0, u1, u2, u3, u4, u5, u6, u7, u8, u9, a12, a13]) (v0 v1 v2 v3 v4 v5 v6 v7 v8 v9 : Value) : Box ((((((((((w.setCell ⟨b, 2, none⟩ v0).setCell ⟨b, 3, none⟩ v1).setCell ⟨b, 4, none⟩ v2).setCell ⟨b, 5, none⟩ v3).setCell ⟨b, 6, none⟩ v4).setCell ⟨b, 7, none⟩ v5).setCell ⟨b, 8, none⟩ v6).setCell ⟨b, 9, none⟩ v7).setCell ⟨b, 10, none⟩ v8).setCell ⟨b, 11, none⟩ v9) b [a0, a1, v0, v1, v2, v3, v4, v5, v6, v7, v8, v9, a12, a13] :=
  (((((((((h.set 2 v0).set 3 v1).set 4 v2).set 5 v3).set 6 v4).set 7 v5).set 8 v6).set 9 v7).set 10 v8).set 11 v9
theorem Box.past2 {w : World} {b b' : Nat} {vs : List Value} (h : Box w b' vs) (hn : b' ≠ b) (v0 v1 v2 v3 v4 v5 v6 v7 v8 v9 : Value) : Box ((((((((((w.setCell ⟨b, 2, none⟩ v0).setCell ⟨b, 3, none⟩ v1).setCell ⟨b, 4, none⟩ v2).setCell ⟨b, 5, none⟩ v3).setCell ⟨b, 6, none⟩ v4).setCell ⟨b, 7, none⟩ v5).setCell ⟨b, 8, none⟩ v6).setCell ⟨b, 9, none⟩ v7).setCell ⟨b, 10, none⟩ v8).setCell ⟨b, 11, none⟩ v9) b' vs :=
  (((((((((h.other (p := ⟨b, 2, none⟩) hn v0).other (p := ⟨b, 3, none⟩) hn v1).other (p := ⟨b, 4, none⟩) hn v2).other (p := ⟨b, 5, none⟩) hn v3).other (p := ⟨b, 6, none⟩) hn v4).other (p := ⟨b, 7, none⟩) hn v5).other (p := ⟨b, 8, none⟩) hn v6).other (p := ⟨b, 9, none⟩) hn v7).other (p := ⟨b, 10, none⟩) hn v8).other (p := ⟨b, 11, none⟩) hn v9

set_option maxRecDepth 100000 in
set_option maxHeartbeats 16000000 in
theorem rpd_open (s t : ByteArray) (x : Int) (w : World) (ho : ∀ w, Calls Tryd.prog 30 #[.string s] w fun e w' => e = .returned (.tuple #[.string t, .int .i64 x]) ∧ Below w.heap.size w w') (h1 : (x != 0) = true) :
    Calls Tryd.prog 14 #[.string s] w fun e w' => e = .returned (.tuple #[.agg #[.int .i64 0, .int .u64 0, .int .i64 0, .int .u64 0, .int .u64 0, .int .u64 0, .int .u64 0, .bool false, .bool false, .bool false, .bool false, .int .u32 0, .int .i64 0, .string ⟨#[]⟩], .int .i64 x]) ∧ Below w.heap.size w w' := by
  have HO := Lib.hid ho; clear ho
  have H0 := Lib.hid ((Held.refl w).own [.int .i64 0, .int .u64 0, .int .i64 0, .int .u64 0, .int .u64 0, .int .u64 0, .int .u64 0, .bool false, .bool false, .bool false, .bool false, .int .u32 0, .int .i64 0, .string ⟨#[]⟩] 30 (n := 14) rfl)
  have BR0 := Lib.hid (Box.new w [.int .i64 0, .int .u64 0, .int .i64 0, .int .u64 0, .int .u64 0, .int .u64 0, .int .u64 0, .bool false, .bool false, .bool false, .bool false, .int .u32 0, .int .i64 0, .string ⟨#[]⟩] 30)
  go_enter Tryd.func14, Tryd.ntmps14
  go_wp2_with fail
  refine (HO.out _).mono ?_
  rintro e w1 ⟨rfl, hb⟩
  have H1 := Lib.hid (H0.out.up hb)
  have BR1 := Lib.hid (BR0.out.below hb)
  clear hb
  have kr := BR1.out.cell
  have fr := BR1.out.frozen
  go_wp2_with fail
  refine bodyPost_ret (v := .tuple #[.agg #[.int .i64 0, .int .u64 0, .int .i64 0, .int .u64 0, .int .u64 0, .int .u64 0, .int .u64 0, .bool false, .bool false, .bool false, .bool false, .int .u32 0, .int .i64 0, .string ⟨#[]⟩], .int .i64 x]) (by simp [results, Tryd.results14, go_sem, kr]) rfl ⟨rfl, ?_⟩
  exact (H1.out.set14 (b := w.heap.size) ⟨14, by simp⟩ _ _ _ _ _ _ _ _ _ _ _ _ _ _).below

set_option maxRecDepth 100000 in
set_option maxHeartbeats 16000000 in
theorem rpd_short (s t : ByteArray) (w : World) (ho : ∀ w, Calls Tryd.prog 30 #[.string s] w fun e w' => e = .returned (.tuple #[.string t, .int .i64 0]) ∧ Below w.heap.size w w') (h1 : (t.size : Int) < 9) :
    Calls Tryd.prog 14 #[.string s] w fun e w' => e = .returned (.tuple #[.agg #[.int .i64 0, .int .u64 0, .int .i64 0, .int .u64 0, .int .u64 0, .int .u64 0, .int .u64 0, .bool false, .bool false, .bool false, .bool false, .int .u32 0, .int .i64 0, .string ⟨#[]⟩], .int .i64 2]) ∧ Below w.heap.size w w' := by
  have HO := Lib.hid ho; clear ho
  have H0 := Lib.hid ((Held.refl w).own [.int .i64 0, .int .u64 0, .int .i64 0, .int .u64 0, .int .u64 0, .int .u64 0, .int .u64 0, .bool false, .bool false, .bool false, .bool false, .int .u32 0, .int .i64 0, .string ⟨#[]⟩] 30 (n := 14) rfl)
  have BR0 := Lib.hid (Box.new w [.int .i64 0, .int .u64 0, .int .i64 0, .int .u64 0, .int .u64 0, .int .u64 0, .int .u64 0, .bool false, .bool false, .bool false, .bool false, .int .u32 0, .int .i64 0, .string ⟨#[]⟩] 30)
  go_enter Tryd.func14, Tryd.ntmps14
  go_wp2_with fail
  refine (HO.out _).mono ?_
  rintro e w1 ⟨rfl, hb⟩
  have H1 := Lib.hid (H0.out.up hb)
  have BR1 := Lib.hid (BR0.out.below hb)
  clear hb
  have kr := BR1.out.cell
  have fr := BR1.out.frozen
  go_wp2_with fail
  refine bodyPost_ret (v := .tuple #[.agg #[.int .i64 0, .int .u64 0, .int .i64 0, .int .u64 0, .int .u64 0, .int .u64 0, .int .u64 0, .bool false, .bool false, .bool false, .bool false, .int .u32 0, .int .i64 0, .string ⟨#[]⟩], .int .i64 2]) (by simp [results, Tryd.results14, go_sem, kr]) rfl ⟨rfl, ?_⟩
  exact (H1.out.set14 (b := w.heap.size) ⟨14, by simp⟩ _ _ _ _ _ _ _ _ _ _ _ _ _ _).below

set_option maxRecDepth 100000 in
set_option maxHeartbeats 16000000 in
theorem rpd_nohel (s t : ByteArray) (k l n c b o p : Int) (i r d q : Bool) (m : Nat) (f : Int) (w : World) (ho : ∀ w, Calls Tryd.prog 30 #[.string s] w fun e w' => e = .returned (.tuple #[.string t, .int .i64 0]) ∧ Below w.heap.size w w') (h9 : 9 ≤ t.size) (hg : ∀ w, Calls Tryd.prog 31 #[.string (t.extract 1 9)] w fun e w' => e = .returned (.tuple #[.int .u64 l, .bool true]) ∧ Below w.heap.size w w') (hk : ((t[0]'(by omega)).toNat : Int) = k) (hk1 : k = 1) (hd : ∀ w, Calls Tryd.prog 32 #[.string (t.extract 9 t.size)] w fun e w' => e = .returned (.tuple #[.agg #[.int .i64 n, .int .u64 c, .int .u64 b, .int .u64 o, .int .u64 p, .bool i, .bool r, .bool d, .bool q, .int .u32 (m : Int)], .int .i64 f]) ∧ Below w.heap.size w w') (hf : (f != 0) = true) (hz : (t.size : Int) ≤ 3000) :
    Calls Tryd.prog 14 #[.string s] w fun e w' => e = .returned (.tuple #[.agg #[.int .i64 0, .int .u64 0, .int .i64 0, .int .u64 0, .int .u64 0, .int .u64 0, .int .u64 0, .bool false, .bool false, .bool false, .bool false, .int .u32 0, .int .i64 0, .string ⟨#[]⟩], .int .i64 2]) ∧ Below w.heap.size w w' := by
  subst hk1
  have HD := Lib.hid hd; clear hd
  have HO := Lib.hid ho; clear ho
  have HG := Lib.hid hg; clear hg
  have H0 := Lib.hid ((Held.refl w).own [.int .i64 0, .int .u64 0, .int .i64 0, .int .u64 0, .int .u64 0, .int .u64 0, .int .u64 0, .bool false, .bool false, .bool false, .bool false, .int .u32 0, .int .i64 0, .string ⟨#[]⟩] 30 (n := 14) rfl)
  have BR0 := Lib.hid (Box.new w [.int .i64 0, .int .u64 0, .int .i64 0, .int .u64 0, .int .u64 0, .int .u64 0, .int .u64 0, .bool false, .bool false, .bool false, .bool false, .int .u32 0, .int .i64 0, .string ⟨#[]⟩] 30)
  go_enter Tryd.func14, Tryd.ntmps14
  go_wp2_with fail
  refine (HO.out _).mono ?_
  rintro e w1 ⟨rfl, hb⟩
  have H1 := Lib.hid (H0.out.up hb)
  have BR1 := Lib.hid (BR0.out.below hb)
  clear hb
  go_wp2_with fail
  refine (HG.out _).mono ?_
  rintro e w2 ⟨rfl, hb⟩
  have H2 := Lib.hid (H1.out.up hb)
  have BR2 := Lib.hid (BR1.out.below hb)
  clear hb
  have BP3 := Lib.hid (Box.new w2 [.int .i64 1, .int .u64 l, .int .i64 0, .int .u64 0, .int .u64 0, .int .u64 0, .int .u64 0, .bool false, .bool false, .bool false, .bool false, .int .u32 0, .int .i64 0, .string ⟨#[]⟩] 30)
  have HN := Lib.hid (Nat.ne_of_lt BR2.out.lt)
  have H3 := Lib.hid (H2.out.own [.int .i64 1, .int .u64 l, .int .i64 0, .int .u64 0, .int .u64 0, .int .u64 0, .int .u64 0, .bool false, .bool false, .bool false, .bool false, .int .u32 0, .int .i64 0, .string ⟨#[]⟩] 30 (n := 14) rfl)
  have BR3 := Lib.hid (BR2.out.alloc (.cells ([.int .i64 1, .int .u64 l, .int .i64 0, .int .u64 0, .int .u64 0, .int .u64 0, .int .u64 0, .bool false, .bool false, .bool false, .bool false, .int .u32 0, .int .i64 0, .string ⟨#[]⟩] : List Value).toArray 30))
  go_wp2_with fail
  refine (HD.out _).mono ?_
  rintro e w4 ⟨rfl, hb⟩
  have H4 := Lib.hid (H3.out.up hb)
  have BR4 := Lib.hid (BR3.out.below hb)
  clear hb
  have H5 := Lib.hid (H4.out.alloc (.cells #[.int .i64 n, .int .u64 c, .int .u64 b, .int .u64 o, .int .u64 p, .bool i, .bool r, .bool d, .bool q, .int .u32 (m : Int)] 28))
  have BR5 := Lib.hid (BR4.out.alloc (.cells #[.int .i64 n, .int .u64 c, .int .u64 b, .int .u64 o, .int .u64 p, .bool i, .bool r, .bool d, .bool q, .int .u32 (m : Int)] 28))
  clear BP3
  have kr := BR5.out.cell
  have fr := BR5.out.frozen
  go_wp2_with fail
  refine bodyPost_ret (v := .tuple #[.agg #[.int .i64 0, .int .u64 0, .int .i64 0, .int .u64 0, .int .u64 0, .int .u64 0, .int .u64 0, .bool false, .bool false, .bool false, .bool false, .int .u32 0, .int .i64 0, .string ⟨#[]⟩], .int .i64 2]) (by simp [results, Tryd.results14, go_sem, kr]) rfl ⟨rfl, ?_⟩
  exact (H5.out.set14 (b := w.heap.size) ⟨14, by simp⟩ _ _ _ _ _ _ _ _ _ _ _ _ _ _).below

set_option maxRecDepth 100000 in
set_option maxHeartbeats 16000000 in
theorem rpd_hel_bad (s t : ByteArray) (k l n c b o p : Int) (i r d q : Bool) (m : Nat) (w : World) (ho : ∀ w, Calls Tryd.prog 30 #[.string s] w fun e w' => e = .returned (.tuple #[.string t, .int .i64 0]) ∧ Below w.heap.size w w') (h9 : 9 ≤ t.size) (hg : ∀ w, Calls Tryd.prog 31 #[.string (t.extract 1 9)] w fun e w' => e = .returned (.tuple #[.int .u64 l, .bool true]) ∧ Below w.heap.size w w') (hk : ((t[0]'(by omega)).toNat : Int) = k) (hk1 : k = 1) (hd : ∀ w, Calls Tryd.prog 32 #[.string (t.extract 9 t.size)] w fun e w' => e = .returned (.tuple #[.agg #[.int .i64 n, .int .u64 c, .int .u64 b, .int .u64 o, .int .u64 p, .bool i, .bool r, .bool d, .bool q, .int .u32 (m : Int)], .int .i64 0]) ∧ Below w.heap.size w w') (hz : (t.size : Int) ≤ 3000) (hr : ∀ w, Calls Tryd.prog 11 #[.agg #[.int .i64 1, .int .u64 l, .int .i64 n, .int .u64 c, .int .u64 b, .int .u64 o, .int .u64 p, .bool i, .bool r, .bool d, .bool q, .int .u32 (m : Int), .int .i64 0, .string ⟨#[]⟩]] w fun e w' => e = .returned (.bool false) ∧ Below w.heap.size w w') :
    Calls Tryd.prog 14 #[.string s] w fun e w' => e = .returned (.tuple #[.agg #[.int .i64 0, .int .u64 0, .int .i64 0, .int .u64 0, .int .u64 0, .int .u64 0, .int .u64 0, .bool false, .bool false, .bool false, .bool false, .int .u32 0, .int .i64 0, .string ⟨#[]⟩], .int .i64 2]) ∧ Below w.heap.size w w' := by
  subst hk1
  have HD := Lib.hid hd; clear hd
  have HR := Lib.hid hr; clear hr
  have hbl := fun w => rblock_any 1 w
  rw [block_of_one] at hbl
  have HB := Lib.hid hbl; clear hbl
  have HO := Lib.hid ho; clear ho
  have HG := Lib.hid hg; clear hg
  have H0 := Lib.hid ((Held.refl w).own [.int .i64 0, .int .u64 0, .int .i64 0, .int .u64 0, .int .u64 0, .int .u64 0, .int .u64 0, .bool false, .bool false, .bool false, .bool false, .int .u32 0, .int .i64 0, .string ⟨#[]⟩] 30 (n := 14) rfl)
  have BR0 := Lib.hid (Box.new w [.int .i64 0, .int .u64 0, .int .i64 0, .int .u64 0, .int .u64 0, .int .u64 0, .int .u64 0, .bool false, .bool false, .bool false, .bool false, .int .u32 0, .int .i64 0, .string ⟨#[]⟩] 30)
  go_enter Tryd.func14, Tryd.ntmps14
  go_wp2_with fail
  refine (HO.out _).mono ?_
  rintro e w1 ⟨rfl, hb⟩
  have H1 := Lib.hid (H0.out.up hb)
  have BR1 := Lib.hid (BR0.out.below hb)
  clear hb
  go_wp2_with fail
  refine (HG.out _).mono ?_
  rintro e w2 ⟨rfl, hb⟩
  have H2 := Lib.hid (H1.out.up hb)
  have BR2 := Lib.hid (BR1.out.below hb)
  clear hb
  have BP3 := Lib.hid (Box.new w2 [.int .i64 1, .int .u64 l, .int .i64 0, .int .u64 0, .int .u64 0, .int .u64 0, .int .u64 0, .bool false, .bool false, .bool false, .bool false, .int .u32 0, .int .i64 0, .string ⟨#[]⟩] 30)
  have HN := Lib.hid (Nat.ne_of_lt BR2.out.lt)
  have H3 := Lib.hid (H2.out.own [.int .i64 1, .int .u64 l, .int .i64 0, .int .u64 0, .int .u64 0, .int .u64 0, .int .u64 0, .bool false, .bool false, .bool false, .bool false, .int .u32 0, .int .i64 0, .string ⟨#[]⟩] 30 (n := 14) rfl)
  have BR3 := Lib.hid (BR2.out.alloc (.cells ([.int .i64 1, .int .u64 l, .int .i64 0, .int .u64 0, .int .u64 0, .int .u64 0, .int .u64 0, .bool false, .bool false, .bool false, .bool false, .int .u32 0, .int .i64 0, .string ⟨#[]⟩] : List Value).toArray 30))
  go_wp2_with fail
  refine (HD.out _).mono ?_
  rintro e w4 ⟨rfl, hb⟩
  have H4 := Lib.hid (H3.out.up hb)
  have BR4 := Lib.hid (BR3.out.below hb)
  have BP4 := Lib.hid (BP3.out.below hb)
  clear hb
  clear H3 BR3 BP3 HG HO HD
  have kh := (Box.new w4 [.int .i64 n, .int .u64 c, .int .u64 b, .int .u64 o, .int .u64 p, .bool i, .bool r, .bool d, .bool q, .int .u32 (m : Int)] 28).cell
  have H5 := Lib.hid (H4.out.alloc (.cells #[.int .i64 n, .int .u64 c, .int .u64 b, .int .u64 o, .int .u64 p, .bool i, .bool r, .bool d, .bool q, .int .u32 (m : Int)] 28))
  have BR5 := Lib.hid (BR4.out.alloc (.cells #[.int .i64 n, .int .u64 c, .int .u64 b, .int .u64 o, .int .u64 p, .bool i, .bool r, .bool d, .bool q, .int .u32 (m : Int)] 28))
  have BP5 := Lib.hid (BP4.out.alloc (.cells #[.int .i64 n, .int .u64 c, .int .u64 b, .int .u64 o, .int .u64 p, .bool i, .bool r, .bool d, .bool q, .int .u32 (m : Int)] 28))
  have kp := BP5.out.cell
  have fp := BP5.out.frozen
  go_wp2_with fail
  clear kh kp fp
  have H6 := Lib.hid (H5.out.hel2 (b := w2.heap.size) ⟨14, by simp⟩ (.int .i64 n) (.int .u64 c) (.int .u64 b) (.int .u64 o) (.int .u64 p) (.bool i) (.bool r) (.bool d) (.bool q) (.int .u32 (m : Int)))
  have BP6 := Lib.hid (BP5.out.hel2 (.int .i64 n) (.int .u64 c) (.int .u64 b) (.int .u64 o) (.int .u64 p) (.bool i) (.bool r) (.bool d) (.bool q) (.int .u32 (m : Int)))
  have BR6 := Lib.hid (BR5.out.past2 HN.out (.int .i64 n) (.int .u64 c) (.int .u64 b) (.int .u64 o) (.int .u64 p) (.bool i) (.bool r) (.bool d) (.bool q) (.int .u32 (m : Int)))
  clear H5 BR5 BP5 H4 BR4 BP4
  refine (HB.out _).mono ?_
  rintro e w6 ⟨rfl, rfl⟩
  have kp := BP6.out.cell
  have fp := BP6.out.frozen
  go_wp2_with fail
  have H7 := Lib.hid (H6.out.set (b := w2.heap.size) ⟨14, by simp⟩ 13 (.string ⟨#[]⟩))
  have BP7 := Lib.hid (BP6.out.set 13 (.string ⟨#[]⟩))
  have BR7 := Lib.hid (BR6.out.other (p := ⟨w2.heap.size, 13, none⟩) HN.out (.string ⟨#[]⟩))
  clear kp fp
  refine (HR.out _).mono ?_
  rintro e w8 ⟨rfl, hb⟩
  have H8 := Lib.hid (H7.out.up hb)
  have BR8 := Lib.hid (BR7.out.below hb)
  have BP8 := Lib.hid (BP7.out.below hb)
  clear hb H7 BR7 BP7
  clear BP8
  have kr := BR8.out.cell
  have fr := BR8.out.frozen
  go_wp2_with fail
  refine bodyPost_ret (v := .tuple #[.agg #[.int .i64 0, .int .u64 0, .int .i64 0, .int .u64 0, .int .u64 0, .int .u64 0, .int .u64 0, .bool false, .bool false, .bool false, .bool false, .int .u32 0, .int .i64 0, .string ⟨#[]⟩], .int .i64 2]) (by simp [results, Tryd.results14, go_sem, kr]) rfl ⟨rfl, ?_⟩
  exact (H8.out.set14 (b := w.heap.size) ⟨14, by simp⟩ _ _ _ _ _ _ _ _ _ _ _ _ _ _).below

set_option maxRecDepth 100000 in
set_option maxHeartbeats 16000000 in
theorem rpd_hel_diff (s t u : ByteArray) (k l n c b o p : Int) (i r d q : Bool) (m : Nat) (w : World) (ho : ∀ w, Calls Tryd.prog 30 #[.string s] w fun e w' => e = .returned (.tuple #[.string t, .int .i64 0]) ∧ Below w.heap.size w w') (h9 : 9 ≤ t.size) (hg : ∀ w, Calls Tryd.prog 31 #[.string (t.extract 1 9)] w fun e w' => e = .returned (.tuple #[.int .u64 l, .bool true]) ∧ Below w.heap.size w w') (hk : ((t[0]'(by omega)).toNat : Int) = k) (hk1 : k = 1) (hd : ∀ w, Calls Tryd.prog 32 #[.string (t.extract 9 t.size)] w fun e w' => e = .returned (.tuple #[.agg #[.int .i64 n, .int .u64 c, .int .u64 b, .int .u64 o, .int .u64 p, .bool i, .bool r, .bool d, .bool q, .int .u32 (m : Int)], .int .i64 0]) ∧ Below w.heap.size w w') (hz : (t.size : Int) ≤ 3000) (hr : ∀ w, Calls Tryd.prog 11 #[.agg #[.int .i64 1, .int .u64 l, .int .i64 n, .int .u64 c, .int .u64 b, .int .u64 o, .int .u64 p, .bool i, .bool r, .bool d, .bool q, .int .u32 (m : Int), .int .i64 0, .string ⟨#[]⟩]] w fun e w' => e = .returned (.bool true) ∧ Below w.heap.size w w') (hy : ∀ w, Calls Tryd.prog 20 #[.agg #[.int .i64 1, .int .u64 l, .int .i64 n, .int .u64 c, .int .u64 b, .int .u64 o, .int .u64 p, .bool i, .bool r, .bool d, .bool q, .int .u32 (m : Int), .int .i64 0, .string ⟨#[]⟩]] w fun e w' => e = .returned (.string u) ∧ Below w.heap.size w w') (hu : (u.toList == t.toList) = false) :
    Calls Tryd.prog 14 #[.string s] w fun e w' => e = .returned (.tuple #[.agg #[.int .i64 0, .int .u64 0, .int .i64 0, .int .u64 0, .int .u64 0, .int .u64 0, .int .u64 0, .bool false, .bool false, .bool false, .bool false, .int .u32 0, .int .i64 0, .string ⟨#[]⟩], .int .i64 2]) ∧ Below w.heap.size w w' := by
  subst hk1
  have HD := Lib.hid hd; clear hd
  have HR := Lib.hid hr; clear hr
  have HY := Lib.hid hy; clear hy
  have hbl := fun w => rblock_any 1 w
  rw [block_of_one] at hbl
  have HB := Lib.hid hbl; clear hbl
  have HO := Lib.hid ho; clear ho
  have HG := Lib.hid hg; clear hg
  have H0 := Lib.hid ((Held.refl w).own [.int .i64 0, .int .u64 0, .int .i64 0, .int .u64 0, .int .u64 0, .int .u64 0, .int .u64 0, .bool false, .bool false, .bool false, .bool false, .int .u32 0, .int .i64 0, .string ⟨#[]⟩] 30 (n := 14) rfl)
  have BR0 := Lib.hid (Box.new w [.int .i64 0, .int .u64 0, .int .i64 0, .int .u64 0, .int .u64 0, .int .u64 0, .int .u64 0, .bool false, .bool false, .bool false, .bool false, .int .u32 0, .int .i64 0, .string ⟨#[]⟩] 30)
  go_enter Tryd.func14, Tryd.ntmps14
  go_wp2_with fail
  refine (HO.out _).mono ?_
  rintro e w1 ⟨rfl, hb⟩
  have H1 := Lib.hid (H0.out.up hb)
  have BR1 := Lib.hid (BR0.out.below hb)
  clear hb
  go_wp2_with fail
  refine (HG.out _).mono ?_
  rintro e w2 ⟨rfl, hb⟩
  have H2 := Lib.hid (H1.out.up hb)
  have BR2 := Lib.hid (BR1.out.below hb)
  clear hb
  have BP3 := Lib.hid (Box.new w2 [.int .i64 1, .int .u64 l, .int .i64 0, .int .u64 0, .int .u64 0, .int .u64 0, .int .u64 0, .bool false, .bool false, .bool false, .bool false, .int .u32 0, .int .i64 0, .string ⟨#[]⟩] 30)
  have HN := Lib.hid (Nat.ne_of_lt BR2.out.lt)
  have H3 := Lib.hid (H2.out.own [.int .i64 1, .int .u64 l, .int .i64 0, .int .u64 0, .int .u64 0, .int .u64 0, .int .u64 0, .bool false, .bool false, .bool false, .bool false, .int .u32 0, .int .i64 0, .string ⟨#[]⟩] 30 (n := 14) rfl)
  have BR3 := Lib.hid (BR2.out.alloc (.cells ([.int .i64 1, .int .u64 l, .int .i64 0, .int .u64 0, .int .u64 0, .int .u64 0, .int .u64 0, .bool false, .bool false, .bool false, .bool false, .int .u32 0, .int .i64 0, .string ⟨#[]⟩] : List Value).toArray 30))
  go_wp2_with fail
  refine (HD.out _).mono ?_
  rintro e w4 ⟨rfl, hb⟩
  have H4 := Lib.hid (H3.out.up hb)
  have BR4 := Lib.hid (BR3.out.below hb)
  have BP4 := Lib.hid (BP3.out.below hb)
  clear hb
  clear H3 BR3 BP3 HG HO HD
  have kh := (Box.new w4 [.int .i64 n, .int .u64 c, .int .u64 b, .int .u64 o, .int .u64 p, .bool i, .bool r, .bool d, .bool q, .int .u32 (m : Int)] 28).cell
  have H5 := Lib.hid (H4.out.alloc (.cells #[.int .i64 n, .int .u64 c, .int .u64 b, .int .u64 o, .int .u64 p, .bool i, .bool r, .bool d, .bool q, .int .u32 (m : Int)] 28))
  have BR5 := Lib.hid (BR4.out.alloc (.cells #[.int .i64 n, .int .u64 c, .int .u64 b, .int .u64 o, .int .u64 p, .bool i, .bool r, .bool d, .bool q, .int .u32 (m : Int)] 28))
  have BP5 := Lib.hid (BP4.out.alloc (.cells #[.int .i64 n, .int .u64 c, .int .u64 b, .int .u64 o, .int .u64 p, .bool i, .bool r, .bool d, .bool q, .int .u32 (m : Int)] 28))
  have kp := BP5.out.cell
  have fp := BP5.out.frozen
  go_wp2_with fail
  clear kh kp fp
  have H6 := Lib.hid (H5.out.hel2 (b := w2.heap.size) ⟨14, by simp⟩ (.int .i64 n) (.int .u64 c) (.int .u64 b) (.int .u64 o) (.int .u64 p) (.bool i) (.bool r) (.bool d) (.bool q) (.int .u32 (m : Int)))
  have BP6 := Lib.hid (BP5.out.hel2 (.int .i64 n) (.int .u64 c) (.int .u64 b) (.int .u64 o) (.int .u64 p) (.bool i) (.bool r) (.bool d) (.bool q) (.int .u32 (m : Int)))
  have BR6 := Lib.hid (BR5.out.past2 HN.out (.int .i64 n) (.int .u64 c) (.int .u64 b) (.int .u64 o) (.int .u64 p) (.bool i) (.bool r) (.bool d) (.bool q) (.int .u32 (m : Int)))
  clear H5 BR5 BP5 H4 BR4 BP4
  refine (HB.out _).mono ?_
  rintro e w6 ⟨rfl, rfl⟩
  have kp := BP6.out.cell
  have fp := BP6.out.frozen
  go_wp2_with fail
  have H7 := Lib.hid (H6.out.set (b := w2.heap.size) ⟨14, by simp⟩ 13 (.string ⟨#[]⟩))
  have BP7 := Lib.hid (BP6.out.set 13 (.string ⟨#[]⟩))
  have BR7 := Lib.hid (BR6.out.other (p := ⟨w2.heap.size, 13, none⟩) HN.out (.string ⟨#[]⟩))
  clear kp fp
  refine (HR.out _).mono ?_
  rintro e w8 ⟨rfl, hb⟩
  have H8 := Lib.hid (H7.out.up hb)
  have BR8 := Lib.hid (BR7.out.below hb)
  have BP8 := Lib.hid (BP7.out.below hb)
  clear hb H7 BR7 BP7
  have kp := BP8.out.cell
  go_wp2_with fail
  refine (HY.out _).mono ?_
  rintro e w9 ⟨rfl, hb⟩
  have H9 := Lib.hid (H8.out.up hb)
  have BR9 := Lib.hid (BR8.out.below hb)
  have BP9 := Lib.hid (BP8.out.below hb)
  clear hb kp H8 BR8 BP8
  have kr := BR9.out.cell
  have fr := BR9.out.frozen
  go_wp2_with fail
  refine bodyPost_ret (v := .tuple #[.agg #[.int .i64 0, .int .u64 0, .int .i64 0, .int .u64 0, .int .u64 0, .int .u64 0, .int .u64 0, .bool false, .bool false, .bool false, .bool false, .int .u32 0, .int .i64 0, .string ⟨#[]⟩], .int .i64 2]) (by simp [results, Tryd.results14, go_sem, kr]) rfl ⟨rfl, ?_⟩
  exact (H9.out.set14 (b := w.heap.size) ⟨14, by simp⟩ _ _ _ _ _ _ _ _ _ _ _ _ _ _).below

set_option maxRecDepth 100000 in
set_option maxHeartbeats 16000000 in
theorem rpd_hel_ok (s t : ByteArray) (k l n c b o p : Int) (i r d q : Bool) (m : Nat) (w : World) (ho : ∀ w, Calls Tryd.prog 30 #[.string s] w fun e w' => e = .returned (.tuple #[.string t, .int .i64 0]) ∧ Below w.heap.size w w') (h9 : 9 ≤ t.size) (hg : ∀ w, Calls Tryd.prog 31 #[.string (t.extract 1 9)] w fun e w' => e = .returned (.tuple #[.int .u64 l, .bool true]) ∧ Below w.heap.size w w') (hk : ((t[0]'(by omega)).toNat : Int) = k) (hk1 : k = 1) (hd : ∀ w, Calls Tryd.prog 32 #[.string (t.extract 9 t.size)] w fun e w' => e = .returned (.tuple #[.agg #[.int .i64 n, .int .u64 c, .int .u64 b, .int .u64 o, .int .u64 p, .bool i, .bool r, .bool d, .bool q, .int .u32 (m : Int)], .int .i64 0]) ∧ Below w.heap.size w w') (hz : (t.size : Int) ≤ 3000) (hr : ∀ w, Calls Tryd.prog 11 #[.agg #[.int .i64 1, .int .u64 l, .int .i64 n, .int .u64 c, .int .u64 b, .int .u64 o, .int .u64 p, .bool i, .bool r, .bool d, .bool q, .int .u32 (m : Int), .int .i64 0, .string ⟨#[]⟩]] w fun e w' => e = .returned (.bool true) ∧ Below w.heap.size w w') (hy : ∀ w, Calls Tryd.prog 20 #[.agg #[.int .i64 1, .int .u64 l, .int .i64 n, .int .u64 c, .int .u64 b, .int .u64 o, .int .u64 p, .bool i, .bool r, .bool d, .bool q, .int .u32 (m : Int), .int .i64 0, .string ⟨#[]⟩]] w fun e w' => e = .returned (.string t) ∧ Below w.heap.size w w') :
    Calls Tryd.prog 14 #[.string s] w fun e w' => e = .returned (.tuple #[.agg #[.int .i64 1, .int .u64 l, .int .i64 n, .int .u64 c, .int .u64 b, .int .u64 o, .int .u64 p, .bool i, .bool r, .bool d, .bool q, .int .u32 (m : Int), .int .i64 0, .string ⟨#[]⟩], .int .i64 0]) ∧ Below w.heap.size w w' := by
  subst hk1
  have HD := Lib.hid hd; clear hd
  have HR := Lib.hid hr; clear hr
  have HY := Lib.hid hy; clear hy
  have hbl := fun w => rblock_any 1 w
  rw [block_of_one] at hbl
  have HB := Lib.hid hbl; clear hbl
  have HO := Lib.hid ho; clear ho
  have HG := Lib.hid hg; clear hg
  have H0 := Lib.hid ((Held.refl w).own [.int .i64 0, .int .u64 0, .int .i64 0, .int .u64 0, .int .u64 0, .int .u64 0, .int .u64 0, .bool false, .bool false, .bool false, .bool false, .int .u32 0, .int .i64 0, .string ⟨#[]⟩] 30 (n := 14) rfl)
  have BR0 := Lib.hid (Box.new w [.int .i64 0, .int .u64 0, .int .i64 0, .int .u64 0, .int .u64 0, .int .u64 0, .int .u64 0, .bool false, .bool false, .bool false, .bool false, .int .u32 0, .int .i64 0, .string ⟨#[]⟩] 30)
  go_enter Tryd.func14, Tryd.ntmps14
  go_wp2_with fail
  refine (HO.out _).mono ?_
  rintro e w1 ⟨rfl, hb⟩
  have H1 := Lib.hid (H0.out.up hb)
  have BR1 := Lib.hid (BR0.out.below hb)
  clear hb
  go_wp2_with fail
  refine (HG.out _).mono ?_
  rintro e w2 ⟨rfl, hb⟩
  have H2 := Lib.hid (H1.out.up hb)
  have BR2 := Lib.hid (BR1.out.below hb)
  clear hb
  have BP3 := Lib.hid (Box.new w2 [.int .i64 1, .int .u64 l, .int .i64 0, .int .u64 0, .int .u64 0, .int .u64 0, .int .u64 0, .bool false, .bool false, .bool false, .bool false, .int .u32 0, .int .i64 0, .string ⟨#[]⟩] 30)
  have HN := Lib.hid (Nat.ne_of_lt BR2.out.lt)
  have H3 := Lib.hid (H2.out.own [.int .i64 1, .int .u64 l, .int .i64 0, .int .u64 0, .int .u64 0, .int .u64 0, .int .u64 0, .bool false, .bool false, .bool false, .bool false, .int .u32 0, .int .i64 0, .string ⟨#[]⟩] 30 (n := 14) rfl)
  have BR3 := Lib.hid (BR2.out.alloc (.cells ([.int .i64 1, .int .u64 l, .int .i64 0, .int .u64 0, .int .u64 0, .int .u64 0, .int .u64 0, .bool false, .bool false, .bool false, .bool false, .int .u32 0, .int .i64 0, .string ⟨#[]⟩] : List Value).toArray 30))
  go_wp2_with fail
  refine (HD.out _).mono ?_
  rintro e w4 ⟨rfl, hb⟩
  have H4 := Lib.hid (H3.out.up hb)
  have BR4 := Lib.hid (BR3.out.below hb)
  have BP4 := Lib.hid (BP3.out.below hb)
  clear hb
  clear H3 BR3 BP3 HG HO HD
  have kh := (Box.new w4 [.int .i64 n, .int .u64 c, .int .u64 b, .int .u64 o, .int .u64 p, .bool i, .bool r, .bool d, .bool q, .int .u32 (m : Int)] 28).cell
  have H5 := Lib.hid (H4.out.alloc (.cells #[.int .i64 n, .int .u64 c, .int .u64 b, .int .u64 o, .int .u64 p, .bool i, .bool r, .bool d, .bool q, .int .u32 (m : Int)] 28))
  have BR5 := Lib.hid (BR4.out.alloc (.cells #[.int .i64 n, .int .u64 c, .int .u64 b, .int .u64 o, .int .u64 p, .bool i, .bool r, .bool d, .bool q, .int .u32 (m : Int)] 28))
  have BP5 := Lib.hid (BP4.out.alloc (.cells #[.int .i64 n, .int .u64 c, .int .u64 b, .int .u64 o, .int .u64 p, .bool i, .bool r, .bool d, .bool q, .int .u32 (m : Int)] 28))
  have kp := BP5.out.cell
  have fp := BP5.out.frozen
  go_wp2_with fail
  clear kh kp fp
  have H6 := Lib.hid (H5.out.hel2 (b := w2.heap.size) ⟨14, by simp⟩ (.int .i64 n) (.int .u64 c) (.int .u64 b) (.int .u64 o) (.int .u64 p) (.bool i) (.bool r) (.bool d) (.bool q) (.int .u32 (m : Int)))
  have BP6 := Lib.hid (BP5.out.hel2 (.int .i64 n) (.int .u64 c) (.int .u64 b) (.int .u64 o) (.int .u64 p) (.bool i) (.bool r) (.bool d) (.bool q) (.int .u32 (m : Int)))
  have BR6 := Lib.hid (BR5.out.past2 HN.out (.int .i64 n) (.int .u64 c) (.int .u64 b) (.int .u64 o) (.int .u64 p) (.bool i) (.bool r) (.bool d) (.bool q) (.int .u32 (m : Int)))
  clear H5 BR5 BP5 H4 BR4 BP4
  refine (HB.out _).mono ?_
  rintro e w6 ⟨rfl, rfl⟩
  have kp := BP6.out.cell
  have fp := BP6.out.frozen
  go_wp2_with fail
  have H7 := Lib.hid (H6.out.set (b := w2.heap.size) ⟨14, by simp⟩ 13 (.string ⟨#[]⟩))
  have BP7 := Lib.hid (BP6.out.set 13 (.string ⟨#[]⟩))
  have BR7 := Lib.hid (BR6.out.other (p := ⟨w2.heap.size, 13, none⟩) HN.out (.string ⟨#[]⟩))
  clear kp fp
  refine (HR.out _).mono ?_
  rintro e w8 ⟨rfl, hb⟩
  have H8 := Lib.hid (H7.out.up hb)
  have BR8 := Lib.hid (BR7.out.below hb)
  have BP8 := Lib.hid (BP7.out.below hb)
  clear hb H7 BR7 BP7
  have kp := BP8.out.cell
  go_wp2_with fail
  refine (HY.out _).mono ?_
  rintro e w9 ⟨rfl, hb⟩
  have H9 := Lib.hid (H8.out.up hb)
  have BR9 := Lib.hid (BR8.out.below hb)
  have BP9 := Lib.hid (BP8.out.below hb)
  clear hb kp H8 BR8 BP8
  have kp := BP9.out.cell
  have kr := BR9.out.cell
  have fr := BR9.out.frozen
  go_wp2_with fail
  refine bodyPost_ret (v := .tuple #[.agg #[.int .i64 1, .int .u64 l, .int .i64 n, .int .u64 c, .int .u64 b, .int .u64 o, .int .u64 p, .bool i, .bool r, .bool d, .bool q, .int .u32 (m : Int), .int .i64 0, .string ⟨#[]⟩], .int .i64 0]) (by simp [results, Tryd.results14, go_sem, kr]) rfl ⟨rfl, ?_⟩
  exact (H9.out.set14 (b := w.heap.size) ⟨14, by simp⟩ _ _ _ _ _ _ _ _ _ _ _ _ _ _).below

end Go.Proofs.YtbbcncofdhhflaaDoor
