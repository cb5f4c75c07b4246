/- Blocks on a disk, layer 9, in plain words: what formatting a disk makes; and that both sides make just that, for every number of blocks and every generation. No other condition. -/
import Derived.Test.YtlgfinomkpingaaIX
import Derived.Test.YtlgfinomkpingaaIR
import Derived.Test.YtlgfinomkpingaaI5
import Derived.Test.YtlgfinomkpingaaG3
import Derived.Test.YtlgfinomkpingaaH3
namespace Go.Proofs.Ytlgfinomkpingaa
open Go.RowKit

/-- The superblock of a disk that is new. -/
def fmS (k g : Int) : Sup := ⟨k, g, 0, 0, 0, false, false, false⟩
/-- What formatting makes. -/
def fmtA (k g : Int) : Ans := if (fmS k g).right = true then ⟨fmtL (fmS k g).bytes (bytesM 0) k.toNat, [], 0, false, 0⟩ else ⟨[], [], 0, false, 1⟩

theorem fmS_wide {k g : Int} (h0 : 0 ≤ g) (h1 : g < 18446744073709551616) : (fmS k g).wide := by
  unfold Sup.wide fmS
  dsimp only
  omega

theorem fmS_right {k g : Int} (h : (fmS k g).right = true) : 1 ≤ k ∧ k ≤ 32 := by
  unfold Sup.right fmS at h
  simp only [Bool.and_eq_true, decide_eq_true_eq] at h
  omega

/-- While it is being formatted. -/
def fmP (b y : ByteArray) (N k : Nat) : List ByteArray := b :: y :: ((List.replicate N z8).take k ++ List.replicate (N - k) e0)

theorem fmP_length (b y : ByteArray) (N k : Nat) : (fmP b y N k).length = N + 2 := by
  unfold fmP
  simp only [List.length_cons, List.length_append, List.length_take, List.length_replicate]
  omega

theorem fmP_last (b y : ByteArray) (N : Nat) : fmP b y N N = fmtL b y N := by
  unfold fmP fmtL
  rw [Nat.sub_self, List.take_of_length_le (by simp)]
  simp

theorem fmP_step (b y : ByteArray) (N k : Nat) (h : k < N) : (fmP b y N k).set (k + 2) z8 = fmP b y N (k + 1) := by
  have e : N - k = (N - (k + 1)) + 1 := by omega
  unfold fmP
  rw [e, List.replicate_succ, List.set_cons_succ, List.set_cons_succ, take_snoc _ k (by simpa using h), List.getElem_replicate]
  have hl : ((List.replicate N z8).take k).length = k := by simp; omega
  rw [List.set_append_right _ _ (by omega), hl, Nat.sub_self, List.set_cons_zero, List.append_assoc]
  rfl

theorem burn00 : burnF (burnF 0) = 0 := rfl

theorem put_fmP (b y : ByteArray) (N k : Nat) (h : k < N) : putA (fmP b y N k) [] 0 false (k : Nat) z8 = ⟨fmP b y N (k + 1), [], 0, false, 0⟩ := by
  have ht : thereB (fmP b y N k).length (k : Nat) = true := by
    rw [fmP_length]
    unfold thereB
    simp
    omega
  have hn : ((k : Int) + 2).toNat = k + 2 := by omega
  unfold putA
  rw [if_pos ht, if_pos (by rfl), if_neg (by simp), if_neg (by decide), if_neg (by decide)]
  show (⟨(fmP b y N k).set ((k : Int) + 2).toNat z8, [], burnF (burnF 0), false, 0⟩ : Ans) = _
  rw [hn, fmP_step b y N k h, burn00]

theorem mask_none {N : Nat} (h1 : 1 ≤ N) (h2 : N ≤ 32) : mrightB 0 (((N + 2 : Nat) : Int) - 2) = true := by
  unfold mrightB
  rw [decide_eq_true (by omega), Bool.true_and, decide_eq_true_eq]
  exact Nat.pow_pos (by decide)

/-! ### The code -/
set_option maxRecDepth 100000 in
theorem afmt_any (k g : Int) (w : World) (h0 : 0 ≤ g) (h1 : g < 18446744073709551616) : Calls Try.prog 17 #[.int .i64 k, .int .u64 g] w (GivesD (fmtA k g).s (fmtA k g).c (fmtA k g).f (fmtA k g).x (fmtA k g).e w) := by
  have hw := fmS_wide (k := k) h0 h1
  have hq := fun v => sright_any (fmS k g) v
  unfold fmtA
  cases hr : (fmS k g).right with
  | false =>
    rw [if_neg (by simp)]
    rw [hr] at hq
    exact afmt_no k g w hq
  | true =>
    rw [if_pos rfl]
    rw [hr] at hq
    obtain ⟨hk1, hk2⟩ := fmS_right hr
    obtain ⟨N, rfl⟩ : ∃ N : Nat, k = (N : Int) := ⟨k.toNat, by omega⟩
    rw [Int.toNat_natCast]
    have hn : (fmS (N : Int) g).n = (N : Int) := rfl
    have hz : (fmS (N : Int) g).bytes.size = 41 := bytes_size _
    have hc := fun (A B : Option Addr) (n m : Nat) (v : World) (hm : Mem v A n B m (List.replicate (N + 2) e0) []) =>
      commit_any A B n m (List.replicate (N + 2) e0) [] 0 false (fmS (N : Int) g) v hm hw (by rw [List.length_replicate]; omega) (by rw [List.length_replicate]; omega) (by decide) (by decide) rfl
    have hcd : commitD (List.replicate (N + 2) e0) [] 0 false (fmS (N : Int) g) = ⟨(fmS (N : Int) g).bytes :: List.replicate (N + 1) e0, [], 0, false, 0⟩ := by
      unfold commitD
      rw [if_pos (by rw [hr, hn, List.length_replicate, Bool.and_true]; rw [beq_iff_eq]; omega), if_neg (by simp), if_neg (by decide), if_neg (by decide)]
      rfl
    rw [hcd] at hc
    generalize (fmS (N : Int) g).bytes = b at *
    have hs := fun (A B : Option Addr) (n m : Nat) (v : World) (hm : Mem v A n B m (b :: List.replicate (N + 1) e0) []) =>
      bsave_any A B n m (b :: List.replicate (N + 1) e0) [] 0 false 0 v hm (by decide) (by simp; omega) (by decide) (by decide) rfl
    have hsd : saveB (b :: List.replicate (N + 1) e0) [] 0 false 0 = ⟨fmP b (bytesM 0) N 0, [], 0, false, 0⟩ := by
      unfold saveB
      rw [if_pos (by rw [List.length_cons, List.length_replicate]; exact mask_none (by omega) (by omega)), if_neg (by simp), if_neg (by decide), if_neg (by decide)]
      rfl
    rw [hsd] at hs
    generalize bytesM 0 = y at *
    have hp := fun (k : Nat) (hk : k < N) (A B : Option Addr) (n m : Nat) (v : World) (hm : Mem v A n B m (fmP b y N k) []) =>
      aput_any A B n m (fmP b y N k) [] 0 false (k : Nat) z8 v hm (by rw [fmP_length]; omega) (by decide) (by decide) rfl
    have hnew := fun v => new_any ((N : Int) + 2) v
    rw [if_neg (by omega), if_neg (by omega), if_neg (by omega), if_neg (by omega), show ((N : Int) + 2).toNat = N + 2 by omega] at hnew
    have := afmt_go N (N + 2) g w (by omega) (List.replicate (N + 2) e0) (b :: List.replicate (N + 1) e0) (fun k => fmP b y N k) (fun _ => 0) (by simp) (by simp) (fun k => fmP_length b y N k) hq hnew
      (fun A B n m v hm => by have := hc A B n m v hm; rw [List.length_replicate] at this; exact this)
      (fun A B n m v hm => by have := hs A B n m v hm; rw [List.length_cons, List.length_replicate] at this; exact this)
      repeat_z8
      (fun k hk A B n m v hm => by have := hp k hk A B n m v hm; rw [put_fmP b y N k hk, fmP_length] at this; exact this)
    rw [fmP_last] at this
    exact this

/-! ### The document -/
set_option maxRecDepth 100000 in
theorem rfmt_any (k g : Int) (w : World) (h0 : 0 ≤ g) (h1 : g < 18446744073709551616) : Calls Try.prog 18 #[.int .i64 k, .int .u64 g] w (GivesD (fmtA k g).s (fmtA k g).c (fmtA k g).f (fmtA k g).x (fmtA k g).e w) := by
  have hq := fun v => rencode_any (fmS k g) v (fmS_wide h0 h1)
  unfold Sup.encT Sup.encE at hq
  unfold fmtA
  cases hr : (fmS k g).right with
  | false =>
    rw [if_neg (by simp)]
    simp only [hr, Bool.false_eq_true, if_false] at hq
    exact rfmt_no k g 1 w _ (by decide) hq
  | true =>
    rw [if_pos rfl]
    simp only [hr, if_true] at hq
    obtain ⟨hk1, hk2⟩ := fmS_right hr
    obtain ⟨N, rfl⟩ : ∃ N : Nat, k = (N : Int) := ⟨k.toNat, by omega⟩
    rw [Int.toNat_natCast]
    exact rfmt_go N g w (by omega) _ _ _ hq (fun v => rbput_mask 0 (by decide) v) (fun v => rbseal_mask 0 v)

end Go.Proofs.Ytlgfinomkpingaa

/- A mask that may be there is loaded as it was noted. No other condition. -/

namespace Go.Proofs.Ytlgfinomkpingaa
open Go.RowKit

theorem num_bytes (k : Nat) (hk : k < 4294967296) : numL (txt (be 4 k)) = (k, true) := by
  unfold numL
  rw [if_pos (by rw [txt_size, be_length]), txt_data, val_be, Nat.mod_eq_of_lt (by omega)]

/-- A mask that may be there is loaded as it was noted. -/
theorem load_mask {n k : Nat} (hk : k < 4294967296) (h : mrightB k ((n : Int) - 2) = true) : loadT n (bytesM k) = (k, 0) := by
  obtain ⟨h1, h2⟩ := open_sealed (be 4 k)
  unfold loadT bytesM
  rw [h1, h2, num_bytes k hk]
  dsimp only
  rw [if_pos rfl, if_pos rfl, if_pos h]

end Go.Proofs.Ytlgfinomkpingaa

/- Blocks on a disk, layer 9: the document's example; a block put, and read: the fixed fact holds. No condition. -/

namespace Go.Proofs.Ytlgfinomkpingaa
open Go.RowKit

def abc8 : ByteArray := ⟨#[97, 98, 99, 100, 101, 102, 103, 104]⟩
def abc3 : ByteArray := ⟨#[97, 98, 99]⟩

theorem x_fmt : fmtA 2 7 = ⟨[(fmS 2 7).bytes, bytesM 0, z8, z8], [], 0, false, 0⟩ := rfl
theorem x_zero : fmtA 0 7 = ⟨[], [], 0, false, 1⟩ := rfl
theorem x_put (b y : ByteArray) : putA [b, y, z8, z8] [] 0 false 1 abc8 = ⟨[b, y, z8, abc8], [], 0, false, 0⟩ := rfl
theorem x_read (b y : ByteArray) : readA [b, y, z8, abc8] [] false 1 = (abc8, 0) := rfl
theorem x_all (b y : ByteArray) : allA [b, y, z8, abc8] [] false = ([z8, abc8], 0) := rfl
theorem x_out (b y : ByteArray) : readA [b, y, z8, abc8] [] false 2 = (e0, 4) := rfl
theorem x_short (b y : ByteArray) : putA [b, y, z8, abc8] [] 0 false 0 abc3 = ⟨[b, y, z8, abc8], [], 0, false, 5⟩ := rfl
theorem x_loadS (D : Sup) (h : D.n = 2) : loadS 4 (D, 0) = (D, 0) := by
  unfold loadS
  rw [if_pos rfl, if_pos (by rw [beq_iff_eq, h]; decide)]
theorem x_load0 (b y : ByteArray) : loadD [b, y, z8, z8] [] false b = loadS 4 (dec b) := rfl
theorem x_load (y : ByteArray) : loadD [(fmS 2 7).bytes, y, z8, z8] [] false (fmS 2 7).bytes = (fmS 2 7, 0) := by
  rw [x_load0, dec_bytes (fmS 2 7) (fmS_wide (by decide) (by decide)) (by rfl), x_loadS _ rfl]
theorem x_mask0 (b y : ByteArray) : loadB [b, y, z8, z8] [] false = loadT 4 y := rfl
theorem x_mask (b : ByteArray) : loadB [b, bytesM 0, z8, z8] [] false = (0, 0) := by
  rw [x_mask0]
  exact load_mask (n := 4) (by decide) (by decide)

theorem es_two (w : World) (b y : ByteArray) : Es Value.string (w.alloc (.cells #[.string b, .string y] 9)) (w.alloc (.cells #[.string b, .string y] 9)).heap.size (some ⟨w.heap.size, 0, none⟩) [b, y] := by
  obtain ⟨A, c, hv, _, h⟩ := own_es (s := [b, y]) (own_two w b y)
  injection hv with q
  rw [q]
  exact h

theorem a_fmt (w : World) : Calls Try.prog 17 #[.int .i64 2, .int .u64 7] w (GivesD [(fmS 2 7).bytes, bytesM 0, z8, z8] [] 0 false 0 w) := by
  have := afmt_any 2 7 w (by decide) (by decide)
  rw [x_fmt] at this
  exact this
theorem a_zero (w : World) : Calls Try.prog 17 #[.int .i64 0, .int .u64 7] w (GivesD [] [] 0 false 1 w) := by
  have := afmt_any 0 7 w (by decide) (by decide)
  rw [x_zero] at this
  exact this
theorem a_put (b y : ByteArray) (A B : Option Addr) (n m : Nat) (w : World) (h : Mem w A n B m [b, y, z8, z8] []) : Calls Try.prog 11 #[.agg #[.slice A 4 n, .slice B 0 m, .int .i64 0, .bool false], .int .i64 1, .string abc8] w (GivesD [b, y, z8, abc8] [] 0 false 0 w) := by
  have := aput_any A B n m [b, y, z8, z8] [] 0 false 1 abc8 w h (by simp) (by decide) (by decide) rfl
  rw [x_put] at this
  exact this
theorem a_read (b y : ByteArray) (A B : Option Addr) (n m : Nat) (w : World) (h : Mem w A n B m [b, y, z8, abc8] []) : Calls Try.prog 9 #[.agg #[.slice A 4 n, .slice B 0 m, .int .i64 0, .bool false], .int .i64 1] w fun e w' => e = .returned (.tuple #[.string abc8, .int .i64 0]) ∧ Below w.heap.size w w' := by
  have := aread_any A B n m [b, y, z8, abc8] [] 0 false 1 w h (by simp) (by decide)
  rw [x_read] at this
  exact this
theorem a_all (b y : ByteArray) (A B : Option Addr) (n m : Nat) (w : World) (h : Mem w A n B m [b, y, z8, abc8] []) : Calls Try.prog 13 #[.agg #[.slice A 4 n, .slice B 0 m, .int .i64 0, .bool false]] w (GivesT [z8, abc8] 0 w) := by
  have := aall_any A B n m [b, y, z8, abc8] [] 0 false w h (by simp) (by decide)
  rw [x_all] at this
  exact this
theorem a_out (b y : ByteArray) (A B : Option Addr) (n m : Nat) (w : World) (h : Mem w A n B m [b, y, z8, abc8] []) : Calls Try.prog 9 #[.agg #[.slice A 4 n, .slice B 0 m, .int .i64 0, .bool false], .int .i64 2] w fun e w' => e = .returned (.tuple #[.string e0, .int .i64 4]) ∧ Below w.heap.size w w' := by
  have := aread_any A B n m [b, y, z8, abc8] [] 0 false 2 w h (by simp) (by decide)
  rw [x_out] at this
  exact this
theorem a_short (b y : ByteArray) (A B : Option Addr) (n m : Nat) (w : World) (h : Mem w A n B m [b, y, z8, abc8] []) : Calls Try.prog 11 #[.agg #[.slice A 4 n, .slice B 0 m, .int .i64 0, .bool false], .int .i64 0, .string abc3] w (GivesD [b, y, z8, abc8] [] 0 false 5 w) := by
  have := aput_any A B n m [b, y, z8, abc8] [] 0 false 0 abc3 w h (by simp) (by decide) (by decide) rfl
  rw [x_short] at this
  exact this
theorem a_load (A B : Option Addr) (n m : Nat) (w : World) (h : Mem w A n B m [(fmS 2 7).bytes, bytesM 0, z8, z8] []) : Calls Try.prog 22 #[.agg #[.slice A 4 n, .slice B 0 m, .int .i64 0, .bool false]] w fun e w' => e = .returned (.tuple #[supV (fmS 2 7), .int .i64 0]) ∧ Below w.heap.size w w' := by
  have := rload_any A B n m [(fmS 2 7).bytes, bytesM 0, z8, z8] [] 0 false (fmS 2 7).bytes w h rfl (by simp) (by decide) (by show ((fmS 2 7).bytes.size : Int) ≤ 3000; rw [bytes_size]; decide)
  rw [x_load] at this
  exact this
theorem a_mask (b : ByteArray) (A B : Option Addr) (n m : Nat) (w : World) (h : Mem w A n B m [b, bytesM 0, z8, z8] []) : Calls Try.prog 23 #[.agg #[.slice A 4 n, .slice B 0 m, .int .i64 0, .bool false]] w fun e w' => e = .returned (.tuple #[.int .u32 0, .int .i64 0]) ∧ Below w.heap.size w w' := by
  have := rbload_any A B n m [b, bytesM 0, z8, z8] [] 0 false w h (by simp) (by decide) (by show ((bytesM 0).size : Int) ≤ 3000; rw [bytesM_size]; decide)
  rw [x_mask] at this
  exact this
theorem a_texts (A1 A2 : Option Addr) (c1 c2 : Nat) (w : World) (h1 : Es Value.string w w.heap.size A1 [z8, abc8]) (h2 : Es Value.string w w.heap.size A2 [z8, abc8]) :
    Calls Try.prog 16 #[.slice A1 2 c1, .slice A2 2 c2] w fun e w' => e = .returned (.bool true) ∧ Below w.heap.size w w' := by
  have := texts_any A1 A2 c1 c2 [z8, abc8] [z8, abc8] w h1 h2 (by decide)
  rw [decide_eq_true rfl] at this
  exact this

set_option maxRecDepth 100000 in
set_option maxHeartbeats 8000000 in
theorem alive_any (w : World) : Calls Try.prog 6 #[] w fun e w' => e = .returned (.bool true) ∧ Below w.heap.size w w' := by
  have f := a_fmt
  have u := a_load
  have k := a_mask (fmS 2 7).bytes
  generalize (fmS 2 7).bytes = b at *
  generalize bytesM 0 = y at *
  have F := Lib.hid f; clear f
  have U := Lib.hid u; clear u
  have K := Lib.hid k; clear k
  have htx : abc8.toList = [97, 98, 99, 100, 101, 102, 103, 104] := by rw [ByteArray.toList_eq]; rfl
  go_enter Try.func6, Try.ntmps6
  go_wp2_with fail
  refine (F.out _).mono ?_
  rintro e w1 ⟨A1, B1, n1, m1, rfl, hm, hb⟩
  have KD1 := Lib.hid (Kept.new (f := 0) (x := false) hm)
  have H1 := Lib.hid (ext_alloc hb (.cells #[.slice A1 4 n1, .slice B1 0 m1, .int .i64 0, .bool false] 25))
  clear hb hm F
  have kk := KD1.out.box.cell
  go_wp2_with fail
  refine (a_put b y A1 B1 n1 m1 _ KD1.out.mem).mono ?_
  rintro e w2 ⟨A2, B2, n2, m2, rfl, hm, hb⟩
  have KD2 := Lib.hid ((KD1.out.up hb).up (below1 (o := .cells #[.slice A2 4 n2, .slice B2 0 m2, .int .i64 0, .bool false] 25)))
  have H2 := Lib.hid (ext_alloc (ext H1.out hb) (.cells #[.slice A2 4 n2, .slice B2 0 m2, .int .i64 0, .bool false] 25))
  have KX2 := Lib.hid (Kept.new (f := 0) (x := false) hm)
  clear hm
  clear hb KD1 H1 kk
  have kk := KX2.out.box.cell
  go_wp2_with fail
  refine (a_read b y A2 B2 n2 m2 _ KX2.out.mem).mono ?_
  rintro e w3 ⟨rfl, hb⟩
  have KD3 := Lib.hid ((KD2.out.up hb))
  have KX3 := Lib.hid ((KX2.out.up hb))
  have H3 := Lib.hid (ext H2.out hb)
  clear hb KD2 KX2 H2 kk
  have kk := KX3.out.box.cell
  go_wp2_with fail
  refine (a_all b y A2 B2 n2 m2 _ KX3.out.mem).mono ?_
  rintro e w4 ⟨A4, n4, rfl, hes, hb⟩
  have KD4 := Lib.hid ((KD3.out.up hb))
  have KX4 := Lib.hid ((KX3.out.up hb))
  have H4 := Lib.hid (ext H3.out hb)
  have ES4 := Lib.hid hes
  clear hes
  clear hb KD3 KX3 H3 kk
  have kk := KX4.out.box.cell
  go_wp2_with fail
  refine (a_out b y A2 B2 n2 m2 _ KX4.out.mem).mono ?_
  rintro e w5 ⟨rfl, hb⟩
  have KD5 := Lib.hid ((KD4.out.up hb))
  have KX5 := Lib.hid ((KX4.out.up hb))
  have ES5 := Lib.hid (ES4.out.below hb hb.size)
  have H5 := Lib.hid (ext H4.out hb)
  clear hb KD4 KX4 ES4 H4 kk
  have kk := KX5.out.box.cell
  go_wp2_with fail
  refine (a_short b y A2 B2 n2 m2 _ KX5.out.mem).mono ?_
  rintro e w6 ⟨A6, B6, n6, m6, rfl, hm, hb⟩
  have KD6 := Lib.hid ((KD5.out.up hb).up (below1 (o := .cells #[.slice A6 4 n6, .slice B6 0 m6, .int .i64 0, .bool false] 25)))
  have KX6 := Lib.hid ((KX5.out.up hb).up (below1 (o := .cells #[.slice A6 4 n6, .slice B6 0 m6, .int .i64 0, .bool false] 25)))
  have ES6 := Lib.hid (ES5.out.below (ext hb (below1 (o := .cells #[.slice A6 4 n6, .slice B6 0 m6, .int .i64 0, .bool false] 25))) (ext hb (below1 (o := .cells #[.slice A6 4 n6, .slice B6 0 m6, .int .i64 0, .bool false] 25))).size)
  have H6 := Lib.hid (ext_alloc (ext H5.out hb) (.cells #[.slice A6 4 n6, .slice B6 0 m6, .int .i64 0, .bool false] 25))
  clear hm
  clear hb KD5 KX5 ES5 H5 kk
  go_wp2_with fail
  refine (a_zero _).mono ?_
  rintro e w7 ⟨A7, B7, n7, m7, rfl, hm, hb⟩
  have KD7 := Lib.hid ((KD6.out.up hb).up (below1 (o := .cells #[.slice A7 0 n7, .slice B7 0 m7, .int .i64 0, .bool false] 25)))
  have KX7 := Lib.hid ((KX6.out.up hb).up (below1 (o := .cells #[.slice A7 0 n7, .slice B7 0 m7, .int .i64 0, .bool false] 25)))
  have ES7 := Lib.hid (ES6.out.below (ext hb (below1 (o := .cells #[.slice A7 0 n7, .slice B7 0 m7, .int .i64 0, .bool false] 25))) (ext hb (below1 (o := .cells #[.slice A7 0 n7, .slice B7 0 m7, .int .i64 0, .bool false] 25))).size)
  have H7 := Lib.hid (ext_alloc (ext H6.out hb) (.cells #[.slice A7 0 n7, .slice B7 0 m7, .int .i64 0, .bool false] 25))
  clear hm
  clear hb KD6 KX6 ES6 H6
  have kk := KD7.out.box.cell
  go_wp2_with fail
  refine (U.out A1 B1 n1 m1 _ KD7.out.mem).mono ?_
  rintro e w8 ⟨rfl, hb⟩
  have KD8 := Lib.hid ((KD7.out.up hb).up (below1 (o := .cells (supC (fmS 2 7)).toArray 52)))
  have KX8 := Lib.hid ((KX7.out.up hb).up (below1 (o := .cells (supC (fmS 2 7)).toArray 52)))
  have ES8 := Lib.hid (ES7.out.below (ext hb (below1 (o := .cells (supC (fmS 2 7)).toArray 52))) (ext hb (below1 (o := .cells (supC (fmS 2 7)).toArray 52))).size)
  have H8 := Lib.hid (ext_alloc (ext H7.out hb) (.cells (supC (fmS 2 7)).toArray 52))
  have BU8 := Lib.hid (Box.new w8 (supC (fmS 2 7)) 52)
  clear hb KD7 KX7 ES7 H7 kk
  have kk := KD8.out.box.cell
  go_wp2_with fail
  refine (K.out A1 B1 n1 m1 _ KD8.out.mem).mono ?_
  rintro e w9 ⟨rfl, hb⟩
  have KD9 := Lib.hid ((KD8.out.up hb))
  have KX9 := Lib.hid ((KX8.out.up hb))
  have ES9 := Lib.hid (ES8.out.below hb hb.size)
  have BU9 := Lib.hid ((BU8.out.below hb))
  have H9 := Lib.hid (ext H8.out hb)
  clear hb KD8 KX8 ES8 BU8 H8 kk
  have kd := KD9.out.box.cell
  have ku := BU9.out.cell
  go_wp2_with fail
  refine (nought_any _).mono ?_
  rintro e w10 ⟨rfl, hb⟩
  have BU10 := Lib.hid ((BU9.out.below hb).alloc (.cells #[.string z8, .string abc8] 9))
  have ES10 := Lib.hid (ES9.out.below (ext hb (below1 (o := .cells #[.string z8, .string abc8] 9))) (ext hb (below1 (o := .cells #[.string z8, .string abc8] 9))).size)
  have H10 := Lib.hid (ext_alloc (ext H9.out hb) (.cells #[.string z8, .string abc8] 9))
  clear hb BU9 ES9 H9 KD9 KX9 kd ku
  go_wp2_with fail
  refine (a_texts A4 (some ⟨w10.heap.size, 0, none⟩) n4 2 _ ES10.out (es_two w10 z8 abc8)).mono ?_
  rintro e w11 ⟨rfl, hb⟩
  have BU11 := Lib.hid (BU10.out.below hb)
  have H11 := Lib.hid (ext H10.out hb)
  clear hb BU10 ES10 H10
  have ku := BU11.out.cell
  go_wp2_with fail
  go_ret
  exact ⟨rfl, H11.out⟩

end Go.Proofs.Ytlgfinomkpingaa
