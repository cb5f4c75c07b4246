/- Acts in memory; whether there are too many; what the law's two ways of doing one answer, over the calls that they make. No other condition but that the lists lie in memory. -/
import Derived.Test.YtjkgellkkjjnbaaGreatDoorZX
import Derived.Test.YtjkgellkkjjnbaaGreatDoorKG
namespace Go.Proofs.YtjkgellkkjjnbaaGreatDoor
open Go.RowKit

@[reducible] def actC (a : Act) : List Value := [.int .i64 a.k, .int .i64 a.i, .int .u32 (a.m : Nat), .string a.d, .int .i64 a.b.n, .int .u64 a.b.c, .int .u64 a.b.b, .int .u64 a.b.o, .int .u64 a.b.p, .bool a.b.i, .bool a.b.r, .bool a.b.d]
@[reducible] def actV (a : Act) : Value := .agg #[.int .i64 a.k, .int .i64 a.i, .int .u32 (a.m : Nat), .string a.d, .int .i64 a.b.n, .int .u64 a.b.c, .int .u64 a.b.b, .int .u64 a.b.o, .int .u64 a.b.p, .bool a.b.i, .bool a.b.r, .bool a.b.d]

/-- An act in memory, cell by cell. -/
structure ActAt (w : World) (p : Addr) (a : Act) : Prop where
  c0 : w.cell? p = some (.int .i64 a.k)
  c1 : w.cell? ⟨p.block, p.off + 1, none⟩ = some (.int .i64 a.i)
  c2 : w.cell? ⟨p.block, p.off + 2, none⟩ = some (.int .u32 (a.m : Nat))
  c3 : w.cell? ⟨p.block, p.off + 3, none⟩ = some (.string a.d)
  c4 : w.cell? ⟨p.block, p.off + 4, none⟩ = some (.int .i64 a.b.n)
  c5 : w.cell? ⟨p.block, p.off + 5, none⟩ = some (.int .u64 a.b.c)
  c6 : w.cell? ⟨p.block, p.off + 6, none⟩ = some (.int .u64 a.b.b)
  c7 : w.cell? ⟨p.block, p.off + 7, none⟩ = some (.int .u64 a.b.o)
  c8 : w.cell? ⟨p.block, p.off + 8, none⟩ = some (.int .u64 a.b.p)
  c9 : w.cell? ⟨p.block, p.off + 9, none⟩ = some (.bool a.b.i)
  c10 : w.cell? ⟨p.block, p.off + 10, none⟩ = some (.bool a.b.r)
  c11 : w.cell? ⟨p.block, p.off + 11, none⟩ = some (.bool a.b.d)

theorem zadd_block (a : Addr) (m : Nat) : (a.add m).block = a.block := by unfold Addr.add; split <;> rfl
theorem zadd_more (a : Addr) (m i : Nat) (hi : i ≠ 0) : (⟨(a.add m).block, (a.add m).off + i, none⟩ : Addr) = a.add (m + i) := by
  have e1 : (a.add m).block = a.block := zadd_block a m
  have e2 : (a.add m).off = a.off + m := by unfold Addr.add; split <;> simp_all
  rw [e1, e2]
  unfold Addr.add
  rw [if_neg (by omega), Nat.add_assoc]
theorem actAt_flat {w : World} {p : Addr} {m : Nat} {a : Act} (h : ∀ i v, (actC a)[i]? = some v → w.cell? (p.add (m + i)) = some v) : ActAt w (p.add m) a :=
  ⟨h 0 _ rfl, by rw [zadd_more _ _ _ (by decide)]; exact h 1 _ rfl, by rw [zadd_more _ _ _ (by decide)]; exact h 2 _ rfl, by rw [zadd_more _ _ _ (by decide)]; exact h 3 _ rfl, by rw [zadd_more _ _ _ (by decide)]; exact h 4 _ rfl, by rw [zadd_more _ _ _ (by decide)]; exact h 5 _ rfl, by rw [zadd_more _ _ _ (by decide)]; exact h 6 _ rfl, by rw [zadd_more _ _ _ (by decide)]; exact h 7 _ rfl, by rw [zadd_more _ _ _ (by decide)]; exact h 8 _ rfl, by rw [zadd_more _ _ _ (by decide)]; exact h 9 _ rfl, by rw [zadd_more _ _ _ (by decide)]; exact h 10 _ rfl, by rw [zadd_more _ _ _ (by decide)]; exact h 11 _ rfl⟩
theorem ActAt.same {w w' : World} {p : Addr} {a : Act} (h : ActAt w p a) (hb : w'.heap[p.block]? = w.heap[p.block]?) : ActAt w' p a :=
  ⟨(World.cell?_of_block (a := p) hb).trans h.c0, (World.cell?_of_block (a := ⟨p.block, p.off + 1, none⟩) hb).trans h.c1, (World.cell?_of_block (a := ⟨p.block, p.off + 2, none⟩) hb).trans h.c2, (World.cell?_of_block (a := ⟨p.block, p.off + 3, none⟩) hb).trans h.c3, (World.cell?_of_block (a := ⟨p.block, p.off + 4, none⟩) hb).trans h.c4, (World.cell?_of_block (a := ⟨p.block, p.off + 5, none⟩) hb).trans h.c5, (World.cell?_of_block (a := ⟨p.block, p.off + 6, none⟩) hb).trans h.c6, (World.cell?_of_block (a := ⟨p.block, p.off + 7, none⟩) hb).trans h.c7, (World.cell?_of_block (a := ⟨p.block, p.off + 8, none⟩) hb).trans h.c8, (World.cell?_of_block (a := ⟨p.block, p.off + 9, none⟩) hb).trans h.c9, (World.cell?_of_block (a := ⟨p.block, p.off + 10, none⟩) hb).trans h.c10, (World.cell?_of_block (a := ⟨p.block, p.off + 11, none⟩) hb).trans h.c11⟩

/-- A slice of acts that reads as a list. -/
def As (w : World) (D : Nat) (A : Option Addr) (l : List Act) : Prop := ∀ j s, l[j]? = some s → ∃ a, A = some a ∧ a.block < D ∧ ActAt w (a.add (j * 12)) s
theorem As.below {w w' : World} {D D' : Nat} {A : Option Addr} {l : List Act} (h : As w D A l) (hb : Below D w w') (hD : D ≤ D') : As w' D' A l := by
  intro j s hj
  obtain ⟨a, ha, hlt, hc⟩ := h j s hj
  exact ⟨a, ha, by omega, hc.same (hb.block _ (by rw [zadd_block]; exact hlt))⟩
theorem As.up {w w' : World} {A : Option Addr} {l : List Act} (h : As w w.heap.size A l) (hb : Below w.heap.size w w') : As w' w'.heap.size A l := h.below hb hb.size

/-- Is its text too long? -/
def longA (a : Act) : Bool := decide (100 < (a.d.size : Int))
def greatA (l : List Act) : Bool := decide (40 < l.length) || l.any longA

set_option maxHeartbeats 1000000 in
theorem great_acts (A : Option Addr) (c : Nat) (l : List Act) (w : World) (h : As w w.heap.size A l) :
    Calls Tryz.prog 14 #[.slice A l.length c] w fun e w' => e = .returned (.bool (greatA l)) ∧ Below w.heap.size w w' := by
  have H1 := Lib.hid h; clear h
  unfold greatA
  by_cases h40 : 40 < l.length
  · rw [decide_eq_true h40, Bool.true_or]
    go_enter Tryz.func14, Tryz.ntmps14
    go_wp2_with fail
    go_ret
    exact ⟨rfl, Below.refl _ _⟩
  rw [decide_eq_false h40, Bool.false_or]
  obtain ⟨r, hr⟩ : ∃ r, l.any longA = r := ⟨_, rfl⟩
  rw [hr]
  have HR := Lib.hid hr; clear hr
  go_enter Tryz.func14, Tryz.ntmps14
  go_wp2_with fail
  go_loop [3] (fun i => ∃ k : Nat, k ≤ l.length ∧ i = .int .i64 k ∧ Hid ((l.take k).any longA = false)) (fun i => l.length - (intOf i).toNat)
  case atStart => exact ⟨0, by omega, rfl, by simp [Hid]⟩
  case round =>
    obtain ⟨k, hk, rfl, hp⟩ := hrel
    by_cases hlt : k < l.length
    · obtain ⟨a1, rfl, hb1, hc⟩ := H1.out k l[k] (List.getElem?_eq_getElem hlt)
      have hc3 := hc.c3
      have HS := Lib.hid (any_take longA l k hlt hp.out)
      have HH := Lib.hid (any_hit longA l k hlt)
      have HG := Lib.hid (show longA l[k] = decide (100 < (l[k].d.size : Int)) from rfl)
      clear hp hc
      generalize l[k] = a at *
      by_cases hg : 100 < a.d.size
      · have E2 := Lib.hid (show true = r by rw [← HR.out]; exact (HH.out (by rw [HG.out, decide_eq_true (by omega)])).symm)
        go_wp2_with fail
        go_ret
        exact ⟨ret_bool E2.out, Below.refl _ _⟩
      · go_wp2_with fail
        go_round
        case rel => exact ⟨k + 1, by omega, by go_num, by unfold Hid; rw [HS.out, HG.out, decide_eq_false (by omega)]⟩
        case measure => simp [intOf]; omega
    · obtain rfl : k = l.length := by omega
      rw [List.take_length] at hp
      have E2 := Lib.hid (show false = r by rw [← HR.out]; exact hp.out.symm)
      clear hp
      go_wp2_with fail
      go_ret
      exact ⟨ret_bool E2.out, Below.refl _ _⟩

set_option maxRecDepth 100000 in
set_option maxHeartbeats 4000000 in
theorem rzdo_mark (A B : Option Addr) (n m : Nat) (s : List ByteArray) (c : List Wr) (f : Int) (x : Bool) (b : Sup) (k : Nat) (i : Int) (m2 : Nat) (d : ByteArray) (q : Sup) (w : World) (s1 : List ByteArray) (c1 : List Wr) (f1 : Int) (x1 : Bool) (b1 : Sup) (k1 : Nat) (e1 : Int)
    (hR : ∀ v, Below w.heap.size w v → Calls Tryz.prog 37 #[.agg #[.slice A s.length n, .slice B c.length m, .int .i64 f, .bool x, .int .i64 b.n, .int .u64 b.c, .int .u64 b.b, .int .u64 b.o, .int .u64 b.p, .bool b.i, .bool b.r, .bool b.d, .int .u32 k], .int .i64 i] v fun e v' => ∃ A1 n1 B1 m1, e = .returned (.tuple #[.agg #[.slice A1 s1.length n1, .slice B1 c1.length m1, .int .i64 f1, .bool x1, .int .i64 b1.n, .int .u64 b1.c, .int .u64 b1.b, .int .u64 b1.o, .int .u64 b1.p, .bool b1.i, .bool b1.r, .bool b1.d, .int .u32 k1], .int .i64 e1]) ∧ Mem v' A1 n1 B1 m1 s1 c1 ∧ Below v.heap.size v v') :
    Calls Tryz.prog 18 #[.agg #[.slice A s.length n, .slice B c.length m, .int .i64 f, .bool x, .int .i64 b.n, .int .u64 b.c, .int .u64 b.b, .int .u64 b.o, .int .u64 b.p, .bool b.i, .bool b.r, .bool b.d, .int .u32 k], .agg #[.int .i64 0, .int .i64 i, .int .u32 m2, .string d, .int .i64 q.n, .int .u64 q.c, .int .u64 q.b, .int .u64 q.o, .int .u64 q.p, .bool q.i, .bool q.r, .bool q.d]] w fun e w' => ∃ A1 n1 B1 m1, e = .returned (.tuple #[.agg #[.slice A1 s1.length n1, .slice B1 c1.length m1, .int .i64 f1, .bool x1, .int .i64 b1.n, .int .u64 b1.c, .int .u64 b1.b, .int .u64 b1.o, .int .u64 b1.p, .bool b1.i, .bool b1.r, .bool b1.d, .int .u32 k1], .string e0, .int .i64 e1]) ∧ Mem w' A1 n1 B1 m1 s1 c1 ∧ Below w.heap.size w w' := by
  have HR := Lib.hid hR; clear hR
  have H0 := Lib.hid ((((Held.refl w).own [.slice A s.length n, .slice B c.length m, .int .i64 f, .bool x, .int .i64 b.n, .int .u64 b.c, .int .u64 b.b, .int .u64 b.o, .int .u64 b.p, .bool b.i, .bool b.r, .bool b.d, .int .u32 k] 34 (n := 13) rfl).lay [.int .i64 0, .int .i64 i, .int .u32 m2, .string d, .int .i64 q.n, .int .u64 q.c, .int .u64 q.b, .int .u64 q.o, .int .u64 q.p, .bool q.i, .bool q.r, .bool q.d] 49).own [.slice none 0 0, .slice none 0 0, .int .i64 0, .bool false, .int .i64 0, .int .u64 0, .int .u64 0, .int .u64 0, .int .u64 0, .bool false, .bool false, .bool false, .int .u32 0] 34 (n := 13) rfl)
  have BL0 := Lib.hid (((Box.new w [.slice A s.length n, .slice B c.length m, .int .i64 f, .bool x, .int .i64 b.n, .int .u64 b.c, .int .u64 b.b, .int .u64 b.o, .int .u64 b.p, .bool b.i, .bool b.r, .bool b.d, .int .u32 k] 34).alloc (.cells ([.int .i64 0, .int .i64 i, .int .u32 m2, .string d, .int .i64 q.n, .int .u64 q.c, .int .u64 q.b, .int .u64 q.o, .int .u64 q.p, .bool q.i, .bool q.r, .bool q.d] : List Value).toArray 49)).alloc (.cells ([.slice none 0 0, .slice none 0 0, .int .i64 0, .bool false, .int .i64 0, .int .u64 0, .int .u64 0, .int .u64 0, .int .u64 0, .bool false, .bool false, .bool false, .int .u32 0] : List Value).toArray 34))
  have BR0 := Lib.hid (Box.new ((w.alloc (.cells ([.slice A s.length n, .slice B c.length m, .int .i64 f, .bool x, .int .i64 b.n, .int .u64 b.c, .int .u64 b.b, .int .u64 b.o, .int .u64 b.p, .bool b.i, .bool b.r, .bool b.d, .int .u32 k] : List Value).toArray 34)).alloc (.cells ([.int .i64 0, .int .i64 i, .int .u32 m2, .string d, .int .i64 q.n, .int .u64 q.c, .int .u64 q.b, .int .u64 q.o, .int .u64 q.p, .bool q.i, .bool q.r, .bool q.d] : List Value).toArray 49)) [.slice none 0 0, .slice none 0 0, .int .i64 0, .bool false, .int .i64 0, .int .u64 0, .int .u64 0, .int .u64 0, .int .u64 0, .bool false, .bool false, .bool false, .int .u32 0] 34)
  simp only [World.size_alloc] at H0 BR0
  have kl := BL0.out.cell
  have ka := H0.out.b0.cell
  go_enter Tryz.func18, Tryz.ntmps18
  go_wp2_with fail
  refine (HR.out _ H0.out.below).mono ?_
  rintro e w1 ⟨A1, n1, B1, m1, rfl, hm1, hb⟩
  have hm1 := Lib.hid hm1
  have H1 := Lib.hid (H0.out.up hb)
  have BL1 := Lib.hid (BL0.out.below hb)
  have BR1 := Lib.hid (BR0.out.below hb)
  clear hb kl ka H0 BL0 BR0
  have kl := BL1.out.cell
  have fl := BL1.out.frozen
  go_upto_region 15 with fail
  have hm2 := Lib.hid (hm1.out.setL [.slice A1 s1.length n1, .slice B1 c1.length m1, .int .i64 f1, .bool x1, .int .i64 b1.n, .int .u64 b1.c, .int .u64 b1.b, .int .u64 b1.o, .int .u64 b1.p, .bool b1.i, .bool b1.r, .bool b1.d, .int .u32 k1] 0 BL1.out (noText_st s.length c.length f x b k A n B m) (noText_st s1.length c1.length f1 x1 b1 k1 A1 n1 B1 m1))
  have BL2 := Lib.hid (show Box _ w.heap.size [.slice A1 s1.length n1, .slice B1 c1.length m1, .int .i64 f1, .bool x1, .int .i64 b1.n, .int .u64 b1.c, .int .u64 b1.b, .int .u64 b1.o, .int .u64 b1.p, .bool b1.i, .bool b1.r, .bool b1.d, .int .u32 k1] from BL1.out.setL [.slice A1 s1.length n1, .slice B1 c1.length m1, .int .i64 f1, .bool x1, .int .i64 b1.n, .int .u64 b1.c, .int .u64 b1.b, .int .u64 b1.o, .int .u64 b1.p, .bool b1.i, .bool b1.r, .bool b1.d, .int .u32 k1] 0)
  have BR2 := Lib.hid (BR1.out.setO (b := w.heap.size) (by omega) [.slice A1 s1.length n1, .slice B1 c1.length m1, .int .i64 f1, .bool x1, .int .i64 b1.n, .int .u64 b1.c, .int .u64 b1.b, .int .u64 b1.o, .int .u64 b1.p, .bool b1.i, .bool b1.r, .bool b1.d, .int .u32 k1] 0)
  have H2 := Lib.hid (H1.out.setL (b := w.heap.size) ⟨13, by simp⟩ [.slice A1 s1.length n1, .slice B1 c1.length m1, .int .i64 f1, .bool x1, .int .i64 b1.n, .int .u64 b1.c, .int .u64 b1.b, .int .u64 b1.o, .int .u64 b1.p, .bool b1.i, .bool b1.r, .bool b1.d, .int .u32 k1] 0)
  generalize hW2 : setL w1 w.heap.size 0 [.slice A1 s1.length n1, .slice B1 c1.length m1, .int .i64 f1, .bool x1, .int .i64 b1.n, .int .u64 b1.c, .int .u64 b1.b, .int .u64 b1.o, .int .u64 b1.p, .bool b1.i, .bool b1.r, .bool b1.d, .int .u32 k1] = w2 at *
  simp only [setL, Nat.zero_add, Nat.reduceAdd] at hW2
  simp only [hW2]
  clear hW2 kl fl hm1 H1 BL1 BR1
  have kl := BL2.out.cell
  have kr := BR2.out.cell
  have fr := BR2.out.frozen
  go_wp2_with fail
  refine bodyPost_ret (v := .tuple #[.agg #[.slice A1 s1.length n1, .slice B1 c1.length m1, .int .i64 f1, .bool x1, .int .i64 b1.n, .int .u64 b1.c, .int .u64 b1.b, .int .u64 b1.o, .int .u64 b1.p, .bool b1.i, .bool b1.r, .bool b1.d, .int .u32 k1], .string e0, .int .i64 e1]) (by simp [results, Tryz.results18, go_sem, kr]) rfl ?_
  exact ⟨A1, n1, B1, m1, rfl, hm2.out.setL [.slice A1 s1.length n1, .slice B1 c1.length m1, .int .i64 f1, .bool x1, .int .i64 b1.n, .int .u64 b1.c, .int .u64 b1.b, .int .u64 b1.o, .int .u64 b1.p, .bool b1.i, .bool b1.r, .bool b1.d, .int .u32 k1] 0 BR2.out (noText_st 0 0 0 false Sup.zero 0 none 0 none 0) (noText_st s1.length c1.length f1 x1 b1 k1 A1 n1 B1 m1), (H2.out.setL (b := w.heap.size + 2) ⟨13, by simp⟩ [.slice A1 s1.length n1, .slice B1 c1.length m1, .int .i64 f1, .bool x1, .int .i64 b1.n, .int .u64 b1.c, .int .u64 b1.b, .int .u64 b1.o, .int .u64 b1.p, .bool b1.i, .bool b1.r, .bool b1.d, .int .u32 k1] 0).below⟩

set_option maxRecDepth 100000 in
set_option maxHeartbeats 4000000 in
theorem rzdo_wipe (A B : Option Addr) (n m : Nat) (s : List ByteArray) (c : List Wr) (f : Int) (x : Bool) (b : Sup) (k : Nat) (i : Int) (m2 : Nat) (d : ByteArray) (q : Sup) (w : World) (s1 : List ByteArray) (c1 : List Wr) (f1 : Int) (x1 : Bool) (b1 : Sup) (k1 : Nat) (e1 : Int)
    (hR : ∀ v, Below w.heap.size w v → Calls Tryz.prog 38 #[.agg #[.slice A s.length n, .slice B c.length m, .int .i64 f, .bool x, .int .i64 b.n, .int .u64 b.c, .int .u64 b.b, .int .u64 b.o, .int .u64 b.p, .bool b.i, .bool b.r, .bool b.d, .int .u32 k], .int .i64 i] v fun e v' => ∃ A1 n1 B1 m1, e = .returned (.tuple #[.agg #[.slice A1 s1.length n1, .slice B1 c1.length m1, .int .i64 f1, .bool x1, .int .i64 b1.n, .int .u64 b1.c, .int .u64 b1.b, .int .u64 b1.o, .int .u64 b1.p, .bool b1.i, .bool b1.r, .bool b1.d, .int .u32 k1], .int .i64 e1]) ∧ Mem v' A1 n1 B1 m1 s1 c1 ∧ Below v.heap.size v v') :
    Calls Tryz.prog 18 #[.agg #[.slice A s.length n, .slice B c.length m, .int .i64 f, .bool x, .int .i64 b.n, .int .u64 b.c, .int .u64 b.b, .int .u64 b.o, .int .u64 b.p, .bool b.i, .bool b.r, .bool b.d, .int .u32 k], .agg #[.int .i64 1, .int .i64 i, .int .u32 m2, .string d, .int .i64 q.n, .int .u64 q.c, .int .u64 q.b, .int .u64 q.o, .int .u64 q.p, .bool q.i, .bool q.r, .bool q.d]] w fun e w' => ∃ A1 n1 B1 m1, e = .returned (.tuple #[.agg #[.slice A1 s1.length n1, .slice B1 c1.length m1, .int .i64 f1, .bool x1, .int .i64 b1.n, .int .u64 b1.c, .int .u64 b1.b, .int .u64 b1.o, .int .u64 b1.p, .bool b1.i, .bool b1.r, .bool b1.d, .int .u32 k1], .string e0, .int .i64 e1]) ∧ Mem w' A1 n1 B1 m1 s1 c1 ∧ Below w.heap.size w w' := by
  have HR := Lib.hid hR; clear hR
  have H0 := Lib.hid ((((Held.refl w).own [.slice A s.length n, .slice B c.length m, .int .i64 f, .bool x, .int .i64 b.n, .int .u64 b.c, .int .u64 b.b, .int .u64 b.o, .int .u64 b.p, .bool b.i, .bool b.r, .bool b.d, .int .u32 k] 34 (n := 13) rfl).lay [.int .i64 1, .int .i64 i, .int .u32 m2, .string d, .int .i64 q.n, .int .u64 q.c, .int .u64 q.b, .int .u64 q.o, .int .u64 q.p, .bool q.i, .bool q.r, .bool q.d] 49).own [.slice none 0 0, .slice none 0 0, .int .i64 0, .bool false, .int .i64 0, .int .u64 0, .int .u64 0, .int .u64 0, .int .u64 0, .bool false, .bool false, .bool false, .int .u32 0] 34 (n := 13) rfl)
  have BL0 := Lib.hid (((Box.new w [.slice A s.length n, .slice B c.length m, .int .i64 f, .bool x, .int .i64 b.n, .int .u64 b.c, .int .u64 b.b, .int .u64 b.o, .int .u64 b.p, .bool b.i, .bool b.r, .bool b.d, .int .u32 k] 34).alloc (.cells ([.int .i64 1, .int .i64 i, .int .u32 m2, .string d, .int .i64 q.n, .int .u64 q.c, .int .u64 q.b, .int .u64 q.o, .int .u64 q.p, .bool q.i, .bool q.r, .bool q.d] : List Value).toArray 49)).alloc (.cells ([.slice none 0 0, .slice none 0 0, .int .i64 0, .bool false, .int .i64 0, .int .u64 0, .int .u64 0, .int .u64 0, .int .u64 0, .bool false, .bool false, .bool false, .int .u32 0] : List Value).toArray 34))
  have BR0 := Lib.hid (Box.new ((w.alloc (.cells ([.slice A s.length n, .slice B c.length m, .int .i64 f, .bool x, .int .i64 b.n, .int .u64 b.c, .int .u64 b.b, .int .u64 b.o, .int .u64 b.p, .bool b.i, .bool b.r, .bool b.d, .int .u32 k] : List Value).toArray 34)).alloc (.cells ([.int .i64 1, .int .i64 i, .int .u32 m2, .string d, .int .i64 q.n, .int .u64 q.c, .int .u64 q.b, .int .u64 q.o, .int .u64 q.p, .bool q.i, .bool q.r, .bool q.d] : List Value).toArray 49)) [.slice none 0 0, .slice none 0 0, .int .i64 0, .bool false, .int .i64 0, .int .u64 0, .int .u64 0, .int .u64 0, .int .u64 0, .bool false, .bool false, .bool false, .int .u32 0] 34)
  simp only [World.size_alloc] at H0 BR0
  have kl := BL0.out.cell
  have ka := H0.out.b0.cell
  go_enter Tryz.func18, Tryz.ntmps18
  go_wp2_with fail
  refine (HR.out _ H0.out.below).mono ?_
  rintro e w1 ⟨A1, n1, B1, m1, rfl, hm1, hb⟩
  have hm1 := Lib.hid hm1
  have H1 := Lib.hid (H0.out.up hb)
  have BL1 := Lib.hid (BL0.out.below hb)
  have BR1 := Lib.hid (BR0.out.below hb)
  clear hb kl ka H0 BL0 BR0
  have kl := BL1.out.cell
  have fl := BL1.out.frozen
  go_upto_region 15 with fail
  have hm2 := Lib.hid (hm1.out.setL [.slice A1 s1.length n1, .slice B1 c1.length m1, .int .i64 f1, .bool x1, .int .i64 b1.n, .int .u64 b1.c, .int .u64 b1.b, .int .u64 b1.o, .int .u64 b1.p, .bool b1.i, .bool b1.r, .bool b1.d, .int .u32 k1] 0 BL1.out (noText_st s.length c.length f x b k A n B m) (noText_st s1.length c1.length f1 x1 b1 k1 A1 n1 B1 m1))
  have BL2 := Lib.hid (show Box _ w.heap.size [.slice A1 s1.length n1, .slice B1 c1.length m1, .int .i64 f1, .bool x1, .int .i64 b1.n, .int .u64 b1.c, .int .u64 b1.b, .int .u64 b1.o, .int .u64 b1.p, .bool b1.i, .bool b1.r, .bool b1.d, .int .u32 k1] from BL1.out.setL [.slice A1 s1.length n1, .slice B1 c1.length m1, .int .i64 f1, .bool x1, .int .i64 b1.n, .int .u64 b1.c, .int .u64 b1.b, .int .u64 b1.o, .int .u64 b1.p, .bool b1.i, .bool b1.r, .bool b1.d, .int .u32 k1] 0)
  have BR2 := Lib.hid (BR1.out.setO (b := w.heap.size) (by omega) [.slice A1 s1.length n1, .slice B1 c1.length m1, .int .i64 f1, .bool x1, .int .i64 b1.n, .int .u64 b1.c, .int .u64 b1.b, .int .u64 b1.o, .int .u64 b1.p, .bool b1.i, .bool b1.r, .bool b1.d, .int .u32 k1] 0)
  have H2 := Lib.hid (H1.out.setL (b := w.heap.size) ⟨13, by simp⟩ [.slice A1 s1.length n1, .slice B1 c1.length m1, .int .i64 f1, .bool x1, .int .i64 b1.n, .int .u64 b1.c, .int .u64 b1.b, .int .u64 b1.o, .int .u64 b1.p, .bool b1.i, .bool b1.r, .bool b1.d, .int .u32 k1] 0)
  generalize hW2 : setL w1 w.heap.size 0 [.slice A1 s1.length n1, .slice B1 c1.length m1, .int .i64 f1, .bool x1, .int .i64 b1.n, .int .u64 b1.c, .int .u64 b1.b, .int .u64 b1.o, .int .u64 b1.p, .bool b1.i, .bool b1.r, .bool b1.d, .int .u32 k1] = w2 at *
  simp only [setL, Nat.zero_add, Nat.reduceAdd] at hW2
  simp only [hW2]
  clear hW2 kl fl hm1 H1 BL1 BR1
  have kl := BL2.out.cell
  have kr := BR2.out.cell
  have fr := BR2.out.frozen
  go_wp2_with fail
  refine bodyPost_ret (v := .tuple #[.agg #[.slice A1 s1.length n1, .slice B1 c1.length m1, .int .i64 f1, .bool x1, .int .i64 b1.n, .int .u64 b1.c, .int .u64 b1.b, .int .u64 b1.o, .int .u64 b1.p, .bool b1.i, .bool b1.r, .bool b1.d, .int .u32 k1], .string e0, .int .i64 e1]) (by simp [results, Tryz.results18, go_sem, kr]) rfl ?_
  exact ⟨A1, n1, B1, m1, rfl, hm2.out.setL [.slice A1 s1.length n1, .slice B1 c1.length m1, .int .i64 f1, .bool x1, .int .i64 b1.n, .int .u64 b1.c, .int .u64 b1.b, .int .u64 b1.o, .int .u64 b1.p, .bool b1.i, .bool b1.r, .bool b1.d, .int .u32 k1] 0 BR2.out (noText_st 0 0 0 false Sup.zero 0 none 0 none 0) (noText_st s1.length c1.length f1 x1 b1 k1 A1 n1 B1 m1), (H2.out.setL (b := w.heap.size + 2) ⟨13, by simp⟩ [.slice A1 s1.length n1, .slice B1 c1.length m1, .int .i64 f1, .bool x1, .int .i64 b1.n, .int .u64 b1.c, .int .u64 b1.b, .int .u64 b1.o, .int .u64 b1.p, .bool b1.i, .bool b1.r, .bool b1.d, .int .u32 k1] 0).below⟩

set_option maxRecDepth 100000 in
set_option maxHeartbeats 4000000 in
theorem rzdo_join (A B : Option Addr) (n m : Nat) (s : List ByteArray) (c : List Wr) (f : Int) (x : Bool) (b : Sup) (k : Nat) (i : Int) (m2 : Nat) (d : ByteArray) (q : Sup) (w : World) (s1 : List ByteArray) (c1 : List Wr) (f1 : Int) (x1 : Bool) (b1 : Sup) (k1 : Nat) (e1 : Int)
    (hR : ∀ v, Below w.heap.size w v → Calls Tryz.prog 39 #[.agg #[.slice A s.length n, .slice B c.length m, .int .i64 f, .bool x, .int .i64 b.n, .int .u64 b.c, .int .u64 b.b, .int .u64 b.o, .int .u64 b.p, .bool b.i, .bool b.r, .bool b.d, .int .u32 k], .int .u32 m2] v fun e v' => ∃ A1 n1 B1 m1, e = .returned (.tuple #[.agg #[.slice A1 s1.length n1, .slice B1 c1.length m1, .int .i64 f1, .bool x1, .int .i64 b1.n, .int .u64 b1.c, .int .u64 b1.b, .int .u64 b1.o, .int .u64 b1.p, .bool b1.i, .bool b1.r, .bool b1.d, .int .u32 k1], .int .i64 e1]) ∧ Mem v' A1 n1 B1 m1 s1 c1 ∧ Below v.heap.size v v') :
    Calls Tryz.prog 18 #[.agg #[.slice A s.length n, .slice B c.length m, .int .i64 f, .bool x, .int .i64 b.n, .int .u64 b.c, .int .u64 b.b, .int .u64 b.o, .int .u64 b.p, .bool b.i, .bool b.r, .bool b.d, .int .u32 k], .agg #[.int .i64 2, .int .i64 i, .int .u32 m2, .string d, .int .i64 q.n, .int .u64 q.c, .int .u64 q.b, .int .u64 q.o, .int .u64 q.p, .bool q.i, .bool q.r, .bool q.d]] w fun e w' => ∃ A1 n1 B1 m1, e = .returned (.tuple #[.agg #[.slice A1 s1.length n1, .slice B1 c1.length m1, .int .i64 f1, .bool x1, .int .i64 b1.n, .int .u64 b1.c, .int .u64 b1.b, .int .u64 b1.o, .int .u64 b1.p, .bool b1.i, .bool b1.r, .bool b1.d, .int .u32 k1], .string e0, .int .i64 e1]) ∧ Mem w' A1 n1 B1 m1 s1 c1 ∧ Below w.heap.size w w' := by
  have HR := Lib.hid hR; clear hR
  have H0 := Lib.hid ((((Held.refl w).own [.slice A s.length n, .slice B c.length m, .int .i64 f, .bool x, .int .i64 b.n, .int .u64 b.c, .int .u64 b.b, .int .u64 b.o, .int .u64 b.p, .bool b.i, .bool b.r, .bool b.d, .int .u32 k] 34 (n := 13) rfl).lay [.int .i64 2, .int .i64 i, .int .u32 m2, .string d, .int .i64 q.n, .int .u64 q.c, .int .u64 q.b, .int .u64 q.o, .int .u64 q.p, .bool q.i, .bool q.r, .bool q.d] 49).own [.slice none 0 0, .slice none 0 0, .int .i64 0, .bool false, .int .i64 0, .int .u64 0, .int .u64 0, .int .u64 0, .int .u64 0, .bool false, .bool false, .bool false, .int .u32 0] 34 (n := 13) rfl)
  have BL0 := Lib.hid (((Box.new w [.slice A s.length n, .slice B c.length m, .int .i64 f, .bool x, .int .i64 b.n, .int .u64 b.c, .int .u64 b.b, .int .u64 b.o, .int .u64 b.p, .bool b.i, .bool b.r, .bool b.d, .int .u32 k] 34).alloc (.cells ([.int .i64 2, .int .i64 i, .int .u32 m2, .string d, .int .i64 q.n, .int .u64 q.c, .int .u64 q.b, .int .u64 q.o, .int .u64 q.p, .bool q.i, .bool q.r, .bool q.d] : List Value).toArray 49)).alloc (.cells ([.slice none 0 0, .slice none 0 0, .int .i64 0, .bool false, .int .i64 0, .int .u64 0, .int .u64 0, .int .u64 0, .int .u64 0, .bool false, .bool false, .bool false, .int .u32 0] : List Value).toArray 34))
  have BR0 := Lib.hid (Box.new ((w.alloc (.cells ([.slice A s.length n, .slice B c.length m, .int .i64 f, .bool x, .int .i64 b.n, .int .u64 b.c, .int .u64 b.b, .int .u64 b.o, .int .u64 b.p, .bool b.i, .bool b.r, .bool b.d, .int .u32 k] : List Value).toArray 34)).alloc (.cells ([.int .i64 2, .int .i64 i, .int .u32 m2, .string d, .int .i64 q.n, .int .u64 q.c, .int .u64 q.b, .int .u64 q.o, .int .u64 q.p, .bool q.i, .bool q.r, .bool q.d] : List Value).toArray 49)) [.slice none 0 0, .slice none 0 0, .int .i64 0, .bool false, .int .i64 0, .int .u64 0, .int .u64 0, .int .u64 0, .int .u64 0, .bool false, .bool false, .bool false, .int .u32 0] 34)
  simp only [World.size_alloc] at H0 BR0
  have kl := BL0.out.cell
  have ka := H0.out.b0.cell
  go_enter Tryz.func18, Tryz.ntmps18
  go_wp2_with fail
  refine (HR.out _ H0.out.below).mono ?_
  rintro e w1 ⟨A1, n1, B1, m1, rfl, hm1, hb⟩
  have hm1 := Lib.hid hm1
  have H1 := Lib.hid (H0.out.up hb)
  have BL1 := Lib.hid (BL0.out.below hb)
  have BR1 := Lib.hid (BR0.out.below hb)
  clear hb kl ka H0 BL0 BR0
  have kl := BL1.out.cell
  have fl := BL1.out.frozen
  go_upto_region 15 with fail
  have hm2 := Lib.hid (hm1.out.setL [.slice A1 s1.length n1, .slice B1 c1.length m1, .int .i64 f1, .bool x1, .int .i64 b1.n, .int .u64 b1.c, .int .u64 b1.b, .int .u64 b1.o, .int .u64 b1.p, .bool b1.i, .bool b1.r, .bool b1.d, .int .u32 k1] 0 BL1.out (noText_st s.length c.length f x b k A n B m) (noText_st s1.length c1.length f1 x1 b1 k1 A1 n1 B1 m1))
  have BL2 := Lib.hid (show Box _ w.heap.size [.slice A1 s1.length n1, .slice B1 c1.length m1, .int .i64 f1, .bool x1, .int .i64 b1.n, .int .u64 b1.c, .int .u64 b1.b, .int .u64 b1.o, .int .u64 b1.p, .bool b1.i, .bool b1.r, .bool b1.d, .int .u32 k1] from BL1.out.setL [.slice A1 s1.length n1, .slice B1 c1.length m1, .int .i64 f1, .bool x1, .int .i64 b1.n, .int .u64 b1.c, .int .u64 b1.b, .int .u64 b1.o, .int .u64 b1.p, .bool b1.i, .bool b1.r, .bool b1.d, .int .u32 k1] 0)
  have BR2 := Lib.hid (BR1.out.setO (b := w.heap.size) (by omega) [.slice A1 s1.length n1, .slice B1 c1.length m1, .int .i64 f1, .bool x1, .int .i64 b1.n, .int .u64 b1.c, .int .u64 b1.b, .int .u64 b1.o, .int .u64 b1.p, .bool b1.i, .bool b1.r, .bool b1.d, .int .u32 k1] 0)
  have H2 := Lib.hid (H1.out.setL (b := w.heap.size) ⟨13, by simp⟩ [.slice A1 s1.length n1, .slice B1 c1.length m1, .int .i64 f1, .bool x1, .int .i64 b1.n, .int .u64 b1.c, .int .u64 b1.b, .int .u64 b1.o, .int .u64 b1.p, .bool b1.i, .bool b1.r, .bool b1.d, .int .u32 k1] 0)
  generalize hW2 : setL w1 w.heap.size 0 [.slice A1 s1.length n1, .slice B1 c1.length m1, .int .i64 f1, .bool x1, .int .i64 b1.n, .int .u64 b1.c, .int .u64 b1.b, .int .u64 b1.o, .int .u64 b1.p, .bool b1.i, .bool b1.r, .bool b1.d, .int .u32 k1] = w2 at *
  simp only [setL, Nat.zero_add, Nat.reduceAdd] at hW2
  simp only [hW2]
  clear hW2 kl fl hm1 H1 BL1 BR1
  have kl := BL2.out.cell
  have kr := BR2.out.cell
  have fr := BR2.out.frozen
  go_wp2_with fail
  refine bodyPost_ret (v := .tuple #[.agg #[.slice A1 s1.length n1, .slice B1 c1.length m1, .int .i64 f1, .bool x1, .int .i64 b1.n, .int .u64 b1.c, .int .u64 b1.b, .int .u64 b1.o, .int .u64 b1.p, .bool b1.i, .bool b1.r, .bool b1.d, .int .u32 k1], .string e0, .int .i64 e1]) (by simp [results, Tryz.results18, go_sem, kr]) rfl ?_
  exact ⟨A1, n1, B1, m1, rfl, hm2.out.setL [.slice A1 s1.length n1, .slice B1 c1.length m1, .int .i64 f1, .bool x1, .int .i64 b1.n, .int .u64 b1.c, .int .u64 b1.b, .int .u64 b1.o, .int .u64 b1.p, .bool b1.i, .bool b1.r, .bool b1.d, .int .u32 k1] 0 BR2.out (noText_st 0 0 0 false Sup.zero 0 none 0 none 0) (noText_st s1.length c1.length f1 x1 b1 k1 A1 n1 B1 m1), (H2.out.setL (b := w.heap.size + 2) ⟨13, by simp⟩ [.slice A1 s1.length n1, .slice B1 c1.length m1, .int .i64 f1, .bool x1, .int .i64 b1.n, .int .u64 b1.c, .int .u64 b1.b, .int .u64 b1.o, .int .u64 b1.p, .bool b1.i, .bool b1.r, .bool b1.d, .int .u32 k1] 0).below⟩

set_option maxRecDepth 100000 in
set_option maxHeartbeats 4000000 in
theorem rzdo_put (A B : Option Addr) (n m : Nat) (s : List ByteArray) (c : List Wr) (f : Int) (x : Bool) (b : Sup) (k : Nat) (i : Int) (m2 : Nat) (d : ByteArray) (q : Sup) (w : World) (s1 : List ByteArray) (c1 : List Wr) (f1 : Int) (x1 : Bool) (b1 : Sup) (k1 : Nat) (e1 : Int)
    (hR : ∀ v, Below w.heap.size w v → Calls Tryz.prog 40 #[.agg #[.slice A s.length n, .slice B c.length m, .int .i64 f, .bool x, .int .i64 b.n, .int .u64 b.c, .int .u64 b.b, .int .u64 b.o, .int .u64 b.p, .bool b.i, .bool b.r, .bool b.d, .int .u32 k], .int .i64 i, .string d] v fun e v' => ∃ A1 n1 B1 m1, e = .returned (.tuple #[.agg #[.slice A1 s1.length n1, .slice B1 c1.length m1, .int .i64 f1, .bool x1, .int .i64 b1.n, .int .u64 b1.c, .int .u64 b1.b, .int .u64 b1.o, .int .u64 b1.p, .bool b1.i, .bool b1.r, .bool b1.d, .int .u32 k1], .int .i64 e1]) ∧ Mem v' A1 n1 B1 m1 s1 c1 ∧ Below v.heap.size v v') :
    Calls Tryz.prog 18 #[.agg #[.slice A s.length n, .slice B c.length m, .int .i64 f, .bool x, .int .i64 b.n, .int .u64 b.c, .int .u64 b.b, .int .u64 b.o, .int .u64 b.p, .bool b.i, .bool b.r, .bool b.d, .int .u32 k], .agg #[.int .i64 3, .int .i64 i, .int .u32 m2, .string d, .int .i64 q.n, .int .u64 q.c, .int .u64 q.b, .int .u64 q.o, .int .u64 q.p, .bool q.i, .bool q.r, .bool q.d]] w fun e w' => ∃ A1 n1 B1 m1, e = .returned (.tuple #[.agg #[.slice A1 s1.length n1, .slice B1 c1.length m1, .int .i64 f1, .bool x1, .int .i64 b1.n, .int .u64 b1.c, .int .u64 b1.b, .int .u64 b1.o, .int .u64 b1.p, .bool b1.i, .bool b1.r, .bool b1.d, .int .u32 k1], .string e0, .int .i64 e1]) ∧ Mem w' A1 n1 B1 m1 s1 c1 ∧ Below w.heap.size w w' := by
  have HR := Lib.hid hR; clear hR
  have H0 := Lib.hid ((((Held.refl w).own [.slice A s.length n, .slice B c.length m, .int .i64 f, .bool x, .int .i64 b.n, .int .u64 b.c, .int .u64 b.b, .int .u64 b.o, .int .u64 b.p, .bool b.i, .bool b.r, .bool b.d, .int .u32 k] 34 (n := 13) rfl).lay [.int .i64 3, .int .i64 i, .int .u32 m2, .string d, .int .i64 q.n, .int .u64 q.c, .int .u64 q.b, .int .u64 q.o, .int .u64 q.p, .bool q.i, .bool q.r, .bool q.d] 49).own [.slice none 0 0, .slice none 0 0, .int .i64 0, .bool false, .int .i64 0, .int .u64 0, .int .u64 0, .int .u64 0, .int .u64 0, .bool false, .bool false, .bool false, .int .u32 0] 34 (n := 13) rfl)
  have BL0 := Lib.hid (((Box.new w [.slice A s.length n, .slice B c.length m, .int .i64 f, .bool x, .int .i64 b.n, .int .u64 b.c, .int .u64 b.b, .int .u64 b.o, .int .u64 b.p, .bool b.i, .bool b.r, .bool b.d, .int .u32 k] 34).alloc (.cells ([.int .i64 3, .int .i64 i, .int .u32 m2, .string d, .int .i64 q.n, .int .u64 q.c, .int .u64 q.b, .int .u64 q.o, .int .u64 q.p, .bool q.i, .bool q.r, .bool q.d] : List Value).toArray 49)).alloc (.cells ([.slice none 0 0, .slice none 0 0, .int .i64 0, .bool false, .int .i64 0, .int .u64 0, .int .u64 0, .int .u64 0, .int .u64 0, .bool false, .bool false, .bool false, .int .u32 0] : List Value).toArray 34))
  have BR0 := Lib.hid (Box.new ((w.alloc (.cells ([.slice A s.length n, .slice B c.length m, .int .i64 f, .bool x, .int .i64 b.n, .int .u64 b.c, .int .u64 b.b, .int .u64 b.o, .int .u64 b.p, .bool b.i, .bool b.r, .bool b.d, .int .u32 k] : List Value).toArray 34)).alloc (.cells ([.int .i64 3, .int .i64 i, .int .u32 m2, .string d, .int .i64 q.n, .int .u64 q.c, .int .u64 q.b, .int .u64 q.o, .int .u64 q.p, .bool q.i, .bool q.r, .bool q.d] : List Value).toArray 49)) [.slice none 0 0, .slice none 0 0, .int .i64 0, .bool false, .int .i64 0, .int .u64 0, .int .u64 0, .int .u64 0, .int .u64 0, .bool false, .bool false, .bool false, .int .u32 0] 34)
  simp only [World.size_alloc] at H0 BR0
  have kl := BL0.out.cell
  have ka := H0.out.b0.cell
  go_enter Tryz.func18, Tryz.ntmps18
  go_wp2_with fail
  refine (HR.out _ H0.out.below).mono ?_
  rintro e w1 ⟨A1, n1, B1, m1, rfl, hm1, hb⟩
  have hm1 := Lib.hid hm1
  have H1 := Lib.hid (H0.out.up hb)
  have BL1 := Lib.hid (BL0.out.below hb)
  have BR1 := Lib.hid (BR0.out.below hb)
  clear hb kl ka H0 BL0 BR0
  have kl := BL1.out.cell
  have fl := BL1.out.frozen
  go_upto_region 15 with fail
  have hm2 := Lib.hid (hm1.out.setL [.slice A1 s1.length n1, .slice B1 c1.length m1, .int .i64 f1, .bool x1, .int .i64 b1.n, .int .u64 b1.c, .int .u64 b1.b, .int .u64 b1.o, .int .u64 b1.p, .bool b1.i, .bool b1.r, .bool b1.d, .int .u32 k1] 0 BL1.out (noText_st s.length c.length f x b k A n B m) (noText_st s1.length c1.length f1 x1 b1 k1 A1 n1 B1 m1))
  have BL2 := Lib.hid (show Box _ w.heap.size [.slice A1 s1.length n1, .slice B1 c1.length m1, .int .i64 f1, .bool x1, .int .i64 b1.n, .int .u64 b1.c, .int .u64 b1.b, .int .u64 b1.o, .int .u64 b1.p, .bool b1.i, .bool b1.r, .bool b1.d, .int .u32 k1] from BL1.out.setL [.slice A1 s1.length n1, .slice B1 c1.length m1, .int .i64 f1, .bool x1, .int .i64 b1.n, .int .u64 b1.c, .int .u64 b1.b, .int .u64 b1.o, .int .u64 b1.p, .bool b1.i, .bool b1.r, .bool b1.d, .int .u32 k1] 0)
  have BR2 := Lib.hid (BR1.out.setO (b := w.heap.size) (by omega) [.slice A1 s1.length n1, .slice B1 c1.length m1, .int .i64 f1, .bool x1, .int .i64 b1.n, .int .u64 b1.c, .int .u64 b1.b, .int .u64 b1.o, .int .u64 b1.p, .bool b1.i, .bool b1.r, .bool b1.d, .int .u32 k1] 0)
  have H2 := Lib.hid (H1.out.setL (b := w.heap.size) ⟨13, by simp⟩ [.slice A1 s1.length n1, .slice B1 c1.length m1, .int .i64 f1, .bool x1, .int .i64 b1.n, .int .u64 b1.c, .int .u64 b1.b, .int .u64 b1.o, .int .u64 b1.p, .bool b1.i, .bool b1.r, .bool b1.d, .int .u32 k1] 0)
  generalize hW2 : setL w1 w.heap.size 0 [.slice A1 s1.length n1, .slice B1 c1.length m1, .int .i64 f1, .bool x1, .int .i64 b1.n, .int .u64 b1.c, .int .u64 b1.b, .int .u64 b1.o, .int .u64 b1.p, .bool b1.i, .bool b1.r, .bool b1.d, .int .u32 k1] = w2 at *
  simp only [setL, Nat.zero_add, Nat.reduceAdd] at hW2
  simp only [hW2]
  clear hW2 kl fl hm1 H1 BL1 BR1
  have kl := BL2.out.cell
  have kr := BR2.out.cell
  have fr := BR2.out.frozen
  go_wp2_with fail
  refine bodyPost_ret (v := .tuple #[.agg #[.slice A1 s1.length n1, .slice B1 c1.length m1, .int .i64 f1, .bool x1, .int .i64 b1.n, .int .u64 b1.c, .int .u64 b1.b, .int .u64 b1.o, .int .u64 b1.p, .bool b1.i, .bool b1.r, .bool b1.d, .int .u32 k1], .string e0, .int .i64 e1]) (by simp [results, Tryz.results18, go_sem, kr]) rfl ?_
  exact ⟨A1, n1, B1, m1, rfl, hm2.out.setL [.slice A1 s1.length n1, .slice B1 c1.length m1, .int .i64 f1, .bool x1, .int .i64 b1.n, .int .u64 b1.c, .int .u64 b1.b, .int .u64 b1.o, .int .u64 b1.p, .bool b1.i, .bool b1.r, .bool b1.d, .int .u32 k1] 0 BR2.out (noText_st 0 0 0 false Sup.zero 0 none 0 none 0) (noText_st s1.length c1.length f1 x1 b1 k1 A1 n1 B1 m1), (H2.out.setL (b := w.heap.size + 2) ⟨13, by simp⟩ [.slice A1 s1.length n1, .slice B1 c1.length m1, .int .i64 f1, .bool x1, .int .i64 b1.n, .int .u64 b1.c, .int .u64 b1.b, .int .u64 b1.o, .int .u64 b1.p, .bool b1.i, .bool b1.r, .bool b1.d, .int .u32 k1] 0).below⟩

set_option maxRecDepth 100000 in
set_option maxHeartbeats 4000000 in
theorem rzdo_commit (A B : Option Addr) (n m : Nat) (s : List ByteArray) (c : List Wr) (f : Int) (x : Bool) (b : Sup) (k : Nat) (i : Int) (m2 : Nat) (d : ByteArray) (q : Sup) (w : World) (s1 : List ByteArray) (c1 : List Wr) (f1 : Int) (x1 : Bool) (b1 : Sup) (k1 : Nat) (e1 : Int)
    (hR : ∀ v, Below w.heap.size w v → Calls Tryz.prog 41 #[.agg #[.slice A s.length n, .slice B c.length m, .int .i64 f, .bool x, .int .i64 b.n, .int .u64 b.c, .int .u64 b.b, .int .u64 b.o, .int .u64 b.p, .bool b.i, .bool b.r, .bool b.d, .int .u32 k], .agg #[.int .i64 q.n, .int .u64 q.c, .int .u64 q.b, .int .u64 q.o, .int .u64 q.p, .bool q.i, .bool q.r, .bool q.d]] v fun e v' => ∃ A1 n1 B1 m1, e = .returned (.tuple #[.agg #[.slice A1 s1.length n1, .slice B1 c1.length m1, .int .i64 f1, .bool x1, .int .i64 b1.n, .int .u64 b1.c, .int .u64 b1.b, .int .u64 b1.o, .int .u64 b1.p, .bool b1.i, .bool b1.r, .bool b1.d, .int .u32 k1], .int .i64 e1]) ∧ Mem v' A1 n1 B1 m1 s1 c1 ∧ Below v.heap.size v v') :
    Calls Tryz.prog 18 #[.agg #[.slice A s.length n, .slice B c.length m, .int .i64 f, .bool x, .int .i64 b.n, .int .u64 b.c, .int .u64 b.b, .int .u64 b.o, .int .u64 b.p, .bool b.i, .bool b.r, .bool b.d, .int .u32 k], .agg #[.int .i64 4, .int .i64 i, .int .u32 m2, .string d, .int .i64 q.n, .int .u64 q.c, .int .u64 q.b, .int .u64 q.o, .int .u64 q.p, .bool q.i, .bool q.r, .bool q.d]] w fun e w' => ∃ A1 n1 B1 m1, e = .returned (.tuple #[.agg #[.slice A1 s1.length n1, .slice B1 c1.length m1, .int .i64 f1, .bool x1, .int .i64 b1.n, .int .u64 b1.c, .int .u64 b1.b, .int .u64 b1.o, .int .u64 b1.p, .bool b1.i, .bool b1.r, .bool b1.d, .int .u32 k1], .string e0, .int .i64 e1]) ∧ Mem w' A1 n1 B1 m1 s1 c1 ∧ Below w.heap.size w w' := by
  have HR := Lib.hid hR; clear hR
  have H0 := Lib.hid ((((Held.refl w).own [.slice A s.length n, .slice B c.length m, .int .i64 f, .bool x, .int .i64 b.n, .int .u64 b.c, .int .u64 b.b, .int .u64 b.o, .int .u64 b.p, .bool b.i, .bool b.r, .bool b.d, .int .u32 k] 34 (n := 13) rfl).lay [.int .i64 4, .int .i64 i, .int .u32 m2, .string d, .int .i64 q.n, .int .u64 q.c, .int .u64 q.b, .int .u64 q.o, .int .u64 q.p, .bool q.i, .bool q.r, .bool q.d] 49).own [.slice none 0 0, .slice none 0 0, .int .i64 0, .bool false, .int .i64 0, .int .u64 0, .int .u64 0, .int .u64 0, .int .u64 0, .bool false, .bool false, .bool false, .int .u32 0] 34 (n := 13) rfl)
  have BL0 := Lib.hid (((Box.new w [.slice A s.length n, .slice B c.length m, .int .i64 f, .bool x, .int .i64 b.n, .int .u64 b.c, .int .u64 b.b, .int .u64 b.o, .int .u64 b.p, .bool b.i, .bool b.r, .bool b.d, .int .u32 k] 34).alloc (.cells ([.int .i64 4, .int .i64 i, .int .u32 m2, .string d, .int .i64 q.n, .int .u64 q.c, .int .u64 q.b, .int .u64 q.o, .int .u64 q.p, .bool q.i, .bool q.r, .bool q.d] : List Value).toArray 49)).alloc (.cells ([.slice none 0 0, .slice none 0 0, .int .i64 0, .bool false, .int .i64 0, .int .u64 0, .int .u64 0, .int .u64 0, .int .u64 0, .bool false, .bool false, .bool false, .int .u32 0] : List Value).toArray 34))
  have BR0 := Lib.hid (Box.new ((w.alloc (.cells ([.slice A s.length n, .slice B c.length m, .int .i64 f, .bool x, .int .i64 b.n, .int .u64 b.c, .int .u64 b.b, .int .u64 b.o, .int .u64 b.p, .bool b.i, .bool b.r, .bool b.d, .int .u32 k] : List Value).toArray 34)).alloc (.cells ([.int .i64 4, .int .i64 i, .int .u32 m2, .string d, .int .i64 q.n, .int .u64 q.c, .int .u64 q.b, .int .u64 q.o, .int .u64 q.p, .bool q.i, .bool q.r, .bool q.d] : List Value).toArray 49)) [.slice none 0 0, .slice none 0 0, .int .i64 0, .bool false, .int .i64 0, .int .u64 0, .int .u64 0, .int .u64 0, .int .u64 0, .bool false, .bool false, .bool false, .int .u32 0] 34)
  simp only [World.size_alloc] at H0 BR0
  have kl := BL0.out.cell
  have ka := H0.out.b0.cell
  go_enter Tryz.func18, Tryz.ntmps18
  go_wp2_with fail
  refine (HR.out _ H0.out.below).mono ?_
  rintro e w1 ⟨A1, n1, B1, m1, rfl, hm1, hb⟩
  have hm1 := Lib.hid hm1
  have H1 := Lib.hid (H0.out.up hb)
  have BL1 := Lib.hid (BL0.out.below hb)
  have BR1 := Lib.hid (BR0.out.below hb)
  clear hb kl ka H0 BL0 BR0
  have kl := BL1.out.cell
  have fl := BL1.out.frozen
  go_upto_region 15 with fail
  have hm2 := Lib.hid (hm1.out.setL [.slice A1 s1.length n1, .slice B1 c1.length m1, .int .i64 f1, .bool x1, .int .i64 b1.n, .int .u64 b1.c, .int .u64 b1.b, .int .u64 b1.o, .int .u64 b1.p, .bool b1.i, .bool b1.r, .bool b1.d, .int .u32 k1] 0 BL1.out (noText_st s.length c.length f x b k A n B m) (noText_st s1.length c1.length f1 x1 b1 k1 A1 n1 B1 m1))
  have BL2 := Lib.hid (show Box _ w.heap.size [.slice A1 s1.length n1, .slice B1 c1.length m1, .int .i64 f1, .bool x1, .int .i64 b1.n, .int .u64 b1.c, .int .u64 b1.b, .int .u64 b1.o, .int .u64 b1.p, .bool b1.i, .bool b1.r, .bool b1.d, .int .u32 k1] from BL1.out.setL [.slice A1 s1.length n1, .slice B1 c1.length m1, .int .i64 f1, .bool x1, .int .i64 b1.n, .int .u64 b1.c, .int .u64 b1.b, .int .u64 b1.o, .int .u64 b1.p, .bool b1.i, .bool b1.r, .bool b1.d, .int .u32 k1] 0)
  have BR2 := Lib.hid (BR1.out.setO (b := w.heap.size) (by omega) [.slice A1 s1.length n1, .slice B1 c1.length m1, .int .i64 f1, .bool x1, .int .i64 b1.n, .int .u64 b1.c, .int .u64 b1.b, .int .u64 b1.o, .int .u64 b1.p, .bool b1.i, .bool b1.r, .bool b1.d, .int .u32 k1] 0)
  have H2 := Lib.hid (H1.out.setL (b := w.heap.size) ⟨13, by simp⟩ [.slice A1 s1.length n1, .slice B1 c1.length m1, .int .i64 f1, .bool x1, .int .i64 b1.n, .int .u64 b1.c, .int .u64 b1.b, .int .u64 b1.o, .int .u64 b1.p, .bool b1.i, .bool b1.r, .bool b1.d, .int .u32 k1] 0)
  generalize hW2 : setL w1 w.heap.size 0 [.slice A1 s1.length n1, .slice B1 c1.length m1, .int .i64 f1, .bool x1, .int .i64 b1.n, .int .u64 b1.c, .int .u64 b1.b, .int .u64 b1.o, .int .u64 b1.p, .bool b1.i, .bool b1.r, .bool b1.d, .int .u32 k1] = w2 at *
  simp only [setL, Nat.zero_add, Nat.reduceAdd] at hW2
  simp only [hW2]
  clear hW2 kl fl hm1 H1 BL1 BR1
  have kl := BL2.out.cell
  have kr := BR2.out.cell
  have fr := BR2.out.frozen
  go_wp2_with fail
  refine bodyPost_ret (v := .tuple #[.agg #[.slice A1 s1.length n1, .slice B1 c1.length m1, .int .i64 f1, .bool x1, .int .i64 b1.n, .int .u64 b1.c, .int .u64 b1.b, .int .u64 b1.o, .int .u64 b1.p, .bool b1.i, .bool b1.r, .bool b1.d, .int .u32 k1], .string e0, .int .i64 e1]) (by simp [results, Tryz.results18, go_sem, kr]) rfl ?_
  exact ⟨A1, n1, B1, m1, rfl, hm2.out.setL [.slice A1 s1.length n1, .slice B1 c1.length m1, .int .i64 f1, .bool x1, .int .i64 b1.n, .int .u64 b1.c, .int .u64 b1.b, .int .u64 b1.o, .int .u64 b1.p, .bool b1.i, .bool b1.r, .bool b1.d, .int .u32 k1] 0 BR2.out (noText_st 0 0 0 false Sup.zero 0 none 0 none 0) (noText_st s1.length c1.length f1 x1 b1 k1 A1 n1 B1 m1), (H2.out.setL (b := w.heap.size + 2) ⟨13, by simp⟩ [.slice A1 s1.length n1, .slice B1 c1.length m1, .int .i64 f1, .bool x1, .int .i64 b1.n, .int .u64 b1.c, .int .u64 b1.b, .int .u64 b1.o, .int .u64 b1.p, .bool b1.i, .bool b1.r, .bool b1.d, .int .u32 k1] 0).below⟩

set_option maxRecDepth 100000 in
set_option maxHeartbeats 4000000 in
theorem rzdo_read (A B : Option Addr) (n m : Nat) (s : List ByteArray) (c : List Wr) (f : Int) (x : Bool) (b : Sup) (k : Nat) (g : Int) (i : Int) (m2 : Nat) (d : ByteArray) (q : Sup) (w : World) (h0 : g ≠ 0) (h1 : g ≠ 1) (h2 : g ≠ 2) (h3 : g ≠ 3) (h4 : g ≠ 4) (d1 : ByteArray) (e1 : Int)
    (hR : ∀ v, Below w.heap.size w v → Calls Tryz.prog 42 #[.agg #[.slice A s.length n, .slice B c.length m, .int .i64 f, .bool x, .int .i64 b.n, .int .u64 b.c, .int .u64 b.b, .int .u64 b.o, .int .u64 b.p, .bool b.i, .bool b.r, .bool b.d, .int .u32 k], .int .i64 i] v fun e v' => e = .returned (.tuple #[.string d1, .int .i64 e1]) ∧ Below v.heap.size v v') :
    Calls Tryz.prog 18 #[.agg #[.slice A s.length n, .slice B c.length m, .int .i64 f, .bool x, .int .i64 b.n, .int .u64 b.c, .int .u64 b.b, .int .u64 b.o, .int .u64 b.p, .bool b.i, .bool b.r, .bool b.d, .int .u32 k], .agg #[.int .i64 g, .int .i64 i, .int .u32 m2, .string d, .int .i64 q.n, .int .u64 q.c, .int .u64 q.b, .int .u64 q.o, .int .u64 q.p, .bool q.i, .bool q.r, .bool q.d]] w fun e w' => e = .returned (.tuple #[.agg #[.slice A s.length n, .slice B c.length m, .int .i64 f, .bool x, .int .i64 b.n, .int .u64 b.c, .int .u64 b.b, .int .u64 b.o, .int .u64 b.p, .bool b.i, .bool b.r, .bool b.d, .int .u32 k], .string d1, .int .i64 e1]) ∧ Below w.heap.size w w' := by
  have HR := Lib.hid hR; clear hR
  have g0 : (g == 0) = false := beq_eq_false_iff_ne.2 h0
  have g1 : (g == 1) = false := beq_eq_false_iff_ne.2 h1
  have g2 : (g == 2) = false := beq_eq_false_iff_ne.2 h2
  have g3 : (g == 3) = false := beq_eq_false_iff_ne.2 h3
  have g4 : (g == 4) = false := beq_eq_false_iff_ne.2 h4
  clear h0 h1 h2 h3 h4
  have H0 := Lib.hid ((((Held.refl w).own [.slice A s.length n, .slice B c.length m, .int .i64 f, .bool x, .int .i64 b.n, .int .u64 b.c, .int .u64 b.b, .int .u64 b.o, .int .u64 b.p, .bool b.i, .bool b.r, .bool b.d, .int .u32 k] 34 (n := 13) rfl).lay [.int .i64 g, .int .i64 i, .int .u32 m2, .string d, .int .i64 q.n, .int .u64 q.c, .int .u64 q.b, .int .u64 q.o, .int .u64 q.p, .bool q.i, .bool q.r, .bool q.d] 49).own [.slice none 0 0, .slice none 0 0, .int .i64 0, .bool false, .int .i64 0, .int .u64 0, .int .u64 0, .int .u64 0, .int .u64 0, .bool false, .bool false, .bool false, .int .u32 0] 34 (n := 13) rfl)
  have BL0 := Lib.hid (((Box.new w [.slice A s.length n, .slice B c.length m, .int .i64 f, .bool x, .int .i64 b.n, .int .u64 b.c, .int .u64 b.b, .int .u64 b.o, .int .u64 b.p, .bool b.i, .bool b.r, .bool b.d, .int .u32 k] 34).alloc (.cells ([.int .i64 g, .int .i64 i, .int .u32 m2, .string d, .int .i64 q.n, .int .u64 q.c, .int .u64 q.b, .int .u64 q.o, .int .u64 q.p, .bool q.i, .bool q.r, .bool q.d] : List Value).toArray 49)).alloc (.cells ([.slice none 0 0, .slice none 0 0, .int .i64 0, .bool false, .int .i64 0, .int .u64 0, .int .u64 0, .int .u64 0, .int .u64 0, .bool false, .bool false, .bool false, .int .u32 0] : List Value).toArray 34))
  have BR0 := Lib.hid (Box.new ((w.alloc (.cells ([.slice A s.length n, .slice B c.length m, .int .i64 f, .bool x, .int .i64 b.n, .int .u64 b.c, .int .u64 b.b, .int .u64 b.o, .int .u64 b.p, .bool b.i, .bool b.r, .bool b.d, .int .u32 k] : List Value).toArray 34)).alloc (.cells ([.int .i64 g, .int .i64 i, .int .u32 m2, .string d, .int .i64 q.n, .int .u64 q.c, .int .u64 q.b, .int .u64 q.o, .int .u64 q.p, .bool q.i, .bool q.r, .bool q.d] : List Value).toArray 49)) [.slice none 0 0, .slice none 0 0, .int .i64 0, .bool false, .int .i64 0, .int .u64 0, .int .u64 0, .int .u64 0, .int .u64 0, .bool false, .bool false, .bool false, .int .u32 0] 34)
  simp only [World.size_alloc] at H0 BR0
  have kl := BL0.out.cell
  have ka := H0.out.b0.cell
  go_enter Tryz.func18, Tryz.ntmps18
  go_wp2_with fail
  refine (HR.out _ H0.out.below).mono ?_
  rintro e w1 ⟨rfl, hb⟩
  have H1 := Lib.hid (H0.out.up hb)
  have BL1 := Lib.hid (BL0.out.below hb)
  have BR1 := Lib.hid (BR0.out.below hb)
  clear hb kl ka H0 BL0 BR0
  have kl := BL1.out.cell
  have kr := BR1.out.cell
  have fr := BR1.out.frozen
  go_wp2_with fail
  refine bodyPost_ret (v := .tuple #[.agg #[.slice A s.length n, .slice B c.length m, .int .i64 f, .bool x, .int .i64 b.n, .int .u64 b.c, .int .u64 b.b, .int .u64 b.o, .int .u64 b.p, .bool b.i, .bool b.r, .bool b.d, .int .u32 k], .string d1, .int .i64 e1]) (by simp [results, Tryz.results18, go_sem, kr]) rfl ⟨rfl, ?_⟩
  exact (H1.out.setL (b := w.heap.size + 2) ⟨13, by simp⟩ [.slice A s.length n, .slice B c.length m, .int .i64 f, .bool x, .int .i64 b.n, .int .u64 b.c, .int .u64 b.b, .int .u64 b.o, .int .u64 b.p, .bool b.i, .bool b.r, .bool b.d, .int .u32 k] 0).below

set_option maxRecDepth 100000 in
set_option maxHeartbeats 4000000 in
theorem zdo_mark (A B : Option Addr) (n m : Nat) (s : List ByteArray) (c : List Wr) (f : Int) (x : Bool) (b : Sup) (k : Nat) (i : Int) (m2 : Nat) (d : ByteArray) (q : Sup) (w : World) (s1 : List ByteArray) (c1 : List Wr) (f1 : Int) (x1 : Bool) (b1 : Sup) (k1 : Nat) (e1 : Int)
    (hR : ∀ v, Below w.heap.size w v → Calls Tryz.prog 22 #[.agg #[.slice A s.length n, .slice B c.length m, .int .i64 f, .bool x, .int .i64 b.n, .int .u64 b.c, .int .u64 b.b, .int .u64 b.o, .int .u64 b.p, .bool b.i, .bool b.r, .bool b.d, .int .u32 k], .int .i64 i] v fun e v' => ∃ A1 n1 B1 m1, e = .returned (.tuple #[.agg #[.slice A1 s1.length n1, .slice B1 c1.length m1, .int .i64 f1, .bool x1, .int .i64 b1.n, .int .u64 b1.c, .int .u64 b1.b, .int .u64 b1.o, .int .u64 b1.p, .bool b1.i, .bool b1.r, .bool b1.d, .int .u32 k1], .int .i64 e1]) ∧ Mem v' A1 n1 B1 m1 s1 c1 ∧ Below v.heap.size v v') :
    Calls Tryz.prog 17 #[.agg #[.slice A s.length n, .slice B c.length m, .int .i64 f, .bool x, .int .i64 b.n, .int .u64 b.c, .int .u64 b.b, .int .u64 b.o, .int .u64 b.p, .bool b.i, .bool b.r, .bool b.d, .int .u32 k], .agg #[.int .i64 0, .int .i64 i, .int .u32 m2, .string d, .int .i64 q.n, .int .u64 q.c, .int .u64 q.b, .int .u64 q.o, .int .u64 q.p, .bool q.i, .bool q.r, .bool q.d]] w fun e w' => ∃ A1 n1 B1 m1, e = .returned (.tuple #[.agg #[.slice A1 s1.length n1, .slice B1 c1.length m1, .int .i64 f1, .bool x1, .int .i64 b1.n, .int .u64 b1.c, .int .u64 b1.b, .int .u64 b1.o, .int .u64 b1.p, .bool b1.i, .bool b1.r, .bool b1.d, .int .u32 k1], .string e0, .int .i64 e1]) ∧ Mem w' A1 n1 B1 m1 s1 c1 ∧ Below w.heap.size w w' := by
  have HR := Lib.hid hR; clear hR
  have H0 := Lib.hid ((((Held.refl w).own [.slice A s.length n, .slice B c.length m, .int .i64 f, .bool x, .int .i64 b.n, .int .u64 b.c, .int .u64 b.b, .int .u64 b.o, .int .u64 b.p, .bool b.i, .bool b.r, .bool b.d, .int .u32 k] 34 (n := 13) rfl).lay [.int .i64 0, .int .i64 i, .int .u32 m2, .string d, .int .i64 q.n, .int .u64 q.c, .int .u64 q.b, .int .u64 q.o, .int .u64 q.p, .bool q.i, .bool q.r, .bool q.d] 49).own [.slice none 0 0, .slice none 0 0, .int .i64 0, .bool false, .int .i64 0, .int .u64 0, .int .u64 0, .int .u64 0, .int .u64 0, .bool false, .bool false, .bool false, .int .u32 0] 34 (n := 13) rfl)
  have BL0 := Lib.hid (((Box.new w [.slice A s.length n, .slice B c.length m, .int .i64 f, .bool x, .int .i64 b.n, .int .u64 b.c, .int .u64 b.b, .int .u64 b.o, .int .u64 b.p, .bool b.i, .bool b.r, .bool b.d, .int .u32 k] 34).alloc (.cells ([.int .i64 0, .int .i64 i, .int .u32 m2, .string d, .int .i64 q.n, .int .u64 q.c, .int .u64 q.b, .int .u64 q.o, .int .u64 q.p, .bool q.i, .bool q.r, .bool q.d] : List Value).toArray 49)).alloc (.cells ([.slice none 0 0, .slice none 0 0, .int .i64 0, .bool false, .int .i64 0, .int .u64 0, .int .u64 0, .int .u64 0, .int .u64 0, .bool false, .bool false, .bool false, .int .u32 0] : List Value).toArray 34))
  have BR0 := Lib.hid (Box.new ((w.alloc (.cells ([.slice A s.length n, .slice B c.length m, .int .i64 f, .bool x, .int .i64 b.n, .int .u64 b.c, .int .u64 b.b, .int .u64 b.o, .int .u64 b.p, .bool b.i, .bool b.r, .bool b.d, .int .u32 k] : List Value).toArray 34)).alloc (.cells ([.int .i64 0, .int .i64 i, .int .u32 m2, .string d, .int .i64 q.n, .int .u64 q.c, .int .u64 q.b, .int .u64 q.o, .int .u64 q.p, .bool q.i, .bool q.r, .bool q.d] : List Value).toArray 49)) [.slice none 0 0, .slice none 0 0, .int .i64 0, .bool false, .int .i64 0, .int .u64 0, .int .u64 0, .int .u64 0, .int .u64 0, .bool false, .bool false, .bool false, .int .u32 0] 34)
  simp only [World.size_alloc] at H0 BR0
  have kl := BL0.out.cell
  have ka := H0.out.b0.cell
  go_enter Tryz.func17, Tryz.ntmps17
  go_wp2_with fail
  refine (HR.out _ H0.out.below).mono ?_
  rintro e w1 ⟨A1, n1, B1, m1, rfl, hm1, hb⟩
  have hm1 := Lib.hid hm1
  have H1 := Lib.hid (H0.out.up hb)
  have BL1 := Lib.hid (BL0.out.below hb)
  have BR1 := Lib.hid (BR0.out.below hb)
  clear hb kl ka H0 BL0 BR0
  have kl := BL1.out.cell
  have fl := BL1.out.frozen
  go_upto_region 15 with fail
  have hm2 := Lib.hid (hm1.out.setL [.slice A1 s1.length n1, .slice B1 c1.length m1, .int .i64 f1, .bool x1, .int .i64 b1.n, .int .u64 b1.c, .int .u64 b1.b, .int .u64 b1.o, .int .u64 b1.p, .bool b1.i, .bool b1.r, .bool b1.d, .int .u32 k1] 0 BL1.out (noText_st s.length c.length f x b k A n B m) (noText_st s1.length c1.length f1 x1 b1 k1 A1 n1 B1 m1))
  have BL2 := Lib.hid (show Box _ w.heap.size [.slice A1 s1.length n1, .slice B1 c1.length m1, .int .i64 f1, .bool x1, .int .i64 b1.n, .int .u64 b1.c, .int .u64 b1.b, .int .u64 b1.o, .int .u64 b1.p, .bool b1.i, .bool b1.r, .bool b1.d, .int .u32 k1] from BL1.out.setL [.slice A1 s1.length n1, .slice B1 c1.length m1, .int .i64 f1, .bool x1, .int .i64 b1.n, .int .u64 b1.c, .int .u64 b1.b, .int .u64 b1.o, .int .u64 b1.p, .bool b1.i, .bool b1.r, .bool b1.d, .int .u32 k1] 0)
  have BR2 := Lib.hid (BR1.out.setO (b := w.heap.size) (by omega) [.slice A1 s1.length n1, .slice B1 c1.length m1, .int .i64 f1, .bool x1, .int .i64 b1.n, .int .u64 b1.c, .int .u64 b1.b, .int .u64 b1.o, .int .u64 b1.p, .bool b1.i, .bool b1.r, .bool b1.d, .int .u32 k1] 0)
  have H2 := Lib.hid (H1.out.setL (b := w.heap.size) ⟨13, by simp⟩ [.slice A1 s1.length n1, .slice B1 c1.length m1, .int .i64 f1, .bool x1, .int .i64 b1.n, .int .u64 b1.c, .int .u64 b1.b, .int .u64 b1.o, .int .u64 b1.p, .bool b1.i, .bool b1.r, .bool b1.d, .int .u32 k1] 0)
  generalize hW2 : setL w1 w.heap.size 0 [.slice A1 s1.length n1, .slice B1 c1.length m1, .int .i64 f1, .bool x1, .int .i64 b1.n, .int .u64 b1.c, .int .u64 b1.b, .int .u64 b1.o, .int .u64 b1.p, .bool b1.i, .bool b1.r, .bool b1.d, .int .u32 k1] = w2 at *
  simp only [setL, Nat.zero_add, Nat.reduceAdd] at hW2
  simp only [hW2]
  clear hW2 kl fl hm1 H1 BL1 BR1
  have kl := BL2.out.cell
  have kr := BR2.out.cell
  have fr := BR2.out.frozen
  go_wp2_with fail
  refine bodyPost_ret (v := .tuple #[.agg #[.slice A1 s1.length n1, .slice B1 c1.length m1, .int .i64 f1, .bool x1, .int .i64 b1.n, .int .u64 b1.c, .int .u64 b1.b, .int .u64 b1.o, .int .u64 b1.p, .bool b1.i, .bool b1.r, .bool b1.d, .int .u32 k1], .string e0, .int .i64 e1]) (by simp [results, Tryz.results17, go_sem, kr]) rfl ?_
  exact ⟨A1, n1, B1, m1, rfl, hm2.out.setL [.slice A1 s1.length n1, .slice B1 c1.length m1, .int .i64 f1, .bool x1, .int .i64 b1.n, .int .u64 b1.c, .int .u64 b1.b, .int .u64 b1.o, .int .u64 b1.p, .bool b1.i, .bool b1.r, .bool b1.d, .int .u32 k1] 0 BR2.out (noText_st 0 0 0 false Sup.zero 0 none 0 none 0) (noText_st s1.length c1.length f1 x1 b1 k1 A1 n1 B1 m1), (H2.out.setL (b := w.heap.size + 2) ⟨13, by simp⟩ [.slice A1 s1.length n1, .slice B1 c1.length m1, .int .i64 f1, .bool x1, .int .i64 b1.n, .int .u64 b1.c, .int .u64 b1.b, .int .u64 b1.o, .int .u64 b1.p, .bool b1.i, .bool b1.r, .bool b1.d, .int .u32 k1] 0).below⟩

set_option maxRecDepth 100000 in
set_option maxHeartbeats 4000000 in
theorem zdo_wipe (A B : Option Addr) (n m : Nat) (s : List ByteArray) (c : List Wr) (f : Int) (x : Bool) (b : Sup) (k : Nat) (i : Int) (m2 : Nat) (d : ByteArray) (q : Sup) (w : World) (s1 : List ByteArray) (c1 : List Wr) (f1 : Int) (x1 : Bool) (b1 : Sup) (k1 : Nat) (e1 : Int)
    (hR : ∀ v, Below w.heap.size w v → Calls Tryz.prog 23 #[.agg #[.slice A s.length n, .slice B c.length m, .int .i64 f, .bool x, .int .i64 b.n, .int .u64 b.c, .int .u64 b.b, .int .u64 b.o, .int .u64 b.p, .bool b.i, .bool b.r, .bool b.d, .int .u32 k], .int .i64 i] v fun e v' => ∃ A1 n1 B1 m1, e = .returned (.tuple #[.agg #[.slice A1 s1.length n1, .slice B1 c1.length m1, .int .i64 f1, .bool x1, .int .i64 b1.n, .int .u64 b1.c, .int .u64 b1.b, .int .u64 b1.o, .int .u64 b1.p, .bool b1.i, .bool b1.r, .bool b1.d, .int .u32 k1], .int .i64 e1]) ∧ Mem v' A1 n1 B1 m1 s1 c1 ∧ Below v.heap.size v v') :
    Calls Tryz.prog 17 #[.agg #[.slice A s.length n, .slice B c.length m, .int .i64 f, .bool x, .int .i64 b.n, .int .u64 b.c, .int .u64 b.b, .int .u64 b.o, .int .u64 b.p, .bool b.i, .bool b.r, .bool b.d, .int .u32 k], .agg #[.int .i64 1, .int .i64 i, .int .u32 m2, .string d, .int .i64 q.n, .int .u64 q.c, .int .u64 q.b, .int .u64 q.o, .int .u64 q.p, .bool q.i, .bool q.r, .bool q.d]] w fun e w' => ∃ A1 n1 B1 m1, e = .returned (.tuple #[.agg #[.slice A1 s1.length n1, .slice B1 c1.length m1, .int .i64 f1, .bool x1, .int .i64 b1.n, .int .u64 b1.c, .int .u64 b1.b, .int .u64 b1.o, .int .u64 b1.p, .bool b1.i, .bool b1.r, .bool b1.d, .int .u32 k1], .string e0, .int .i64 e1]) ∧ Mem w' A1 n1 B1 m1 s1 c1 ∧ Below w.heap.size w w' := by
  have HR := Lib.hid hR; clear hR
  have H0 := Lib.hid ((((Held.refl w).own [.slice A s.length n, .slice B c.length m, .int .i64 f, .bool x, .int .i64 b.n, .int .u64 b.c, .int .u64 b.b, .int .u64 b.o, .int .u64 b.p, .bool b.i, .bool b.r, .bool b.d, .int .u32 k] 34 (n := 13) rfl).lay [.int .i64 1, .int .i64 i, .int .u32 m2, .string d, .int .i64 q.n, .int .u64 q.c, .int .u64 q.b, .int .u64 q.o, .int .u64 q.p, .bool q.i, .bool q.r, .bool q.d] 49).own [.slice none 0 0, .slice none 0 0, .int .i64 0, .bool false, .int .i64 0, .int .u64 0, .int .u64 0, .int .u64 0, .int .u64 0, .bool false, .bool false, .bool false, .int .u32 0] 34 (n := 13) rfl)
  have BL0 := Lib.hid (((Box.new w [.slice A s.length n, .slice B c.length m, .int .i64 f, .bool x, .int .i64 b.n, .int .u64 b.c, .int .u64 b.b, .int .u64 b.o, .int .u64 b.p, .bool b.i, .bool b.r, .bool b.d, .int .u32 k] 34).alloc (.cells ([.int .i64 1, .int .i64 i, .int .u32 m2, .string d, .int .i64 q.n, .int .u64 q.c, .int .u64 q.b, .int .u64 q.o, .int .u64 q.p, .bool q.i, .bool q.r, .bool q.d] : List Value).toArray 49)).alloc (.cells ([.slice none 0 0, .slice none 0 0, .int .i64 0, .bool false, .int .i64 0, .int .u64 0, .int .u64 0, .int .u64 0, .int .u64 0, .bool false, .bool false, .bool false, .int .u32 0] : List Value).toArray 34))
  have BR0 := Lib.hid (Box.new ((w.alloc (.cells ([.slice A s.length n, .slice B c.length m, .int .i64 f, .bool x, .int .i64 b.n, .int .u64 b.c, .int .u64 b.b, .int .u64 b.o, .int .u64 b.p, .bool b.i, .bool b.r, .bool b.d, .int .u32 k] : List Value).toArray 34)).alloc (.cells ([.int .i64 1, .int .i64 i, .int .u32 m2, .string d, .int .i64 q.n, .int .u64 q.c, .int .u64 q.b, .int .u64 q.o, .int .u64 q.p, .bool q.i, .bool q.r, .bool q.d] : List Value).toArray 49)) [.slice none 0 0, .slice none 0 0, .int .i64 0, .bool false, .int .i64 0, .int .u64 0, .int .u64 0, .int .u64 0, .int .u64 0, .bool false, .bool false, .bool false, .int .u32 0] 34)
  simp only [World.size_alloc] at H0 BR0
  have kl := BL0.out.cell
  have ka := H0.out.b0.cell
  go_enter Tryz.func17, Tryz.ntmps17
  go_wp2_with fail
  refine (HR.out _ H0.out.below).mono ?_
  rintro e w1 ⟨A1, n1, B1, m1, rfl, hm1, hb⟩
  have hm1 := Lib.hid hm1
  have H1 := Lib.hid (H0.out.up hb)
  have BL1 := Lib.hid (BL0.out.below hb)
  have BR1 := Lib.hid (BR0.out.below hb)
  clear hb kl ka H0 BL0 BR0
  have kl := BL1.out.cell
  have fl := BL1.out.frozen
  go_upto_region 15 with fail
  have hm2 := Lib.hid (hm1.out.setL [.slice A1 s1.length n1, .slice B1 c1.length m1, .int .i64 f1, .bool x1, .int .i64 b1.n, .int .u64 b1.c, .int .u64 b1.b, .int .u64 b1.o, .int .u64 b1.p, .bool b1.i, .bool b1.r, .bool b1.d, .int .u32 k1] 0 BL1.out (noText_st s.length c.length f x b k A n B m) (noText_st s1.length c1.length f1 x1 b1 k1 A1 n1 B1 m1))
  have BL2 := Lib.hid (show Box _ w.heap.size [.slice A1 s1.length n1, .slice B1 c1.length m1, .int .i64 f1, .bool x1, .int .i64 b1.n, .int .u64 b1.c, .int .u64 b1.b, .int .u64 b1.o, .int .u64 b1.p, .bool b1.i, .bool b1.r, .bool b1.d, .int .u32 k1] from BL1.out.setL [.slice A1 s1.length n1, .slice B1 c1.length m1, .int .i64 f1, .bool x1, .int .i64 b1.n, .int .u64 b1.c, .int .u64 b1.b, .int .u64 b1.o, .int .u64 b1.p, .bool b1.i, .bool b1.r, .bool b1.d, .int .u32 k1] 0)
  have BR2 := Lib.hid (BR1.out.setO (b := w.heap.size) (by omega) [.slice A1 s1.length n1, .slice B1 c1.length m1, .int .i64 f1, .bool x1, .int .i64 b1.n, .int .u64 b1.c, .int .u64 b1.b, .int .u64 b1.o, .int .u64 b1.p, .bool b1.i, .bool b1.r, .bool b1.d, .int .u32 k1] 0)
  have H2 := Lib.hid (H1.out.setL (b := w.heap.size) ⟨13, by simp⟩ [.slice A1 s1.length n1, .slice B1 c1.length m1, .int .i64 f1, .bool x1, .int .i64 b1.n, .int .u64 b1.c, .int .u64 b1.b, .int .u64 b1.o, .int .u64 b1.p, .bool b1.i, .bool b1.r, .bool b1.d, .int .u32 k1] 0)
  generalize hW2 : setL w1 w.heap.size 0 [.slice A1 s1.length n1, .slice B1 c1.length m1, .int .i64 f1, .bool x1, .int .i64 b1.n, .int .u64 b1.c, .int .u64 b1.b, .int .u64 b1.o, .int .u64 b1.p, .bool b1.i, .bool b1.r, .bool b1.d, .int .u32 k1] = w2 at *
  simp only [setL, Nat.zero_add, Nat.reduceAdd] at hW2
  simp only [hW2]
  clear hW2 kl fl hm1 H1 BL1 BR1
  have kl := BL2.out.cell
  have kr := BR2.out.cell
  have fr := BR2.out.frozen
  go_wp2_with fail
  refine bodyPost_ret (v := .tuple #[.agg #[.slice A1 s1.length n1, .slice B1 c1.length m1, .int .i64 f1, .bool x1, .int .i64 b1.n, .int .u64 b1.c, .int .u64 b1.b, .int .u64 b1.o, .int .u64 b1.p, .bool b1.i, .bool b1.r, .bool b1.d, .int .u32 k1], .string e0, .int .i64 e1]) (by simp [results, Tryz.results17, go_sem, kr]) rfl ?_
  exact ⟨A1, n1, B1, m1, rfl, hm2.out.setL [.slice A1 s1.length n1, .slice B1 c1.length m1, .int .i64 f1, .bool x1, .int .i64 b1.n, .int .u64 b1.c, .int .u64 b1.b, .int .u64 b1.o, .int .u64 b1.p, .bool b1.i, .bool b1.r, .bool b1.d, .int .u32 k1] 0 BR2.out (noText_st 0 0 0 false Sup.zero 0 none 0 none 0) (noText_st s1.length c1.length f1 x1 b1 k1 A1 n1 B1 m1), (H2.out.setL (b := w.heap.size + 2) ⟨13, by simp⟩ [.slice A1 s1.length n1, .slice B1 c1.length m1, .int .i64 f1, .bool x1, .int .i64 b1.n, .int .u64 b1.c, .int .u64 b1.b, .int .u64 b1.o, .int .u64 b1.p, .bool b1.i, .bool b1.r, .bool b1.d, .int .u32 k1] 0).below⟩

set_option maxRecDepth 100000 in
set_option maxHeartbeats 4000000 in
theorem zdo_join (A B : Option Addr) (n m : Nat) (s : List ByteArray) (c : List Wr) (f : Int) (x : Bool) (b : Sup) (k : Nat) (i : Int) (m2 : Nat) (d : ByteArray) (q : Sup) (w : World) (s1 : List ByteArray) (c1 : List Wr) (f1 : Int) (x1 : Bool) (b1 : Sup) (k1 : Nat) (e1 : Int)
    (hR : ∀ v, Below w.heap.size w v → Calls Tryz.prog 27 #[.agg #[.slice A s.length n, .slice B c.length m, .int .i64 f, .bool x, .int .i64 b.n, .int .u64 b.c, .int .u64 b.b, .int .u64 b.o, .int .u64 b.p, .bool b.i, .bool b.r, .bool b.d, .int .u32 k], .int .u32 m2] v fun e v' => ∃ A1 n1 B1 m1, e = .returned (.tuple #[.agg #[.slice A1 s1.length n1, .slice B1 c1.length m1, .int .i64 f1, .bool x1, .int .i64 b1.n, .int .u64 b1.c, .int .u64 b1.b, .int .u64 b1.o, .int .u64 b1.p, .bool b1.i, .bool b1.r, .bool b1.d, .int .u32 k1], .int .i64 e1]) ∧ Mem v' A1 n1 B1 m1 s1 c1 ∧ Below v.heap.size v v') :
    Calls Tryz.prog 17 #[.agg #[.slice A s.length n, .slice B c.length m, .int .i64 f, .bool x, .int .i64 b.n, .int .u64 b.c, .int .u64 b.b, .int .u64 b.o, .int .u64 b.p, .bool b.i, .bool b.r, .bool b.d, .int .u32 k], .agg #[.int .i64 2, .int .i64 i, .int .u32 m2, .string d, .int .i64 q.n, .int .u64 q.c, .int .u64 q.b, .int .u64 q.o, .int .u64 q.p, .bool q.i, .bool q.r, .bool q.d]] w fun e w' => ∃ A1 n1 B1 m1, e = .returned (.tuple #[.agg #[.slice A1 s1.length n1, .slice B1 c1.length m1, .int .i64 f1, .bool x1, .int .i64 b1.n, .int .u64 b1.c, .int .u64 b1.b, .int .u64 b1.o, .int .u64 b1.p, .bool b1.i, .bool b1.r, .bool b1.d, .int .u32 k1], .string e0, .int .i64 e1]) ∧ Mem w' A1 n1 B1 m1 s1 c1 ∧ Below w.heap.size w w' := by
  have HR := Lib.hid hR; clear hR
  have H0 := Lib.hid ((((Held.refl w).own [.slice A s.length n, .slice B c.length m, .int .i64 f, .bool x, .int .i64 b.n, .int .u64 b.c, .int .u64 b.b, .int .u64 b.o, .int .u64 b.p, .bool b.i, .bool b.r, .bool b.d, .int .u32 k] 34 (n := 13) rfl).lay [.int .i64 2, .int .i64 i, .int .u32 m2, .string d, .int .i64 q.n, .int .u64 q.c, .int .u64 q.b, .int .u64 q.o, .int .u64 q.p, .bool q.i, .bool q.r, .bool q.d] 49).own [.slice none 0 0, .slice none 0 0, .int .i64 0, .bool false, .int .i64 0, .int .u64 0, .int .u64 0, .int .u64 0, .int .u64 0, .bool false, .bool false, .bool false, .int .u32 0] 34 (n := 13) rfl)
  have BL0 := Lib.hid (((Box.new w [.slice A s.length n, .slice B c.length m, .int .i64 f, .bool x, .int .i64 b.n, .int .u64 b.c, .int .u64 b.b, .int .u64 b.o, .int .u64 b.p, .bool b.i, .bool b.r, .bool b.d, .int .u32 k] 34).alloc (.cells ([.int .i64 2, .int .i64 i, .int .u32 m2, .string d, .int .i64 q.n, .int .u64 q.c, .int .u64 q.b, .int .u64 q.o, .int .u64 q.p, .bool q.i, .bool q.r, .bool q.d] : List Value).toArray 49)).alloc (.cells ([.slice none 0 0, .slice none 0 0, .int .i64 0, .bool false, .int .i64 0, .int .u64 0, .int .u64 0, .int .u64 0, .int .u64 0, .bool false, .bool false, .bool false, .int .u32 0] : List Value).toArray 34))
  have BR0 := Lib.hid (Box.new ((w.alloc (.cells ([.slice A s.length n, .slice B c.length m, .int .i64 f, .bool x, .int .i64 b.n, .int .u64 b.c, .int .u64 b.b, .int .u64 b.o, .int .u64 b.p, .bool b.i, .bool b.r, .bool b.d, .int .u32 k] : List Value).toArray 34)).alloc (.cells ([.int .i64 2, .int .i64 i, .int .u32 m2, .string d, .int .i64 q.n, .int .u64 q.c, .int .u64 q.b, .int .u64 q.o, .int .u64 q.p, .bool q.i, .bool q.r, .bool q.d] : List Value).toArray 49)) [.slice none 0 0, .slice none 0 0, .int .i64 0, .bool false, .int .i64 0, .int .u64 0, .int .u64 0, .int .u64 0, .int .u64 0, .bool false, .bool false, .bool false, .int .u32 0] 34)
  simp only [World.size_alloc] at H0 BR0
  have kl := BL0.out.cell
  have ka := H0.out.b0.cell
  go_enter Tryz.func17, Tryz.ntmps17
  go_wp2_with fail
  refine (HR.out _ H0.out.below).mono ?_
  rintro e w1 ⟨A1, n1, B1, m1, rfl, hm1, hb⟩
  have hm1 := Lib.hid hm1
  have H1 := Lib.hid (H0.out.up hb)
  have BL1 := Lib.hid (BL0.out.below hb)
  have BR1 := Lib.hid (BR0.out.below hb)
  clear hb kl ka H0 BL0 BR0
  have kl := BL1.out.cell
  have fl := BL1.out.frozen
  go_upto_region 15 with fail
  have hm2 := Lib.hid (hm1.out.setL [.slice A1 s1.length n1, .slice B1 c1.length m1, .int .i64 f1, .bool x1, .int .i64 b1.n, .int .u64 b1.c, .int .u64 b1.b, .int .u64 b1.o, .int .u64 b1.p, .bool b1.i, .bool b1.r, .bool b1.d, .int .u32 k1] 0 BL1.out (noText_st s.length c.length f x b k A n B m) (noText_st s1.length c1.length f1 x1 b1 k1 A1 n1 B1 m1))
  have BL2 := Lib.hid (show Box _ w.heap.size [.slice A1 s1.length n1, .slice B1 c1.length m1, .int .i64 f1, .bool x1, .int .i64 b1.n, .int .u64 b1.c, .int .u64 b1.b, .int .u64 b1.o, .int .u64 b1.p, .bool b1.i, .bool b1.r, .bool b1.d, .int .u32 k1] from BL1.out.setL [.slice A1 s1.length n1, .slice B1 c1.length m1, .int .i64 f1, .bool x1, .int .i64 b1.n, .int .u64 b1.c, .int .u64 b1.b, .int .u64 b1.o, .int .u64 b1.p, .bool b1.i, .bool b1.r, .bool b1.d, .int .u32 k1] 0)
  have BR2 := Lib.hid (BR1.out.setO (b := w.heap.size) (by omega) [.slice A1 s1.length n1, .slice B1 c1.length m1, .int .i64 f1, .bool x1, .int .i64 b1.n, .int .u64 b1.c, .int .u64 b1.b, .int .u64 b1.o, .int .u64 b1.p, .bool b1.i, .bool b1.r, .bool b1.d, .int .u32 k1] 0)
  have H2 := Lib.hid (H1.out.setL (b := w.heap.size) ⟨13, by simp⟩ [.slice A1 s1.length n1, .slice B1 c1.length m1, .int .i64 f1, .bool x1, .int .i64 b1.n, .int .u64 b1.c, .int .u64 b1.b, .int .u64 b1.o, .int .u64 b1.p, .bool b1.i, .bool b1.r, .bool b1.d, .int .u32 k1] 0)
  generalize hW2 : setL w1 w.heap.size 0 [.slice A1 s1.length n1, .slice B1 c1.length m1, .int .i64 f1, .bool x1, .int .i64 b1.n, .int .u64 b1.c, .int .u64 b1.b, .int .u64 b1.o, .int .u64 b1.p, .bool b1.i, .bool b1.r, .bool b1.d, .int .u32 k1] = w2 at *
  simp only [setL, Nat.zero_add, Nat.reduceAdd] at hW2
  simp only [hW2]
  clear hW2 kl fl hm1 H1 BL1 BR1
  have kl := BL2.out.cell
  have kr := BR2.out.cell
  have fr := BR2.out.frozen
  go_wp2_with fail
  refine bodyPost_ret (v := .tuple #[.agg #[.slice A1 s1.length n1, .slice B1 c1.length m1, .int .i64 f1, .bool x1, .int .i64 b1.n, .int .u64 b1.c, .int .u64 b1.b, .int .u64 b1.o, .int .u64 b1.p, .bool b1.i, .bool b1.r, .bool b1.d, .int .u32 k1], .string e0, .int .i64 e1]) (by simp [results, Tryz.results17, go_sem, kr]) rfl ?_
  exact ⟨A1, n1, B1, m1, rfl, hm2.out.setL [.slice A1 s1.length n1, .slice B1 c1.length m1, .int .i64 f1, .bool x1, .int .i64 b1.n, .int .u64 b1.c, .int .u64 b1.b, .int .u64 b1.o, .int .u64 b1.p, .bool b1.i, .bool b1.r, .bool b1.d, .int .u32 k1] 0 BR2.out (noText_st 0 0 0 false Sup.zero 0 none 0 none 0) (noText_st s1.length c1.length f1 x1 b1 k1 A1 n1 B1 m1), (H2.out.setL (b := w.heap.size + 2) ⟨13, by simp⟩ [.slice A1 s1.length n1, .slice B1 c1.length m1, .int .i64 f1, .bool x1, .int .i64 b1.n, .int .u64 b1.c, .int .u64 b1.b, .int .u64 b1.o, .int .u64 b1.p, .bool b1.i, .bool b1.r, .bool b1.d, .int .u32 k1] 0).below⟩

set_option maxRecDepth 100000 in
set_option maxHeartbeats 4000000 in
theorem zdo_put (A B : Option Addr) (n m : Nat) (s : List ByteArray) (c : List Wr) (f : Int) (x : Bool) (b : Sup) (k : Nat) (i : Int) (m2 : Nat) (d : ByteArray) (q : Sup) (w : World) (s1 : List ByteArray) (c1 : List Wr) (f1 : Int) (x1 : Bool) (b1 : Sup) (k1 : Nat) (e1 : Int)
    (hR : ∀ v, Below w.heap.size w v → Calls Tryz.prog 24 #[.agg #[.slice A s.length n, .slice B c.length m, .int .i64 f, .bool x, .int .i64 b.n, .int .u64 b.c, .int .u64 b.b, .int .u64 b.o, .int .u64 b.p, .bool b.i, .bool b.r, .bool b.d, .int .u32 k], .int .i64 i, .string d] v fun e v' => ∃ A1 n1 B1 m1, e = .returned (.tuple #[.agg #[.slice A1 s1.length n1, .slice B1 c1.length m1, .int .i64 f1, .bool x1, .int .i64 b1.n, .int .u64 b1.c, .int .u64 b1.b, .int .u64 b1.o, .int .u64 b1.p, .bool b1.i, .bool b1.r, .bool b1.d, .int .u32 k1], .int .i64 e1]) ∧ Mem v' A1 n1 B1 m1 s1 c1 ∧ Below v.heap.size v v') :
    Calls Tryz.prog 17 #[.agg #[.slice A s.length n, .slice B c.length m, .int .i64 f, .bool x, .int .i64 b.n, .int .u64 b.c, .int .u64 b.b, .int .u64 b.o, .int .u64 b.p, .bool b.i, .bool b.r, .bool b.d, .int .u32 k], .agg #[.int .i64 3, .int .i64 i, .int .u32 m2, .string d, .int .i64 q.n, .int .u64 q.c, .int .u64 q.b, .int .u64 q.o, .int .u64 q.p, .bool q.i, .bool q.r, .bool q.d]] w fun e w' => ∃ A1 n1 B1 m1, e = .returned (.tuple #[.agg #[.slice A1 s1.length n1, .slice B1 c1.length m1, .int .i64 f1, .bool x1, .int .i64 b1.n, .int .u64 b1.c, .int .u64 b1.b, .int .u64 b1.o, .int .u64 b1.p, .bool b1.i, .bool b1.r, .bool b1.d, .int .u32 k1], .string e0, .int .i64 e1]) ∧ Mem w' A1 n1 B1 m1 s1 c1 ∧ Below w.heap.size w w' := by
  have HR := Lib.hid hR; clear hR
  have H0 := Lib.hid ((((Held.refl w).own [.slice A s.length n, .slice B c.length m, .int .i64 f, .bool x, .int .i64 b.n, .int .u64 b.c, .int .u64 b.b, .int .u64 b.o, .int .u64 b.p, .bool b.i, .bool b.r, .bool b.d, .int .u32 k] 34 (n := 13) rfl).lay [.int .i64 3, .int .i64 i, .int .u32 m2, .string d, .int .i64 q.n, .int .u64 q.c, .int .u64 q.b, .int .u64 q.o, .int .u64 q.p, .bool q.i, .bool q.r, .bool q.d] 49).own [.slice none 0 0, .slice none 0 0, .int .i64 0, .bool false, .int .i64 0, .int .u64 0, .int .u64 0, .int .u64 0, .int .u64 0, .bool false, .bool false, .bool false, .int .u32 0] 34 (n := 13) rfl)
  have BL0 := Lib.hid (((Box.new w [.slice A s.length n, .slice B c.length m, .int .i64 f, .bool x, .int .i64 b.n, .int .u64 b.c, .int .u64 b.b, .int .u64 b.o, .int .u64 b.p, .bool b.i, .bool b.r, .bool b.d, .int .u32 k] 34).alloc (.cells ([.int .i64 3, .int .i64 i, .int .u32 m2, .string d, .int .i64 q.n, .int .u64 q.c, .int .u64 q.b, .int .u64 q.o, .int .u64 q.p, .bool q.i, .bool q.r, .bool q.d] : List Value).toArray 49)).alloc (.cells ([.slice none 0 0, .slice none 0 0, .int .i64 0, .bool false, .int .i64 0, .int .u64 0, .int .u64 0, .int .u64 0, .int .u64 0, .bool false, .bool false, .bool false, .int .u32 0] : List Value).toArray 34))
  have BR0 := Lib.hid (Box.new ((w.alloc (.cells ([.slice A s.length n, .slice B c.length m, .int .i64 f, .bool x, .int .i64 b.n, .int .u64 b.c, .int .u64 b.b, .int .u64 b.o, .int .u64 b.p, .bool b.i, .bool b.r, .bool b.d, .int .u32 k] : List Value).toArray 34)).alloc (.cells ([.int .i64 3, .int .i64 i, .int .u32 m2, .string d, .int .i64 q.n, .int .u64 q.c, .int .u64 q.b, .int .u64 q.o, .int .u64 q.p, .bool q.i, .bool q.r, .bool q.d] : List Value).toArray 49)) [.slice none 0 0, .slice none 0 0, .int .i64 0, .bool false, .int .i64 0, .int .u64 0, .int .u64 0, .int .u64 0, .int .u64 0, .bool false, .bool false, .bool false, .int .u32 0] 34)
  simp only [World.size_alloc] at H0 BR0
  have kl := BL0.out.cell
  have ka := H0.out.b0.cell
  go_enter Tryz.func17, Tryz.ntmps17
  go_wp2_with fail
  refine (HR.out _ H0.out.below).mono ?_
  rintro e w1 ⟨A1, n1, B1, m1, rfl, hm1, hb⟩
  have hm1 := Lib.hid hm1
  have H1 := Lib.hid (H0.out.up hb)
  have BL1 := Lib.hid (BL0.out.below hb)
  have BR1 := Lib.hid (BR0.out.below hb)
  clear hb kl ka H0 BL0 BR0
  have kl := BL1.out.cell
  have fl := BL1.out.frozen
  go_upto_region 15 with fail
  have hm2 := Lib.hid (hm1.out.setL [.slice A1 s1.length n1, .slice B1 c1.length m1, .int .i64 f1, .bool x1, .int .i64 b1.n, .int .u64 b1.c, .int .u64 b1.b, .int .u64 b1.o, .int .u64 b1.p, .bool b1.i, .bool b1.r, .bool b1.d, .int .u32 k1] 0 BL1.out (noText_st s.length c.length f x b k A n B m) (noText_st s1.length c1.length f1 x1 b1 k1 A1 n1 B1 m1))
  have BL2 := Lib.hid (show Box _ w.heap.size [.slice A1 s1.length n1, .slice B1 c1.length m1, .int .i64 f1, .bool x1, .int .i64 b1.n, .int .u64 b1.c, .int .u64 b1.b, .int .u64 b1.o, .int .u64 b1.p, .bool b1.i, .bool b1.r, .bool b1.d, .int .u32 k1] from BL1.out.setL [.slice A1 s1.length n1, .slice B1 c1.length m1, .int .i64 f1, .bool x1, .int .i64 b1.n, .int .u64 b1.c, .int .u64 b1.b, .int .u64 b1.o, .int .u64 b1.p, .bool b1.i, .bool b1.r, .bool b1.d, .int .u32 k1] 0)
  have BR2 := Lib.hid (BR1.out.setO (b := w.heap.size) (by omega) [.slice A1 s1.length n1, .slice B1 c1.length m1, .int .i64 f1, .bool x1, .int .i64 b1.n, .int .u64 b1.c, .int .u64 b1.b, .int .u64 b1.o, .int .u64 b1.p, .bool b1.i, .bool b1.r, .bool b1.d, .int .u32 k1] 0)
  have H2 := Lib.hid (H1.out.setL (b := w.heap.size) ⟨13, by simp⟩ [.slice A1 s1.length n1, .slice B1 c1.length m1, .int .i64 f1, .bool x1, .int .i64 b1.n, .int .u64 b1.c, .int .u64 b1.b, .int .u64 b1.o, .int .u64 b1.p, .bool b1.i, .bool b1.r, .bool b1.d, .int .u32 k1] 0)
  generalize hW2 : setL w1 w.heap.size 0 [.slice A1 s1.length n1, .slice B1 c1.length m1, .int .i64 f1, .bool x1, .int .i64 b1.n, .int .u64 b1.c, .int .u64 b1.b, .int .u64 b1.o, .int .u64 b1.p, .bool b1.i, .bool b1.r, .bool b1.d, .int .u32 k1] = w2 at *
  simp only [setL, Nat.zero_add, Nat.reduceAdd] at hW2
  simp only [hW2]
  clear hW2 kl fl hm1 H1 BL1 BR1
  have kl := BL2.out.cell
  have kr := BR2.out.cell
  have fr := BR2.out.frozen
  go_wp2_with fail
  refine bodyPost_ret (v := .tuple #[.agg #[.slice A1 s1.length n1, .slice B1 c1.length m1, .int .i64 f1, .bool x1, .int .i64 b1.n, .int .u64 b1.c, .int .u64 b1.b, .int .u64 b1.o, .int .u64 b1.p, .bool b1.i, .bool b1.r, .bool b1.d, .int .u32 k1], .string e0, .int .i64 e1]) (by simp [results, Tryz.results17, go_sem, kr]) rfl ?_
  exact ⟨A1, n1, B1, m1, rfl, hm2.out.setL [.slice A1 s1.length n1, .slice B1 c1.length m1, .int .i64 f1, .bool x1, .int .i64 b1.n, .int .u64 b1.c, .int .u64 b1.b, .int .u64 b1.o, .int .u64 b1.p, .bool b1.i, .bool b1.r, .bool b1.d, .int .u32 k1] 0 BR2.out (noText_st 0 0 0 false Sup.zero 0 none 0 none 0) (noText_st s1.length c1.length f1 x1 b1 k1 A1 n1 B1 m1), (H2.out.setL (b := w.heap.size + 2) ⟨13, by simp⟩ [.slice A1 s1.length n1, .slice B1 c1.length m1, .int .i64 f1, .bool x1, .int .i64 b1.n, .int .u64 b1.c, .int .u64 b1.b, .int .u64 b1.o, .int .u64 b1.p, .bool b1.i, .bool b1.r, .bool b1.d, .int .u32 k1] 0).below⟩

set_option maxRecDepth 100000 in
set_option maxHeartbeats 4000000 in
theorem zdo_commit (A B : Option Addr) (n m : Nat) (s : List ByteArray) (c : List Wr) (f : Int) (x : Bool) (b : Sup) (k : Nat) (i : Int) (m2 : Nat) (d : ByteArray) (q : Sup) (w : World) (s1 : List ByteArray) (c1 : List Wr) (f1 : Int) (x1 : Bool) (b1 : Sup) (k1 : Nat) (e1 : Int)
    (hR : ∀ v, Below w.heap.size w v → Calls Tryz.prog 26 #[.agg #[.slice A s.length n, .slice B c.length m, .int .i64 f, .bool x, .int .i64 b.n, .int .u64 b.c, .int .u64 b.b, .int .u64 b.o, .int .u64 b.p, .bool b.i, .bool b.r, .bool b.d, .int .u32 k], .agg #[.int .i64 q.n, .int .u64 q.c, .int .u64 q.b, .int .u64 q.o, .int .u64 q.p, .bool q.i, .bool q.r, .bool q.d]] v fun e v' => ∃ A1 n1 B1 m1, e = .returned (.tuple #[.agg #[.slice A1 s1.length n1, .slice B1 c1.length m1, .int .i64 f1, .bool x1, .int .i64 b1.n, .int .u64 b1.c, .int .u64 b1.b, .int .u64 b1.o, .int .u64 b1.p, .bool b1.i, .bool b1.r, .bool b1.d, .int .u32 k1], .int .i64 e1]) ∧ Mem v' A1 n1 B1 m1 s1 c1 ∧ Below v.heap.size v v') :
    Calls Tryz.prog 17 #[.agg #[.slice A s.length n, .slice B c.length m, .int .i64 f, .bool x, .int .i64 b.n, .int .u64 b.c, .int .u64 b.b, .int .u64 b.o, .int .u64 b.p, .bool b.i, .bool b.r, .bool b.d, .int .u32 k], .agg #[.int .i64 4, .int .i64 i, .int .u32 m2, .string d, .int .i64 q.n, .int .u64 q.c, .int .u64 q.b, .int .u64 q.o, .int .u64 q.p, .bool q.i, .bool q.r, .bool q.d]] w fun e w' => ∃ A1 n1 B1 m1, e = .returned (.tuple #[.agg #[.slice A1 s1.length n1, .slice B1 c1.length m1, .int .i64 f1, .bool x1, .int .i64 b1.n, .int .u64 b1.c, .int .u64 b1.b, .int .u64 b1.o, .int .u64 b1.p, .bool b1.i, .bool b1.r, .bool b1.d, .int .u32 k1], .string e0, .int .i64 e1]) ∧ Mem w' A1 n1 B1 m1 s1 c1 ∧ Below w.heap.size w w' := by
  have HR := Lib.hid hR; clear hR
  have H0 := Lib.hid ((((Held.refl w).own [.slice A s.length n, .slice B c.length m, .int .i64 f, .bool x, .int .i64 b.n, .int .u64 b.c, .int .u64 b.b, .int .u64 b.o, .int .u64 b.p, .bool b.i, .bool b.r, .bool b.d, .int .u32 k] 34 (n := 13) rfl).lay [.int .i64 4, .int .i64 i, .int .u32 m2, .string d, .int .i64 q.n, .int .u64 q.c, .int .u64 q.b, .int .u64 q.o, .int .u64 q.p, .bool q.i, .bool q.r, .bool q.d] 49).own [.slice none 0 0, .slice none 0 0, .int .i64 0, .bool false, .int .i64 0, .int .u64 0, .int .u64 0, .int .u64 0, .int .u64 0, .bool false, .bool false, .bool false, .int .u32 0] 34 (n := 13) rfl)
  have BL0 := Lib.hid (((Box.new w [.slice A s.length n, .slice B c.length m, .int .i64 f, .bool x, .int .i64 b.n, .int .u64 b.c, .int .u64 b.b, .int .u64 b.o, .int .u64 b.p, .bool b.i, .bool b.r, .bool b.d, .int .u32 k] 34).alloc (.cells ([.int .i64 4, .int .i64 i, .int .u32 m2, .string d, .int .i64 q.n, .int .u64 q.c, .int .u64 q.b, .int .u64 q.o, .int .u64 q.p, .bool q.i, .bool q.r, .bool q.d] : List Value).toArray 49)).alloc (.cells ([.slice none 0 0, .slice none 0 0, .int .i64 0, .bool false, .int .i64 0, .int .u64 0, .int .u64 0, .int .u64 0, .int .u64 0, .bool false, .bool false, .bool false, .int .u32 0] : List Value).toArray 34))
  have BR0 := Lib.hid (Box.new ((w.alloc (.cells ([.slice A s.length n, .slice B c.length m, .int .i64 f, .bool x, .int .i64 b.n, .int .u64 b.c, .int .u64 b.b, .int .u64 b.o, .int .u64 b.p, .bool b.i, .bool b.r, .bool b.d, .int .u32 k] : List Value).toArray 34)).alloc (.cells ([.int .i64 4, .int .i64 i, .int .u32 m2, .string d, .int .i64 q.n, .int .u64 q.c, .int .u64 q.b, .int .u64 q.o, .int .u64 q.p, .bool q.i, .bool q.r, .bool q.d] : List Value).toArray 49)) [.slice none 0 0, .slice none 0 0, .int .i64 0, .bool false, .int .i64 0, .int .u64 0, .int .u64 0, .int .u64 0, .int .u64 0, .bool false, .bool false, .bool false, .int .u32 0] 34)
  simp only [World.size_alloc] at H0 BR0
  have kl := BL0.out.cell
  have ka := H0.out.b0.cell
  go_enter Tryz.func17, Tryz.ntmps17
  go_wp2_with fail
  refine (HR.out _ H0.out.below).mono ?_
  rintro e w1 ⟨A1, n1, B1, m1, rfl, hm1, hb⟩
  have hm1 := Lib.hid hm1
  have H1 := Lib.hid (H0.out.up hb)
  have BL1 := Lib.hid (BL0.out.below hb)
  have BR1 := Lib.hid (BR0.out.below hb)
  clear hb kl ka H0 BL0 BR0
  have kl := BL1.out.cell
  have fl := BL1.out.frozen
  go_upto_region 15 with fail
  have hm2 := Lib.hid (hm1.out.setL [.slice A1 s1.length n1, .slice B1 c1.length m1, .int .i64 f1, .bool x1, .int .i64 b1.n, .int .u64 b1.c, .int .u64 b1.b, .int .u64 b1.o, .int .u64 b1.p, .bool b1.i, .bool b1.r, .bool b1.d, .int .u32 k1] 0 BL1.out (noText_st s.length c.length f x b k A n B m) (noText_st s1.length c1.length f1 x1 b1 k1 A1 n1 B1 m1))
  have BL2 := Lib.hid (show Box _ w.heap.size [.slice A1 s1.length n1, .slice B1 c1.length m1, .int .i64 f1, .bool x1, .int .i64 b1.n, .int .u64 b1.c, .int .u64 b1.b, .int .u64 b1.o, .int .u64 b1.p, .bool b1.i, .bool b1.r, .bool b1.d, .int .u32 k1] from BL1.out.setL [.slice A1 s1.length n1, .slice B1 c1.length m1, .int .i64 f1, .bool x1, .int .i64 b1.n, .int .u64 b1.c, .int .u64 b1.b, .int .u64 b1.o, .int .u64 b1.p, .bool b1.i, .bool b1.r, .bool b1.d, .int .u32 k1] 0)
  have BR2 := Lib.hid (BR1.out.setO (b := w.heap.size) (by omega) [.slice A1 s1.length n1, .slice B1 c1.length m1, .int .i64 f1, .bool x1, .int .i64 b1.n, .int .u64 b1.c, .int .u64 b1.b, .int .u64 b1.o, .int .u64 b1.p, .bool b1.i, .bool b1.r, .bool b1.d, .int .u32 k1] 0)
  have H2 := Lib.hid (H1.out.setL (b := w.heap.size) ⟨13, by simp⟩ [.slice A1 s1.length n1, .slice B1 c1.length m1, .int .i64 f1, .bool x1, .int .i64 b1.n, .int .u64 b1.c, .int .u64 b1.b, .int .u64 b1.o, .int .u64 b1.p, .bool b1.i, .bool b1.r, .bool b1.d, .int .u32 k1] 0)
  generalize hW2 : setL w1 w.heap.size 0 [.slice A1 s1.length n1, .slice B1 c1.length m1, .int .i64 f1, .bool x1, .int .i64 b1.n, .int .u64 b1.c, .int .u64 b1.b, .int .u64 b1.o, .int .u64 b1.p, .bool b1.i, .bool b1.r, .bool b1.d, .int .u32 k1] = w2 at *
  simp only [setL, Nat.zero_add, Nat.reduceAdd] at hW2
  simp only [hW2]
  clear hW2 kl fl hm1 H1 BL1 BR1
  have kl := BL2.out.cell
  have kr := BR2.out.cell
  have fr := BR2.out.frozen
  go_wp2_with fail
  refine bodyPost_ret (v := .tuple #[.agg #[.slice A1 s1.length n1, .slice B1 c1.length m1, .int .i64 f1, .bool x1, .int .i64 b1.n, .int .u64 b1.c, .int .u64 b1.b, .int .u64 b1.o, .int .u64 b1.p, .bool b1.i, .bool b1.r, .bool b1.d, .int .u32 k1], .string e0, .int .i64 e1]) (by simp [results, Tryz.results17, go_sem, kr]) rfl ?_
  exact ⟨A1, n1, B1, m1, rfl, hm2.out.setL [.slice A1 s1.length n1, .slice B1 c1.length m1, .int .i64 f1, .bool x1, .int .i64 b1.n, .int .u64 b1.c, .int .u64 b1.b, .int .u64 b1.o, .int .u64 b1.p, .bool b1.i, .bool b1.r, .bool b1.d, .int .u32 k1] 0 BR2.out (noText_st 0 0 0 false Sup.zero 0 none 0 none 0) (noText_st s1.length c1.length f1 x1 b1 k1 A1 n1 B1 m1), (H2.out.setL (b := w.heap.size + 2) ⟨13, by simp⟩ [.slice A1 s1.length n1, .slice B1 c1.length m1, .int .i64 f1, .bool x1, .int .i64 b1.n, .int .u64 b1.c, .int .u64 b1.b, .int .u64 b1.o, .int .u64 b1.p, .bool b1.i, .bool b1.r, .bool b1.d, .int .u32 k1] 0).below⟩

set_option maxRecDepth 100000 in
set_option maxHeartbeats 4000000 in
theorem zdo_read (A B : Option Addr) (n m : Nat) (s : List ByteArray) (c : List Wr) (f : Int) (x : Bool) (b : Sup) (k : Nat) (g : Int) (i : Int) (m2 : Nat) (d : ByteArray) (q : Sup) (w : World) (h0 : g ≠ 0) (h1 : g ≠ 1) (h2 : g ≠ 2) (h3 : g ≠ 3) (h4 : g ≠ 4) (d1 : ByteArray) (e1 : Int)
    (hR : ∀ v, Below w.heap.size w v → Calls Tryz.prog 25 #[.agg #[.slice A s.length n, .slice B c.length m, .int .i64 f, .bool x, .int .i64 b.n, .int .u64 b.c, .int .u64 b.b, .int .u64 b.o, .int .u64 b.p, .bool b.i, .bool b.r, .bool b.d, .int .u32 k], .int .i64 i] v fun e v' => e = .returned (.tuple #[.string d1, .int .i64 e1]) ∧ Below v.heap.size v v') :
    Calls Tryz.prog 17 #[.agg #[.slice A s.length n, .slice B c.length m, .int .i64 f, .bool x, .int .i64 b.n, .int .u64 b.c, .int .u64 b.b, .int .u64 b.o, .int .u64 b.p, .bool b.i, .bool b.r, .bool b.d, .int .u32 k], .agg #[.int .i64 g, .int .i64 i, .int .u32 m2, .string d, .int .i64 q.n, .int .u64 q.c, .int .u64 q.b, .int .u64 q.o, .int .u64 q.p, .bool q.i, .bool q.r, .bool q.d]] w fun e w' => e = .returned (.tuple #[.agg #[.slice A s.length n, .slice B c.length m, .int .i64 f, .bool x, .int .i64 b.n, .int .u64 b.c, .int .u64 b.b, .int .u64 b.o, .int .u64 b.p, .bool b.i, .bool b.r, .bool b.d, .int .u32 k], .string d1, .int .i64 e1]) ∧ Below w.heap.size w w' := by
  have HR := Lib.hid hR; clear hR
  have g0 : (g == 0) = false := beq_eq_false_iff_ne.2 h0
  have g1 : (g == 1) = false := beq_eq_false_iff_ne.2 h1
  have g2 : (g == 2) = false := beq_eq_false_iff_ne.2 h2
  have g3 : (g == 3) = false := beq_eq_false_iff_ne.2 h3
  have g4 : (g == 4) = false := beq_eq_false_iff_ne.2 h4
  clear h0 h1 h2 h3 h4
  have H0 := Lib.hid ((((Held.refl w).own [.slice A s.length n, .slice B c.length m, .int .i64 f, .bool x, .int .i64 b.n, .int .u64 b.c, .int .u64 b.b, .int .u64 b.o, .int .u64 b.p, .bool b.i, .bool b.r, .bool b.d, .int .u32 k] 34 (n := 13) rfl).lay [.int .i64 g, .int .i64 i, .int .u32 m2, .string d, .int .i64 q.n, .int .u64 q.c, .int .u64 q.b, .int .u64 q.o, .int .u64 q.p, .bool q.i, .bool q.r, .bool q.d] 49).own [.slice none 0 0, .slice none 0 0, .int .i64 0, .bool false, .int .i64 0, .int .u64 0, .int .u64 0, .int .u64 0, .int .u64 0, .bool false, .bool false, .bool false, .int .u32 0] 34 (n := 13) rfl)
  have BL0 := Lib.hid (((Box.new w [.slice A s.length n, .slice B c.length m, .int .i64 f, .bool x, .int .i64 b.n, .int .u64 b.c, .int .u64 b.b, .int .u64 b.o, .int .u64 b.p, .bool b.i, .bool b.r, .bool b.d, .int .u32 k] 34).alloc (.cells ([.int .i64 g, .int .i64 i, .int .u32 m2, .string d, .int .i64 q.n, .int .u64 q.c, .int .u64 q.b, .int .u64 q.o, .int .u64 q.p, .bool q.i, .bool q.r, .bool q.d] : List Value).toArray 49)).alloc (.cells ([.slice none 0 0, .slice none 0 0, .int .i64 0, .bool false, .int .i64 0, .int .u64 0, .int .u64 0, .int .u64 0, .int .u64 0, .bool false, .bool false, .bool false, .int .u32 0] : List Value).toArray 34))
  have BR0 := Lib.hid (Box.new ((w.alloc (.cells ([.slice A s.length n, .slice B c.length m, .int .i64 f, .bool x, .int .i64 b.n, .int .u64 b.c, .int .u64 b.b, .int .u64 b.o, .int .u64 b.p, .bool b.i, .bool b.r, .bool b.d, .int .u32 k] : List Value).toArray 34)).alloc (.cells ([.int .i64 g, .int .i64 i, .int .u32 m2, .string d, .int .i64 q.n, .int .u64 q.c, .int .u64 q.b, .int .u64 q.o, .int .u64 q.p, .bool q.i, .bool q.r, .bool q.d] : List Value).toArray 49)) [.slice none 0 0, .slice none 0 0, .int .i64 0, .bool false, .int .i64 0, .int .u64 0, .int .u64 0, .int .u64 0, .int .u64 0, .bool false, .bool false, .bool false, .int .u32 0] 34)
  simp only [World.size_alloc] at H0 BR0
  have kl := BL0.out.cell
  have ka := H0.out.b0.cell
  go_enter Tryz.func17, Tryz.ntmps17
  go_wp2_with fail
  refine (HR.out _ H0.out.below).mono ?_
  rintro e w1 ⟨rfl, hb⟩
  have H1 := Lib.hid (H0.out.up hb)
  have BL1 := Lib.hid (BL0.out.below hb)
  have BR1 := Lib.hid (BR0.out.below hb)
  clear hb kl ka H0 BL0 BR0
  have kl := BL1.out.cell
  have kr := BR1.out.cell
  have fr := BR1.out.frozen
  go_wp2_with fail
  refine bodyPost_ret (v := .tuple #[.agg #[.slice A s.length n, .slice B c.length m, .int .i64 f, .bool x, .int .i64 b.n, .int .u64 b.c, .int .u64 b.b, .int .u64 b.o, .int .u64 b.p, .bool b.i, .bool b.r, .bool b.d, .int .u32 k], .string d1, .int .i64 e1]) (by simp [results, Tryz.results17, go_sem, kr]) rfl ⟨rfl, ?_⟩
  exact (H1.out.setL (b := w.heap.size + 2) ⟨13, by simp⟩ [.slice A s.length n, .slice B c.length m, .int .i64 f, .bool x, .int .i64 b.n, .int .u64 b.c, .int .u64 b.b, .int .u64 b.o, .int .u64 b.p, .bool b.i, .bool b.r, .bool b.d, .int .u32 k] 0).below

end Go.Proofs.YtjkgellkkjjnbaaGreatDoor
