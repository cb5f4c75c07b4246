/- Stores in memory through calls carried out plainly: the steps by what callees answer. No condition. -/
import Derived.Deep.CutRange
import Derived.Laws.StructEq
import Derived.Test.YtkjikigimmchlaaGreatDoorIX
import Derived.Test.YtkjikigimmchlaaGreatDoorG3
import Derived.Test.YtkjikigimmchlaaGreatDoorKH
import Derived.Test.YtkjikigimmchlaaGreatDoorPM
namespace Go.Proofs.YtkjikigimmchlaaGreatDoor
open Go.RowKit
def fmS (k g : Int) : Sup := ⟨k, g, 0, 0, 0, false, false, false⟩
def fmtA (k g : Int) : Ans := if (fmS k g).right = true then ⟨fmtL (fmS k g).bytes (bytesM 0) k.toNat, [], 0, false, 0⟩ else ⟨[], [], 0, false, 1⟩
theorem fmS_wide {k g : Int} (h0 : 0 ≤ g) (h1 : g < 18446744073709551616) : (fmS k g).wide := by
  unfold Sup.wide fmS
  dsimp only
  omega
theorem fmS_right {k g : Int} (h : (fmS k g).right = true) : 1 ≤ k ∧ k ≤ 32 := by
  unfold Sup.right fmS at h
  simp only [Bool.and_eq_true, decide_eq_true_eq] at h
  omega
theorem mask_none {N : Nat} (h1 : 1 ≤ N) (h2 : N ≤ 32) : mrightB 0 (((N + 2 : Nat) : Int) - 2) = true := by
  unfold mrightB
  rw [decide_eq_true (by omega), Bool.true_and, decide_eq_true_eq]
  exact Nat.pow_pos (by decide)
set_option maxRecDepth 100000 in
theorem rfmt_any (k g : Int) (w : World) (h0 : 0 ≤ g) (h1 : g < 18446744073709551616) : Calls Tryz.prog 51 #[.int .i64 k, .int .u64 g] w (GivesD (fmtA k g).s (fmtA k g).c (fmtA k g).f (fmtA k g).x (fmtA k g).e w) := by
  have hq := fun v => rencode_any (fmS k g) v (fmS_wide h0 h1)
  unfold Sup.encT Sup.encE at hq
  unfold fmtA
  cases hr : (fmS k g).right with
  | false =>
    rw [if_neg (by simp)]
    simp only [hr, Bool.false_eq_true, if_false] at hq
    exact rfmt_no k g 1 w _ (by decide) hq
  | true =>
    rw [if_pos rfl]
    simp only [hr, if_true] at hq
    obtain ⟨hk1, hk2⟩ := fmS_right hr
    obtain ⟨N, rfl⟩ : ∃ N : Nat, k = (N : Int) := ⟨k.toNat, by omega⟩
    rw [Int.toNat_natCast]
    exact rfmt_go N g w (by omega) _ _ _ hq (fun v => rbput_mask 0 (by decide) v) (fun v => rbseal_mask 0 v)
end Go.Proofs.YtkjikigimmchlaaGreatDoor
namespace Go.Proofs.YtkjikigimmchlaaGreatDoor
open Go.RowKit
structure Sto where
  s : List ByteArray
  c : List Wr
  f : Int
  x : Bool
  b : Sup
  m : Nat
def Sto.zero : Sto := ⟨[], [], 0, false, Sup.zero, 0⟩
def Sup.same (a b : Sup) : Bool := (a.n == b.n) && ((a.c == b.c) && ((a.b == b.b) && ((a.o == b.o) && ((a.p == b.p) && ((a.i == b.i) && ((a.r == b.r) && (a.d == b.d)))))))
theorem Sup.same_iff {a b : Sup} : a.same b = true ↔ a = b := by
  obtain ⟨n, c, b1, o, p, i, r, d⟩ := a
  obtain ⟨n', c', b1', o', p', i', r', d'⟩ := b
  unfold Sup.same
  simp only [Bool.and_eq_true, beq_iff_eq, Sup.mk.injEq]
def attE (s : List ByteArray) (c : List Wr) (x : Bool) : Int :=
  if (loadD s c x (s.getD 0 e0)).2 = 0 then (if (loadB s c x).2 = 0 then (allA s c x).2 else (loadB s c x).2) else (loadD s c x (s.getD 0 e0)).2
def att (s : List ByteArray) (c : List Wr) (f : Int) (x : Bool) : Sto := if attE s c x = 0 then ⟨s, c, f, x, (loadD s c x (s.getD 0 e0)).1, (loadB s c x).1⟩ else Sto.zero
def Sto.on (t : Sto) (a : Ans) (b : Sup) (m : Nat) : Sto := ⟨a.s, a.c, a.f, a.x, if a.e = 0 then b else t.b, if a.e = 0 then m else t.m⟩
def Sto.commit (t : Sto) (b : Sup) : Sto × Int := if b.same t.b = true then (t, 0) else (t.on (commitD t.s t.c t.f t.x b) b t.m, (commitD t.s t.c t.f t.x b).e)
def Sto.save (t : Sto) (k : Nat) : Sto × Int := if k = t.m then (t, 0) else (t.on (saveB t.s t.c t.f t.x k) t.b k, (saveB t.s t.c t.f t.x k).e)
def Sto.note (t : Sto) (k : Nat) : Sto × Int := if k = t.m then (t, 0) else (t.on (noteB t.s t.c t.f t.x k) t.b k, (noteB t.s t.c t.f t.x k).e)
def Sto.out (t : Sto) (i : Int) : Bool := decide (i < 0) || decide (t.b.n ≤ i)
def Sto.mark (t : Sto) (i : Int) : Sto × Int := if t.out i = true then (t, 4) else t.save (setB t.m [i])
def Sto.wipe (t : Sto) (i : Int) : Sto × Int := if t.out i = true then (t, 4) else t.note (clrB t.m [i])
def Sto.join (t : Sto) (k : Nat) : Sto × Int := t.save (uniB [t.m, k])
def Sto.put (t : Sto) (i : Int) (d : ByteArray) : Sto × Int := (t.on (putA t.s t.c t.f t.x i d) t.b t.m, (putA t.s t.c t.f t.x i d).e)
def Sto.read (t : Sto) (i : Int) : ByteArray × Int := readA t.s t.c t.x i
structure FineW (N : Nat) (i : Nat) (d : ByteArray) : Prop where
  zero : i = 0 → ∃ b : Sup, b.wide ∧ b.right = true ∧ b.n = (N : Int) ∧ d = b.bytes
  one : i = 1 → ∃ k : Nat, mrightB k (N : Int) = true ∧ d = bytesM k
  rest : 2 ≤ i → d.size = 8
structure Fine (N : Nat) (s : List ByteArray) (c : List Wr) : Prop where
  n1 : 1 ≤ N
  n32 : N ≤ 32
  len : s.length = N + 2
  fs : ∀ i d, s[i]? = some d → FineW N i d
  fc : ∀ x ∈ c, 0 ≤ x.1 ∧ x.1 < (N : Int) + 2 ∧ FineW N x.1.toNat x.2
theorem mask_small {k N : Nat} (h : mrightB k (N : Int) = true) : k < 4294967296 := by
  unfold mrightB at h
  simp only [Bool.and_eq_true, decide_eq_true_eq] at h
  have := pow_le32 N (by omega)
  have h2 := h.2
  rw [Int.toNat_natCast] at h2
  omega
theorem FineW.small {N i : Nat} {d : ByteArray} (h : FineW N i d) : d.size ≤ 64 := by
  match i, h with
  | 0, h => obtain ⟨b, _, _, _, rfl⟩ := h.zero rfl; rw [bytes_size]; decide
  | 1, h => obtain ⟨k, _, rfl⟩ := h.one rfl; rw [bytesM_size]; decide
  | i + 2, h => rw [h.rest (by omega)]; decide
theorem fine_block {N : Nat} {i : Int} {d : ByteArray} (h0 : 0 ≤ i) (h8 : d.size = 8) : FineW N (i + 2).toNat d := ⟨fun e => by omega, fun e => by omega, fun _ => h8⟩
theorem fine_sup {N : Nat} {b : Sup} (hw : b.wide) (hr : b.right = true) (hn : b.n = (N : Int)) : FineW N 0 b.bytes := ⟨fun _ => ⟨b, hw, hr, hn, rfl⟩, fun e => by omega, fun e => by omega⟩
theorem fine_mask {N k : Nat} (h : mrightB k (N : Int) = true) : FineW N 1 (bytesM k) := ⟨fun e => by omega, fun _ => ⟨k, h, rfl⟩, fun e => by omega⟩
section
variable {N : Nat} {s : List ByteArray} {c : List Wr}
theorem Fine.no (h : Fine N s c) : Fine N s [] := ⟨h.n1, h.n32, h.len, h.fs, fun x hx => by cases hx⟩
theorem Fine.sub {c' : List Wr} (h : Fine N s c) (hs : ∀ x ∈ c', x ∈ c) : Fine N s c' := ⟨h.n1, h.n32, h.len, h.fs, fun x hx => h.fc x (hs x hx)⟩
theorem Fine.more (h : Fine N s c) {i : Int} {d : ByteArray} (h0 : 0 ≤ i) (h1 : i < (N : Int) + 2) (hd : FineW N i.toNat d) : Fine N s (c ++ [(i, d)]) := by
  refine ⟨h.n1, h.n32, h.len, h.fs, fun x hx => ?_⟩
  rcases List.mem_append.1 hx with q | q
  · exact h.fc x q
  · rw [List.mem_singleton] at q
    subst q
    exact ⟨h0, h1, hd⟩
theorem fine_lay : ∀ (c : List Wr) (s : List ByteArray), Fine N s c → Fine N (layL s c) [] := by
  intro c
  induction c with
  | nil => intro s h; exact h
  | cons x c ih =>
    intro s h
    obtain ⟨h0, h1, h2⟩ := h.fc x (List.mem_cons_self ..)
    refine ih (s.set x.1.toNat x.2) ⟨h.n1, h.n32, by rw [List.length_set]; exact h.len, fun i d hi => ?_, fun y hy => h.fc y (List.mem_cons_of_mem _ hy)⟩
    rw [List.getElem?_set] at hi
    split at hi
    · next e =>
      split at hi
      · injection hi with hi
        subst hi; subst e
        exact h2
      · cases hi
    · exact h.fs i d hi
theorem Fine.lay (h : Fine N s c) : Fine N (layL s c) [] := fine_lay c s h
theorem Fine.kept (h : Fine N s c) (l : List Bool) (k : Nat) : Fine N (layL s (keptL c l k)) [] := (h.sub fun x hx => kept_mem c l k x hx).lay
theorem Fine.get (h : Fine N s c) {i : Nat} (hi : i < N + 2) : s[i]? = some (s.getD i e0) := getD_some (by rw [h.len]; exact hi)
theorem Fine.holds (h : Fine N s c) {i : Nat} (hi : i < N + 2) : FineW N i (holdsL c (i : Int) (s.getD i e0)) := by
  rcases holds_one c (i : Int) (s.getD i e0) with e | ⟨x, hx, e1, e2⟩
  · rw [e]; exact h.fs i _ (h.get hi)
  · rw [← e2]
    have := (h.fc x hx).2.2
    rw [e1, Int.toNat_natCast] at this
    exact this
theorem Fine.long (h : Fine N s c) : s.any longS = false := by
  rw [List.any_eq_false]
  intro t ht
  obtain ⟨i, hi⟩ := List.getElem?_of_mem ht
  have := (h.fs i t hi).small
  unfold longS
  simp
  omega
theorem Fine.misfit (h : Fine N s c) : c.any (misfitW s.length) = false := by
  rw [List.any_eq_false]
  intro x hx
  obtain ⟨h0, h1, h2⟩ := h.fc x hx
  have := h2.small
  have hl := h.len
  unfold misfitW longS
  simp
  omega
theorem lay_holds (h : Fine N s c) {i : Nat} (hi : i < N + 2) : (layL s c).getD i e0 = holdsL c (i : Int) (s.getD i e0) := by
  have hlt : i < s.length := by rw [h.len]; exact hi
  have := lay_at c s i hlt (fun x hx => (h.fc x hx).1)
  rw [List.getD_eq_getElem?_getD, this, List.getD_eq_getElem?_getD, List.getElem?_eq_getElem hlt]
  rfl
end
structure Whole (N : Nat) (t : Sto) : Prop where
  fine : Fine N t.s t.c
  live : t.x = false
  f0 : 0 ≤ t.f
  bw : t.b.wide
  br : t.b.right = true
  bn : t.b.n = (N : Int)
  mr : mrightB t.m (N : Int) = true
  h0 : holdsL t.c 0 (t.s.getD 0 e0) = t.b.bytes
  h1 : holdsL t.c 1 (t.s.getD 1 e0) = bytesM t.m
theorem all_fine {N : Nat} {s : List ByteArray} {c : List Wr} (h : Fine N s c) : (allA s c false).2 = 0 := by
  unfold allA
  rw [goL_all]
  intro j hj
  have hl := h.len
  unfold readA
  have ht : thereB s.length (j : Int) = true := by unfold thereB; rw [decide_eq_true (by omega), decide_eq_true (by omega)]; rfl
  have h8 : (blockA s c (j : Int)).size = 8 := by
    have := (h.holds (i := j + 2) (by omega)).rest (by omega)
    unfold blockA
    rw [Int.toNat_natCast]
    simpa using this
  rw [if_pos ht, if_neg (by simp), if_pos h8]
theorem whole_loadD {N : Nat} {t : Sto} (h : Whole N t) : loadD t.s t.c false (t.s.getD 0 e0) = (t.b, 0) := by
  have hl := h.fine.len
  have hn : ((t.s.length : Int) - 2 == t.b.n) = true := by rw [h.bn, hl, beq_iff_eq]; omega
  unfold loadD loadS
  rw [if_neg (by simp), h.h0, dec_bytes t.b h.bw h.br]
  dsimp only
  rw [if_pos rfl, if_pos hn]
theorem whole_mlen {N : Nat} {t : Sto} (h : Whole N t) : mrightB t.m ((t.s.length : Int) - 2) = true := by
  have hl := h.fine.len
  rw [hl, show (((N + 2 : Nat) : Int) - 2) = (N : Int) by omega]
  exact h.mr
theorem whole_loadB {N : Nat} {t : Sto} (h : Whole N t) : loadB t.s t.c false = (t.m, 0) := by
  have hl := h.fine.len
  unfold loadB
  rw [reach_in (by omega) (by omega), if_pos rfl, h.h1]
  exact load_mask (mask_small h.mr) (whole_mlen h)
theorem whole_attE {N : Nat} {t : Sto} (h : Whole N t) : attE t.s t.c false = 0 := by
  unfold attE
  rw [whole_loadD h, whole_loadB h]
  exact all_fine h.fine
theorem whole_att {N : Nat} {t : Sto} (h : Whole N t) : att t.s t.c t.f false = t := by
  unfold att
  rw [whole_attE h, whole_loadD h, whole_loadB h, if_pos rfl, ← h.live]
theorem whole_of {N : Nat} {s : List ByteArray} (h : Fine N s []) {f : Int} (hf : 0 ≤ f) : ∃ b m, Whole N ⟨s, [], f, false, b, m⟩ := by
  have hn := h.n1
  obtain ⟨b, bw, br, bn, hb⟩ := (h.fs 0 _ (h.get (i := 0) (by omega))).zero rfl
  obtain ⟨k, hk, hm⟩ := (h.fs 1 _ (h.get (i := 1) (by omega))).one rfl
  exact ⟨b, k, h, rfl, hf, bw, br, bn, hk, hb, hm⟩
def flushW (s : List ByteArray) (c : List Wr) (f : Int) (y : Wr) : Ans :=
  if f = 1 then ⟨s, c, 0, true, 6⟩ else if f = 2 then ⟨s, c ++ [y], 0, true, 6⟩ else ⟨layL s (c ++ [y]), [], burnF (burnF f), false, 0⟩
def writeW (s : List ByteArray) (c : List Wr) (f : Int) (y : Wr) : Ans := if f = 1 then ⟨s, c, 0, true, 6⟩ else ⟨s, c ++ [y], burnF f, false, 0⟩
theorem burn_low {f : Int} (h : 0 ≤ f) : 0 ≤ burnF f ∧ burnF f ≤ f := by unfold burnF; split <;> (try split) <;> omega
structure Came (N : Nat) (s : List ByteArray) (c : List Wr) (f : Int) (y : Wr) (a : Ans) : Prop where
  fine : Fine N a.s a.c
  f0 : 0 ≤ a.f
  f1 : a.f ≤ f
  len : a.c.length ≤ c.length + 1
  dead : a.x = true → a.e = 6
  live : a.x = false → a.e = 0 ∧ ∀ i : Nat, i < N + 2 → holdsL a.c (i : Int) (a.s.getD i e0) = if y.1 = (i : Int) then y.2 else holdsL c (i : Int) (s.getD i e0)
theorem came_flush {N : Nat} {s : List ByteArray} {c : List Wr} (h : Fine N s c) {f : Int} (hf : 0 ≤ f) {y : Wr} (h0 : 0 ≤ y.1) (h1 : y.1 < (N : Int) + 2) (hd : FineW N y.1.toNat y.2) : Came N s c f y (flushW s c f y) := by
  have hm := h.more h0 h1 hd
  unfold flushW
  by_cases e1 : f = 1
  · rw [if_pos e1]
    exact ⟨h, Int.le_refl _, hf, by simp, fun _ => rfl, fun q => by cases q⟩
  · rw [if_neg e1]
    by_cases e2 : f = 2
    · rw [if_pos e2]
      exact ⟨hm, Int.le_refl _, hf, by simp, fun _ => rfl, fun q => by cases q⟩
    · rw [if_neg e2]
      have b1 := burn_low hf
      have b2 := burn_low b1.1
      refine ⟨hm.lay, b2.1, by show burnF (burnF f) ≤ f; omega, by simp, fun q => (by cases q), fun _ => ⟨rfl, fun i hi => ?_⟩⟩
      show holdsL [] (i : Int) ((layL s (c ++ [y])).getD i e0) = _
      rw [holds_nil, lay_holds hm hi, holds_snoc]
theorem came_write {N : Nat} {s : List ByteArray} {c : List Wr} (h : Fine N s c) {f : Int} (hf : 0 ≤ f) {y : Wr} (h0 : 0 ≤ y.1) (h1 : y.1 < (N : Int) + 2) (hd : FineW N y.1.toNat y.2) : Came N s c f y (writeW s c f y) := by
  have hm := h.more h0 h1 hd
  unfold writeW
  by_cases e1 : f = 1
  · rw [if_pos e1]
    exact ⟨h, Int.le_refl _, hf, by simp, fun _ => rfl, fun q => by cases q⟩
  · rw [if_neg e1]
    have b1 := burn_low hf
    refine ⟨hm, b1.1, b1.2, by simp, fun q => (by cases q), fun _ => ⟨rfl, fun i hi => ?_⟩⟩
    show holdsL (c ++ [y]) (i : Int) (s.getD i e0) = _
    rw [holds_snoc]
structure Goes (N : Nat) (t : Sto) (r : Sto × Int) : Prop where
  fine : Fine N r.1.s r.1.c
  f0 : 0 ≤ r.1.f
  f1 : r.1.f ≤ t.f
  len : r.1.c.length ≤ t.c.length + 1
  bn : r.1.b.n = (N : Int)
  bw : r.1.b.wide
  ml : r.1.m < 4294967296
  dead : r.1.x = true → r.2 = 6
  live : r.1.x = false → Whole N r.1
theorem goes_same {N : Nat} {t : Sto} (h : Whole N t) (e : Int) : Goes N t (t, e) :=
  ⟨h.fine, h.f0, Int.le_refl _, by simp, h.bn, h.bw, mask_small h.mr, fun q => (by have e1 : t.x = true := q; rw [h.live] at e1; cases e1), fun _ => h⟩
theorem on_same {t : Sto} {e : Int} (hx : t.x = false) (he : e ≠ 0) (b : Sup) (m : Nat) : t.on ⟨t.s, t.c, t.f, false, e⟩ b m = t := by
  unfold Sto.on
  simp only [if_neg he]
  rw [← hx]
theorem on_same0 {t : Sto} {e : Int} (hx : t.x = false) : t.on ⟨t.s, t.c, t.f, false, e⟩ t.b t.m = t := by
  unfold Sto.on
  simp only [ite_self]
  rw [← hx]
theorem goes_sup {N : Nat} {t : Sto} (h : Whole N t) {b : Sup} (hw : b.wide) (hr : b.right = true) (hn : b.n = (N : Int)) {a : Ans} (ha : Came N t.s t.c t.f (0, b.bytes) a) : Goes N t (t.on a b t.m, a.e) := by
  have hN := h.fine.n1
  refine ⟨ha.fine, ha.f0, ha.f1, ha.len, ?_, ?_, ?_, ha.dead, fun q => ?_⟩
  · show (if a.e = 0 then b else t.b).n = _
    split
    · exact hn
    · exact h.bn
  · show (if a.e = 0 then b else t.b).wide
    split
    · exact hw
    · exact h.bw
  · show (if a.e = 0 then t.m else t.m) < _
    rw [ite_self]
    exact mask_small h.mr
  · obtain ⟨he, hh⟩ := ha.live q
    have q0 := (hh 0 (by omega)).trans (if_pos rfl)
    have q1 := (hh 1 (by omega)).trans (if_neg (by show ¬ (0 : Int) = ((1 : Nat) : Int); decide))
    have e : t.on a b t.m = ⟨a.s, a.c, a.f, a.x, b, t.m⟩ := by unfold Sto.on; rw [if_pos he, if_pos he]
    show Whole N (t.on a b t.m)
    rw [e]
    exact ⟨ha.fine, q, ha.f0, hw, hr, hn, h.mr, q0, q1.trans h.h1⟩
theorem goes_mask {N : Nat} {t : Sto} (h : Whole N t) {k : Nat} (hk : mrightB k (N : Int) = true) {a : Ans} (ha : Came N t.s t.c t.f (1, bytesM k) a) : Goes N t (t.on a t.b k, a.e) := by
  have hN := h.fine.n1
  refine ⟨ha.fine, ha.f0, ha.f1, ha.len, ?_, ?_, ?_, ha.dead, fun q => ?_⟩
  · show (if a.e = 0 then t.b else t.b).n = _
    rw [ite_self]
    exact h.bn
  · show (if a.e = 0 then t.b else t.b).wide
    rw [ite_self]
    exact h.bw
  · show (if a.e = 0 then k else t.m) < _
    split
    · exact mask_small hk
    · exact mask_small h.mr
  · obtain ⟨he, hh⟩ := ha.live q
    have q0 := (hh 0 (by omega)).trans (if_neg (by show ¬ (1 : Int) = ((0 : Nat) : Int); decide))
    have q1 := (hh 1 (by omega)).trans (if_pos rfl)
    have e : t.on a t.b k = ⟨a.s, a.c, a.f, a.x, t.b, k⟩ := by unfold Sto.on; rw [if_pos he, if_pos he]
    show Whole N (t.on a t.b k)
    rw [e]
    exact ⟨ha.fine, q, ha.f0, h.bw, h.br, h.bn, hk, q0.trans h.h0, q1⟩
theorem goes_block {N : Nat} {t : Sto} (h : Whole N t) {i : Int} {d : ByteArray} (h0 : 0 ≤ i) {a : Ans} (ha : Came N t.s t.c t.f (i + 2, d) a) : Goes N t (t.on a t.b t.m, a.e) := by
  have hN := h.fine.n1
  have e : t.on a t.b t.m = ⟨a.s, a.c, a.f, a.x, t.b, t.m⟩ := by unfold Sto.on; rw [ite_self, ite_self]
  rw [e]
  refine ⟨ha.fine, ha.f0, ha.f1, ha.len, h.bn, h.bw, mask_small h.mr, ha.dead, fun q => ?_⟩
  obtain ⟨he, hh⟩ := ha.live q
  have q0 := (hh 0 (by omega)).trans (if_neg (by show ¬ (i + 2 : Int) = ((0 : Nat) : Int); omega))
  have q1 := (hh 1 (by omega)).trans (if_neg (by show ¬ (i + 2 : Int) = ((1 : Nat) : Int); omega))
  exact ⟨ha.fine, q, ha.f0, h.bw, h.br, h.bn, h.mr, q0.trans h.h0, q1.trans h.h1⟩
theorem goes_commit {N : Nat} {t : Sto} (h : Whole N t) {b : Sup} (hw : b.wide) : Goes N t (t.commit b) := by
  unfold Sto.commit
  by_cases hb : b.same t.b = true
  · rw [if_pos hb]; exact goes_same h 0
  rw [if_neg hb]
  have hl := h.fine.len
  by_cases hq : ((((t.s.length : Int) - 2 == b.n) && b.right) = true)
  · have e : commitD t.s t.c t.f t.x b = flushW t.s t.c t.f (0, b.bytes) := by
      unfold commitD flushW
      rw [if_pos hq, h.live, if_neg (by simp)]
    rw [Bool.and_eq_true, beq_iff_eq] at hq
    have hn : b.n = (N : Int) := by rw [← hq.1, hl]; omega
    have hN := h.fine.n1
    rw [e]
    exact goes_sup h hw hq.2 hn (came_flush h.fine h.f0 (by show (0 : Int) ≤ 0; omega) (by show (0 : Int) < _; omega) (fine_sup hw hq.2 hn))
  · have e : commitD t.s t.c t.f t.x b = ⟨t.s, t.c, t.f, false, 1⟩ := by
      unfold commitD
      rw [if_neg hq, h.live]
    rw [e, on_same h.live (by decide)]
    exact goes_same h 1
theorem goes_save {N : Nat} {t : Sto} (h : Whole N t) (k : Nat) : Goes N t (t.save k) := by
  unfold Sto.save
  by_cases hb : k = t.m
  · rw [if_pos hb]; exact goes_same h 0
  rw [if_neg hb]
  have hl := h.fine.len
  have hN := h.fine.n1
  have en : ((t.s.length : Int) - 2) = (N : Int) := by rw [hl]; omega
  by_cases hq : mrightB k (N : Int) = true
  · have e : saveB t.s t.c t.f t.x k = flushW t.s t.c t.f (1, bytesM k) := by
      unfold saveB flushW
      rw [en, if_pos hq, h.live, if_neg (by simp)]
    rw [e]
    exact goes_mask h hq (came_flush h.fine h.f0 (by show (0 : Int) ≤ 1; omega) (by show (1 : Int) < _; omega) (fine_mask hq))
  · have e : saveB t.s t.c t.f t.x k = ⟨t.s, t.c, t.f, false, 1⟩ := by
      unfold saveB
      rw [en, if_neg hq, h.live]
    rw [e, on_same h.live (by decide)]
    exact goes_same h 1
theorem goes_note {N : Nat} {t : Sto} (h : Whole N t) (k : Nat) : Goes N t (t.note k) := by
  unfold Sto.note
  by_cases hb : k = t.m
  · rw [if_pos hb]; exact goes_same h 0
  rw [if_neg hb]
  have hl := h.fine.len
  have hN := h.fine.n1
  have en : ((t.s.length : Int) - 2) = (N : Int) := by rw [hl]; omega
  by_cases hq : mrightB k (N : Int) = true
  · have e : noteB t.s t.c t.f t.x k = writeW t.s t.c t.f (1, bytesM k) := by
      unfold noteB writeW
      rw [en, if_pos hq, h.live, if_neg (by simp)]
    rw [e]
    exact goes_mask h hq (came_write h.fine h.f0 (by show (0 : Int) ≤ 1; omega) (by show (1 : Int) < _; omega) (fine_mask hq))
  · have e : noteB t.s t.c t.f t.x k = ⟨t.s, t.c, t.f, false, 1⟩ := by
      unfold noteB
      rw [en, if_neg hq, h.live]
    rw [e, on_same h.live (by decide)]
    exact goes_same h 1
theorem goes_mark {N : Nat} {t : Sto} (h : Whole N t) (i : Int) : Goes N t (t.mark i) := by
  unfold Sto.mark
  split
  · exact goes_same h 4
  · exact goes_save h _
theorem goes_wipe {N : Nat} {t : Sto} (h : Whole N t) (i : Int) : Goes N t (t.wipe i) := by
  unfold Sto.wipe
  split
  · exact goes_same h 4
  · exact goes_note h _
theorem goes_join {N : Nat} {t : Sto} (h : Whole N t) (k : Nat) : Goes N t (t.join k) := goes_save h _
theorem goes_put {N : Nat} {t : Sto} (h : Whole N t) (i : Int) (d : ByteArray) : Goes N t (t.put i d) := by
  unfold Sto.put
  have hl := h.fine.len
  by_cases ht : thereB t.s.length i = true
  · obtain ⟨h0, h1⟩ := there_yes ht
    by_cases h8 : d.size = 8
    · have e : putA t.s t.c t.f t.x i d = flushW t.s t.c t.f (i + 2, d) := by
        unfold putA flushW
        rw [if_pos ht, if_pos h8, h.live, if_neg (by simp)]
      rw [e]
      exact goes_block h h0 (came_flush h.fine h.f0 (by show 0 ≤ i + 2; omega) (by show i + 2 < _; omega) (fine_block h0 h8))
    · have e : putA t.s t.c t.f t.x i d = ⟨t.s, t.c, t.f, false, 5⟩ := by
        unfold putA
        rw [if_pos ht, if_neg h8, h.live]
      rw [e, on_same0 h.live]
      exact goes_same h 5
  · have e : putA t.s t.c t.f t.x i d = ⟨t.s, t.c, t.f, false, 4⟩ := by
      unfold putA
      rw [if_neg ht, h.live]
    rw [e, on_same0 h.live]
    exact goes_same h 4
theorem fine_new {N : Nat} (h1 : 1 ≤ N) (h32 : N ≤ 32) {b : Sup} (hw : b.wide) (hr : b.right = true) (hn : b.n = (N : Int)) {k : Nat} (hk : mrightB k (N : Int) = true) : Fine N (fmtL b.bytes (bytesM k) N) [] := by
  refine ⟨h1, h32, fmt_length _ _ _, fun i d hi => ?_, fun x hx => by cases hx⟩
  match i, hi with
  | 0, hi => injection hi with hi; subst hi; exact fine_sup hw hr hn
  | 1, hi => injection hi with hi; subst hi; exact fine_mask hk
  | i + 2, hi =>
    refine ⟨fun e => by omega, fun e => by omega, fun _ => ?_⟩
    have hi2 : (List.replicate N z8)[i]? = some d := hi
    rw [List.getElem?_replicate] at hi2
    split at hi2
    · injection hi2 with hi2
      subst hi2
      rfl
    · cases hi2
end Go.Proofs.YtkjikigimmchlaaGreatDoor
namespace Go.Proofs.YtkjikigimmchlaaGreatDoor
open Go.RowKit
structure Act where
  k : Int
  i : Int
  m : Nat
  d : ByteArray
  b : Sup
def Sto.act (t : Sto) (a : Act) : (Sto × Int) × ByteArray :=
  if a.k = 0 then (t.mark a.i, e0) else if a.k = 1 then (t.wipe a.i, e0) else if a.k = 2 then (t.join a.m, e0) else if a.k = 3 then (t.put a.i a.d, e0) else if a.k = 4 then (t.commit a.b, e0) else ((t, (t.read a.i).2), (t.read a.i).1)
def newS (N : Nat) : Sto := ⟨fmtL (fmS (N : Int) 7).bytes (bytesM 0) N, [], 0, false, fmS (N : Int) 7, 0⟩
theorem right_zero {N : Nat} (h1 : 1 ≤ N) (h2 : N ≤ 32) : mrightB 0 (N : Int) = true := by
  have := mask_none h1 h2
  rw [show (((N + 2 : Nat) : Int) - 2) = (N : Int) by omega] at this
  exact this
theorem fm_right {N : Nat} (h1 : 1 ≤ N) (h2 : N ≤ 32) : (fmS (N : Int) 7).right = true := by
  unfold Sup.right fmS
  rw [decide_eq_true (by show (1 : Int) ≤ (N : Int); omega), decide_eq_true (by show (N : Int) ≤ 32; omega)]
  rfl
theorem fmt_new {N : Nat} (h1 : 1 ≤ N) (h2 : N ≤ 32) : fmtA (N : Int) 7 = ⟨(newS N).s, [], 0, false, 0⟩ := by
  unfold fmtA
  rw [if_pos (fm_right h1 h2), Int.toNat_natCast]
  rfl
theorem whole_new {N : Nat} (h1 : 1 ≤ N) (h2 : N ≤ 32) : Whole N (newS N) := by
  have hw : (fmS (N : Int) 7).wide := fmS_wide (by decide) (by decide)
  exact ⟨fine_new h1 h2 hw (fm_right h1 h2) rfl (right_zero h1 h2), rfl, Int.le_refl _, hw, fm_right h1 h2, rfl, right_zero h1 h2, rfl, rfl⟩
theorem whole_arm {N : Nat} {t : Sto} (h : Whole N t) {f : Int} (hf : 0 ≤ f) : Whole N ⟨t.s, t.c, f, t.x, t.b, t.m⟩ := ⟨h.fine, h.live, hf, h.bw, h.br, h.bn, h.mr, h.h0, h.h1⟩
theorem right_of_bits {N k m : Nat} (h1 : 1 ≤ N) (h2 : N ≤ 32) (hk : k < 4294967296) (hm : mrightB m (N : Int) = true) (h : ∀ j : Nat, (N : Int) ≤ j → j < 32 → m.testBit j = false → k.testBit j = false) : mrightB k (N : Int) = true := by
  rw [right_bits k (N : Int) hk (by omega) (by omega)]
  intro j h3 h4
  exact h j h3 h4 ((right_bits m (N : Int) (mask_small hm) (by omega) (by omega)).1 hm j h3 h4)
theorem right_clr {N m : Nat} {i : Int} (h1 : 1 ≤ N) (h2 : N ≤ 32) (hm : mrightB m (N : Int) = true) : mrightB (clrB m [i]) (N : Int) = true := by
  refine right_of_bits h1 h2 (clrB_lt (mask_small hm) _) hm fun j h3 h4 h5 => ?_
  rw [clrB_bit _ _ _ (mask_small hm), h5]
  rfl
theorem clr_or {m a : Nat} {i : Int} (hm : m < 4294967296) (h : m ||| a = a) : clrB m [i] ||| a = a := by
  refine Nat.eq_of_testBit_eq fun j => ?_
  have hj := congrArg (fun q => q.testBit j) h
  simp only [Nat.testBit_or] at hj
  rw [Nat.testBit_or, clrB_bit _ _ _ hm]
  cases h1 : m.testBit j
  · simp
  · rw [h1, Bool.true_or] at hj
    rw [← hj]
    simp
theorem kept_no_keeps (c : List Wr) (k : Nat) : keptL c [] k = [] := by
  induction k with
  | zero => rfl
  | succ k ih => rw [kept_no rfl, ih]
theorem sure_again {N : Nat} {t t' : Sto} (h : Whole N t) (hf : t.f = 0) (hc : t.c = []) (hs : t'.s = t.s) : layL t'.s (keptL t'.c [] t'.c.length) = t.s ∧ attE t.s [] false = 0 ∧ att t.s [] 0 false = t := by
  refine ⟨by rw [kept_no_keeps, lay_nil, hs], ?_, ?_⟩
  · have := whole_attE h
    rw [hc] at this
    exact this
  · have := whole_att h
    rw [hc, hf] at this
    exact this
theorem kept_again {N : Nat} {t : Sto} (h : Fine N t.s t.c) (l : List Bool) : ∃ t', Whole N t' ∧ t'.s = layL t.s (keptL t.c l t.c.length) ∧ t'.c = [] ∧ t'.f = 0 ∧ attE t'.s [] false = 0 ∧ att t'.s [] 0 false = t' := by
  obtain ⟨b, m, hw⟩ := whole_of (h.kept l t.c.length) (f := 0) (Int.le_refl _)
  exact ⟨_, hw, rfl, rfl, rfl, whole_attE hw, whole_att hw⟩
end Go.Proofs.YtkjikigimmchlaaGreatDoor
namespace Go.Proofs.YtkjikigimmchlaaGreatDoor
open Go.RowKit
structure Fit (s : List ByteArray) (c : List Wr) (f : Int) : Prop where
  l1 : 1 ≤ s.length
  l64 : s.length ≤ 64
  c9 : c.length ≤ 900
  mis : c.any (misfitW s.length) = false
  long : s.any longS = false
  fu : f < 9223372036854775808
theorem Fit.hold {s : List ByteArray} {c : List Wr} {f : Int} (h : Fit s c f) (i : Int) (j : Nat) : ((holdsL c i (s.getD j e0)).size : Int) ≤ 3000 := by
  have h2 : (s.getD j e0).size ≤ 64 := by
    rw [List.getD_eq_getElem?_getD]
    cases hj : s[j]? with
    | none => show (e0 : ByteArray).size ≤ 64; decide
    | some t => exact long_small h.long t (List.mem_of_getElem? hj)
  have := holds_small (i := i) (misfit_small h.mis) h2
  omega
theorem Fit.first {s : List ByteArray} {c : List Wr} {f : Int} (h : Fit s c f) : s[0]? = some (s.getD 0 e0) := getD_some (by have := h.l1; omega)
theorem Fine.fit {N : Nat} {s : List ByteArray} {c : List Wr} {f : Int} (h : Fine N s c) (hc : c.length ≤ 900) (hf : f < 9223372036854775808) : Fit s c f := by
  have hl := h.len
  have h32 := h.n32
  exact ⟨by omega, by omega, hc, h.misfit, h.long, hf⟩
@[reducible] def stV (sn : Nat) (cn : Nat) (f : Int) (x : Bool) (b : Sup) (k : Nat) (A : Option Addr) (n : Nat) (B : Option Addr) (m : Nat) : Value :=
  .agg #[.slice A sn n, .slice B cn m, .int .i64 f, .bool x, .int .i64 b.n, .int .u64 b.c, .int .u64 b.b, .int .u64 b.o, .int .u64 b.p, .bool b.i, .bool b.r, .bool b.d, .int .u32 k]
@[reducible] def toV (t : Sto) (A : Option Addr) (n : Nat) (B : Option Addr) (m : Nat) : Value := stV t.s.length t.c.length t.f t.x t.b t.m A n B m
def GivesS (t : Sto) (r : Int) (w : World) (e : Ending) (w' : World) : Prop :=
  ∃ A n B m, e = .returned (.tuple #[toV t A n B m, .int .i64 r]) ∧ Mem w' A n B m t.s t.c ∧ Below w.heap.size w w'
def setL (w : World) (b : Nat) : Nat → List Value → World
  | _, [] => w
  | j, v :: l => setL (w.setCell ⟨b, j, none⟩ v) b (j + 1) l
def putL : List Value → Nat → List Value → List Value
  | vs, _, [] => vs
  | vs, j, v :: l => putL (vs.set j v) (j + 1) l
theorem Box.setL {b : Nat} : ∀ (l : List Value) (j : Nat) {w : World} {vs : List Value}, Box w b vs → Box (Go.Proofs.YtkjikigimmchlaaGreatDoor.setL w b j l) b (putL vs j l)
  | [], _, _, _, h => h
  | v :: l, j, _, _, h => Box.setL l (j + 1) (h.set j v)
theorem Held.setL {W0 : World} {L : List (Nat × List Value)} {M : List (Nat × Nat)} {b : Nat} (hb : ∃ n, (b, n) ∈ M) : ∀ (l : List Value) (j : Nat) {w : World}, Held W0 L M w → Held W0 L M (Go.Proofs.YtkjikigimmchlaaGreatDoor.setL w b j l)
  | [], _, _, h => h
  | v :: l, j, _, h => Held.setL hb l (j + 1) (h.set hb j v)
theorem Below.setL {D b : Nat} {W0 : World} (hb : D ≤ b) : ∀ (l : List Value) (j : Nat) {w : World}, Below D W0 w → Below D W0 (Go.Proofs.YtkjikigimmchlaaGreatDoor.setL w b j l)
  | [], _, _, h => h
  | v :: l, j, _, h => Below.setL hb l (j + 1) (h.setCell (p := ⟨b, j, none⟩) hb v)
theorem Mem.setL {A B : Option Addr} {n m b : Nat} {s : List ByteArray} {c : List Wr} : ∀ (l : List Value) (j : Nat) {w : World} {vs : List Value}, Mem w A n B m s c → Box w b vs → NoText vs → NoText l → Mem (Go.Proofs.YtkjikigimmchlaaGreatDoor.setL w b j l) A n B m s c
  | [], _, _, _, h, _, _, _ => h
  | v :: l, j, _, _, h, hx, hv, hl => Mem.setL l (j + 1) (h.set hx hv j v) (hx.set j v) (hv.set j v fun t e => hl 0 t (by rw [e]; rfl)) fun i t e => hl (i + 1) t e
theorem NoText.cons {v : Value} {l : List Value} (hv : ∀ t, v ≠ .string t) (h : NoText l) : NoText (v :: l) := by
  intro i t e
  match i, e with
  | 0, e => injection e with e; exact hv t e
  | i + 1, e => exact h i t e
end Go.Proofs.YtkjikigimmchlaaGreatDoor
namespace Go.Proofs.YtkjikigimmchlaaGreatDoor
open Go.RowKit
set_option maxRecDepth 100000 in
set_option maxHeartbeats 4000000 in
theorem rzread_any (A B : Option Addr) (n m : Nat) (s : List ByteArray) (c : List Wr) (f : Int) (x : Bool) (b : Sup) (k : Nat) (i : Int) (w : World) (hm : Mem w A n B m s c) (hF : Fit s c f) : Calls Tryz.prog 137 #[.agg #[.slice A s.length n, .slice B c.length m, .int .i64 f, .bool x, .int .i64 b.n, .int .u64 b.c, .int .u64 b.b, .int .u64 b.o, .int .u64 b.p, .bool b.i, .bool b.r, .bool b.d, .int .u32 k], .int .i64 i] w fun e w' => e = .returned (.tuple #[.string (readA s c x i).1, .int .i64 (readA s c x i).2]) ∧ Below w.heap.size w w' := by
  have HR := Lib.hid (fun (v : World) (hb : Below w.heap.size w v) => raread_any A B n m s c f x i v (hm.up hb) hF.l64 (by have := hF.c9; omega))
  generalize readA s c x i = R at *
  have H0 := Lib.hid ((Held.refl w).lay [.slice A s.length n, .slice B c.length m, .int .i64 f, .bool x, .int .i64 b.n, .int .u64 b.c, .int .u64 b.b, .int .u64 b.o, .int .u64 b.p, .bool b.i, .bool b.r, .bool b.d, .int .u32 k] 39)
  have kl := H0.out.b0.cell
  go_enter Tryz.func137, Tryz.ntmps137
  go_wp2_with fail
  refine (HR.out _ H0.out.below).mono ?_
  rintro e w1 ⟨rfl, hb⟩
  have H1 := Lib.hid (H0.out.up hb)
  clear hb kl H0
  go_wp2_with fail
  go_ret2
  exact ⟨rfl, H1.out.below⟩
end Go.Proofs.YtkjikigimmchlaaGreatDoor
namespace Go.Proofs.YtkjikigimmchlaaGreatDoor
open Go.RowKit PX
section
variable {w : World} {F : Value → S → World → Prop} {R' : Ending → World → Prop} {K : World → Prop} {t : Tree} {f : FuncId} {args : Array Value}
theorem t_s {bo rows : List Nat} {s : Sto} {e : Int} (hc : ∀ u, K u → Calls Tryz.prog f args u (GivesS s e u)) (h : ∀ A k B m, OK ⟨Tryz.prog, tyL, w, bo, rows⟩ F (t.nv (.tuple #[toV s A k B m, .int .i64 e])) fun u => K u ∧ Mem u A k B m s.s s.c) (hd : t.hd = .call (.fn f) args.toList := by kernel_rfl) : OK ⟨Tryz.prog, tyL, w, bo, rows⟩ F t K :=
  t_call (fun u hu _ => hc u hu) (fun u e u' hu hb hr => by
    obtain ⟨A, k, B, m, he, h1, h3⟩ := hr
    exact ⟨_, _, he, h3, st_mem _ _ _ _ _ _, h1, h A k B m⟩) hd
theorem e_s {s : Sto} {r : Int} (A B : Option Addr) (n m : Nat) (h : ∀ u, K u → Mem u A n B m s.s s.c) (hd : t.hd = .ret (.tuple #[toV s A n B m, .int .i64 r]) := by kernel_rfl) : OK ⟨Tryz.prog, tyL, w, [], []⟩ (fun v _ u => GivesS s r w (.returned v) u) t K :=
  t_ret _ (fun u hu hb _ => ⟨A, n, B, m, rfl, h u hu, base_below hb⟩) hd
end
end Go.Proofs.YtkjikigimmchlaaGreatDoor
