/- Links: what Open, Close, Idle, Great and Same of the document answer. Under: lists of up to a million texts, for Same. -/
import Derived.Test.YtabenngcmpjlhaaGreatDoorBase
import Derived.Laws.AppendOwnNone
import Derived.Test.YtabenngcmpjlhaaGreatDoorKA
namespace Go.Proofs.YtabenngcmpjlhaaGreatDoor
open Go.RowKit
def Ws (w : World) (D : Nat) (A : Option Addr) (l : List (Int × ByteArray)) : Prop :=
  ∀ j x, l[j]? = some x → ∃ a, A = some a ∧ a.block < D ∧ w.cell? (a.add (j * 2)) = some (.int .i64 x.1) ∧ w.cell? ⟨(a.add (j * 2)).block, (a.add (j * 2)).off + 1, none⟩ = some (.string x.2)
theorem ws_nil (w : World) (D : Nat) (A : Option Addr) : Ws w D A [] := by intro j x h; simp at h
theorem Ws.below {w w' : World} {D D' : Nat} {A : Option Addr} {l : List (Int × ByteArray)} (h : Ws w D A l) (hb : Below D w w') (hD : D ≤ D') : Ws w' D' A l := by
  intro j x hj
  obtain ⟨a, ha, hlt, hc, hd⟩ := h j x hj
  exact ⟨a, ha, by omega, (hb.cell (p := a.add (j * 2)) (by rw [add_block]; exact hlt)).trans hc, (hb.cell (p := ⟨(a.add (j * 2)).block, (a.add (j * 2)).off + 1, none⟩) (by show (a.add (j * 2)).block < D; rw [add_block]; exact hlt)).trans hd⟩
theorem tooLong_any (s : ByteArray) (w : World) : Calls Tryz.prog 231 #[.string s] w fun e w' => e = .returned (.bool (decide (64 < (s.size : Int)))) ∧ w' = w := by
  go_enter Tryz.func231, Tryz.ntmps231
  go_wp2
  go_ret
  exact ⟨rfl, rfl⟩
def longS (s : ByteArray) : Bool := decide (64 < (s.size : Int))
def misfitW (n : Nat) (x : Int × ByteArray) : Bool := decide (x.1 < 0) || decide ((n : Int) ≤ x.1) || longS x.2
end Go.Proofs.YtabenngcmpjlhaaGreatDoor
namespace Go.Proofs.YtabenngcmpjlhaaGreatDoor
open Go.RowKit
theorem toList_inj {x y : ByteArray} (h : x.toList = y.toList) : x = y := by
  rw [ByteArray.toList_eq, ByteArray.toList_eq] at h
  obtain ⟨⟨a⟩⟩ := x
  obtain ⟨⟨b⟩⟩ := y
  simp only at h
  rw [h]
theorem text_eq (x y : ByteArray) : (x.toList == y.toList) = decide (x = y) := by
  by_cases h : x = y
  · subst h; simp
  · rw [decide_eq_false h]
    exact beq_eq_false_iff_ne.2 fun e => h (toList_inj e)
theorem wr_struct : Tryz.prog.underlying 123 = some (.struct (Tryz.prog.fieldsOf 123)) := by kernel_rfl
theorem wr_held : Tryz.prog.stoodInHeld 123 = false := by kernel_rfl
theorem wr_guard : Tryz.prog.eqGuardType Tryz.prog.depth 123 = false := by kernel_rfl
theorem wr_neq (x y : Int × ByteArray) (w : World) : (binOp .neq 123 (.agg #[.int .i64 x.1, .string x.2]) (.agg #[.int .i64 y.1, .string y.2])).run Tryz.prog w = .ok (.bool (!decide (x = y))) w := by
  have u3 := Tryz.underlying3
  have u9 := Tryz.underlying9
  have a3 := Tryz.isAgg3
  have z3 := Tryz.sizeOf3
  have a9 := Tryz.isAgg9
  have z9 := Tryz.sizeOf9
  rw [run_neq_struct, show (10000 : Nat) = 9999 + 1 from rfl, run_equalIn_agg w 9999 123 _ _ wr_struct wr_held]
  simp only [Program.fieldsOf, Tryz.underlying123]
  go_simp
  obtain ⟨a, s⟩ := x
  obtain ⟨b, t⟩ := y
  by_cases h1 : a = b
  · by_cases h2 : s = t
    · simp [h1, h2]
    · have h3 : ¬ s.toList = t.toList := fun e => h2 (toList_inj e)
      simp [h1, h2, h3]
  · simp [h1]
theorem eq_take_step {α : Type} {l1 l2 : List α} {k : Nat} (h1 : k < l1.length) (h2 : k < l2.length) (h : l1.take k = l2.take k) (he : l1[k] = l2[k]) : l1.take (k + 1) = l2.take (k + 1) := by
  rw [take_snoc l1 k h1, take_snoc l2 k h2, h, he]
theorem eq_take_no {α : Type} {l1 l2 : List α} {k : Nat} (h1 : k < l1.length) (h2 : k < l2.length) (he : l1[k] ≠ l2[k]) : l1 ≠ l2 := by
  intro h; subst h; exact he rfl
theorem eq_take_yes {α : Type} {l1 l2 : List α} (hl : l1.length = l2.length) (h : l1.take l1.length = l2.take l1.length) : l1 = l2 := by
  rw [List.take_length, hl, List.take_length] at h; exact h
end Go.Proofs.YtabenngcmpjlhaaGreatDoor
namespace Go.Proofs.YtabenngcmpjlhaaGreatDoor
open Go.RowKit
def burnF (f : Int) : Int := if 1 < f then f - 1 else if f = 1 then 0 else f
def burnD (f : Int) (x : Bool) : Bool := if f = 1 then true else x
set_option maxHeartbeats 400000 in
theorem crash_any (A B : Option Addr) (n1 n2 m1 m2 : Nat) (f : Int) (x : Bool) (w : World) :
    Calls Tryz.prog 191 #[.agg #[.slice A n1 n2, .slice B m1 m2, .int .i64 f, .bool x]] w fun e w' => e = .returned (.agg #[.slice A n1 n2, .slice B m1 m2, .int .i64 0, .bool true]) ∧ Below w.heap.size w w' := by
  go_enter Tryz.func191, Tryz.ntmps191
  go_wp2
  refine bodyPost_ret (v := .agg #[.slice A n1 n2, .slice B m1 m2, .int .i64 0, .bool true]) (by simp [results, Tryz.results191, go_sem]) rfl ⟨rfl, ?_⟩
  exact ext_alloc (ext_alloc (Below.refl _ _) _) _
set_option maxHeartbeats 400000 in
theorem rcrash_any (A B : Option Addr) (n1 n2 m1 m2 : Nat) (f : Int) (x : Bool) (w : World) :
    Calls Tryz.prog 190 #[.agg #[.slice A n1 n2, .slice B m1 m2, .int .i64 f, .bool x]] w fun e w' => e = .returned (.agg #[.slice A n1 n2, .slice B m1 m2, .int .i64 0, .bool true]) ∧ Below w.heap.size w w' := by
  go_enter Tryz.func190, Tryz.ntmps190
  go_wp2
  refine bodyPost_ret (v := .agg #[.slice A n1 n2, .slice B m1 m2, .int .i64 0, .bool true]) (by simp [results, Tryz.results190, go_sem]) rfl ⟨rfl, ?_⟩
  exact ext_alloc (ext_alloc (Below.refl _ _) _) _
set_option maxHeartbeats 1000000 in
theorem burn_any (A B : Option Addr) (n1 n2 m1 m2 : Nat) (f : Int) (x : Bool) (w : World) (hf : f < 9223372036854775808) :
    Calls Tryz.prog 232 #[.agg #[.slice A n1 n2, .slice B m1 m2, .int .i64 f, .bool x]] w fun e w' => e = .returned (.agg #[.slice A n1 n2, .slice B m1 m2, .int .i64 (burnF f), .bool (burnD f x)]) ∧ Below w.heap.size w w' := by
  unfold burnF burnD
  by_cases h1 : f = 1
  · subst h1
    go_enter Tryz.func232, Tryz.ntmps232
    go_wp2
    refine bodyPost_ret (v := .agg #[.slice A n1 n2, .slice B m1 m2, .int .i64 0, .bool true]) (by simp [results, Tryz.results232, go_sem]) rfl ⟨rfl, ?_⟩
    exact ext_alloc (ext_alloc (ext_alloc (ext_alloc (Below.refl _ _) _) _) _) _
  · by_cases h2 : 1 < f
    · rw [if_neg h1, if_pos h2]
      have hb : (f == 1) = false := beq_eq_false_iff_ne.2 h1
      clear h1
      go_enter Tryz.func232, Tryz.ntmps232
      go_wp2
      refine bodyPost_ret (v := .agg #[.slice A n1 n2, .slice B m1 m2, .int .i64 (f - 1), .bool x]) (by simp [results, Tryz.results232, go_sem]) rfl ⟨rfl, ?_⟩
      exact ext_alloc (ext_alloc (Below.refl _ _) _) _
    · rw [if_neg h1, if_neg h2, if_neg h1]
      have hb : (f == 1) = false := beq_eq_false_iff_ne.2 h1
      clear h1
      go_enter Tryz.func232, Tryz.ntmps232
      go_wp2
      refine bodyPost_ret (v := .agg #[.slice A n1 n2, .slice B m1 m2, .int .i64 f, .bool x]) (by simp [results, Tryz.results232, go_sem]) rfl ⟨rfl, ?_⟩
      exact ext_alloc (ext_alloc (Below.refl _ _) _) _
set_option maxHeartbeats 1000000 in
theorem rburn_any (A B : Option Addr) (n1 n2 m1 m2 : Nat) (f : Int) (x : Bool) (w : World) (hf : f < 9223372036854775808) :
    Calls Tryz.prog 238 #[.agg #[.slice A n1 n2, .slice B m1 m2, .int .i64 f, .bool x]] w fun e w' => e = .returned (.agg #[.slice A n1 n2, .slice B m1 m2, .int .i64 (burnF f), .bool (burnD f x)]) ∧ Below w.heap.size w w' := by
  unfold burnF burnD
  by_cases h1 : f = 1
  · subst h1
    go_enter Tryz.func238, Tryz.ntmps238
    go_wp2
    refine bodyPost_ret (v := .agg #[.slice A n1 n2, .slice B m1 m2, .int .i64 0, .bool true]) (by simp [results, Tryz.results238, go_sem]) rfl ⟨rfl, ?_⟩
    exact ext_alloc (ext_alloc (Below.refl _ _) _) _
  · by_cases h2 : 1 < f
    · rw [if_neg h1, if_pos h2]
      have hb : (f == 1) = false := beq_eq_false_iff_ne.2 h1
      have h0 : 0 < f := by omega
      clear h1
      go_enter Tryz.func238, Tryz.ntmps238
      go_wp2
      refine bodyPost_ret (v := .agg #[.slice A n1 n2, .slice B m1 m2, .int .i64 (f - 1), .bool x]) (by simp [results, Tryz.results238, go_sem]) rfl ⟨rfl, ?_⟩
      exact ext_alloc (ext_alloc (Below.refl _ _) _) _
    · rw [if_neg h1, if_neg h2, if_neg h1]
      have hb : (f == 1) = false := beq_eq_false_iff_ne.2 h1
      have h0 : ¬ 0 < f := by omega
      clear h1
      go_enter Tryz.func238, Tryz.ntmps238
      go_wp2
      refine bodyPost_ret (v := .agg #[.slice A n1 n2, .slice B m1 m2, .int .i64 f, .bool x]) (by simp [results, Tryz.results238, go_sem]) rfl ⟨rfl, ?_⟩
      exact ext_alloc (ext_alloc (Below.refl _ _) _) _
set_option maxHeartbeats 400000 in
theorem rarm_any (A B : Option Addr) (n1 n2 m1 m2 : Nat) (f n : Int) (x : Bool) (w : World) :
    Calls Tryz.prog 28 #[.agg #[.slice A n1 n2, .slice B m1 m2, .int .i64 f, .bool x], .int .i64 n] w fun e w' => e = .returned (.agg #[.slice A n1 n2, .slice B m1 m2, .int .i64 (if n < 0 then 0 else n), .bool x]) ∧ Below w.heap.size w w' := by
  by_cases hn : n < 0
  · rw [if_pos hn]
    go_enter Tryz.func28, Tryz.ntmps28
    go_wp2
    refine bodyPost_ret (v := .agg #[.slice A n1 n2, .slice B m1 m2, .int .i64 0, .bool x]) (by simp [results, Tryz.results28, go_sem]) rfl ⟨rfl, ?_⟩
    exact ext_alloc (ext_alloc (Below.refl _ _) _) _
  · rw [if_neg hn]
    go_enter Tryz.func28, Tryz.ntmps28
    go_wp2
    refine bodyPost_ret (v := .agg #[.slice A n1 n2, .slice B m1 m2, .int .i64 n, .bool x]) (by simp [results, Tryz.results28, go_sem]) rfl ⟨rfl, ?_⟩
    exact ext_alloc (ext_alloc (Below.refl _ _) _) _
def reachE (n : Nat) (i : Int) (x : Bool) : Int := if x = true then 6 else if i < 0 then 4 else if (n : Int) ≤ i then 4 else 0
set_option maxHeartbeats 400000 in
theorem reach_any (A B : Option Addr) (n1 n2 m1 m2 : Nat) (f i : Int) (x : Bool) (w : World) :
    Calls Tryz.prog 206 #[.agg #[.slice A n1 n2, .slice B m1 m2, .int .i64 f, .bool x], .int .i64 i] w fun e w' => e = .returned (.int .i64 (reachE n1 i x)) ∧ Below w.heap.size w w' := by
  unfold reachE
  cases x with
  | true =>
    rw [if_pos rfl]
    go_enter Tryz.func206, Tryz.ntmps206
    go_wp2
    go_ret
    exact ⟨rfl, ext_alloc (Below.refl _ _) _⟩
  | false =>
    rw [if_neg (by simp)]
    by_cases h0 : i < 0
    · rw [if_pos h0]
      go_enter Tryz.func206, Tryz.ntmps206
      go_wp2
      go_ret
      exact ⟨rfl, ext_alloc (Below.refl _ _) _⟩
    · rw [if_neg h0]
      by_cases h1 : (n1 : Int) ≤ i
      · rw [if_pos h1]
        go_enter Tryz.func206, Tryz.ntmps206
        go_wp2
        go_ret
        exact ⟨rfl, ext_alloc (Below.refl _ _) _⟩
      · rw [if_neg h1]
        go_enter Tryz.func206, Tryz.ntmps206
        go_wp2
        go_ret
        exact ⟨rfl, ext_alloc (Below.refl _ _) _⟩
theorem info9 : (Tryz.prog.info? 9).map (fun i => (i.zero, i.size, i.bytes)) = some (some (.string ⟨#[]⟩), 1, 16) := by kernel_rfl
theorem info45 : (Tryz.prog.info? 123).map (fun i => (i.zero, i.size, i.bytes)) = some (some (.agg #[.int .i64 0, .string ⟨#[]⟩]), 2, 24) := by kernel_rfl
def Ty (w : World) (A : Option Addr) (T : TypeId) : Prop := ∀ a, A = some a → ∃ cs fr, w.heap[a.block]? = some (.cells cs T fr)
theorem ty_none (w : World) (T : TypeId) : Ty w none T := fun _ h => by cases h
theorem Ty.up {w w' : World} {A : Option Addr} {T : TypeId} (h : Ty w A T) (hb : Below w.heap.size w w') : Ty w' A T := fun a ha => by
  obtain ⟨cs, fr, hc⟩ := h a ha
  exact ⟨cs, fr, by rw [hb.block _ (Array.getElem?_eq_some_iff.1 hc).1]; exact hc⟩
theorem Ty.set {w : World} {A : Option Addr} {T : TypeId} (h : Ty w A T) (p : Addr) (v : Value) : Ty (w.setCell p v) A T := fun a ha => by
  obtain ⟨cs, fr, hc⟩ := h a ha
  by_cases e : a.block = p.block
  · refine ⟨if p.spot.isSome then cs else cs.setIfInBounds p.off v, fr, ?_⟩
    rw [e] at hc ⊢
    simp [World.setCell, Array.getElem?_modify, hc]
  · exact ⟨cs, fr, by rw [Below.heap_setCell _ _ _ _ e]; exact hc⟩
theorem own_ty {w : World} {base size n : Nat} {e : TypeId} {A : Option Addr} {len cap : Nat} {xs : List Value} (h : w.ownsRow base e size (.slice A len cap) n xs) : Ty w A e := fun a ha => by
  rcases h.2 with ⟨hn, _⟩ | ⟨g, c, cur, hv, _, hg, _⟩
  · injection hn with h1
    rw [ha] at h1
    cases h1
  · injection hv with h1
    rw [ha] at h1
    injection h1 with h1
    subst h1
    exact ⟨cur, _, hg⟩
theorem Ty.ne {w : World} {A : Option Addr} {T T' : TypeId} {a : Addr} {b : Nat} {cs : Array Value} {fr : Nat × Nat} (h : Ty w A T) (ha : A = some a) (hb : w.heap[b]? = some (.cells cs T' fr)) (hne : T ≠ T') : a.block ≠ b := fun e => by
  obtain ⟨c2, f2, h2⟩ := h a ha
  rw [e, hb] at h2
  injection h2 with h2
  injection h2 with _ h2
  exact hne h2.symm
structure Mem (w : World) (A : Option Addr) (n : Nat) (B : Option Addr) (m : Nat) (s : List ByteArray) (c : List (Int × ByteArray)) : Prop where
  es : Es Value.string w w.heap.size A s
  ws : Ws w w.heap.size B c
  an : A = none → n = 0
  bn : B = none → m = 0
  ta : Ty w A 9
  tb : Ty w B 123
theorem Mem.up {w w' : World} {A B : Option Addr} {n m : Nat} {s : List ByteArray} {c : List (Int × ByteArray)} (h : Mem w A n B m s c) (hb : Below w.heap.size w w') : Mem w' A n B m s c :=
  ⟨h.es.below hb hb.size, h.ws.below hb hb.size, h.an, h.bn, h.ta.up hb, h.tb.up hb⟩
theorem mem_nil (w : World) : Mem w none 0 none 0 [] [] := ⟨es_nil _ _ _ _, ws_nil _ _ _, fun _ => rfl, fun _ => rfl, ty_none _ _, ty_none _ _⟩
def GivesD (s : List ByteArray) (c : List (Int × ByteArray)) (f : Int) (x : Bool) (r : Int) (w : World) (e : Ending) (w' : World) : Prop :=
  ∃ A B n m, e = .returned (.tuple #[.agg #[.slice A s.length n, .slice B c.length m, .int .i64 f, .bool x], .int .i64 r]) ∧ Mem w' A n B m s c ∧ Below w.heap.size w w'
end Go.Proofs.YtabenngcmpjlhaaGreatDoor
namespace Go.Proofs.YtabenngcmpjlhaaGreatDoor
open Go.RowKit
theorem Ws.up {w w' : World} {A : Option Addr} {l : List (Int × ByteArray)} (h : Ws w w.heap.size A l) (hb : Below w.heap.size w w') : Ws w' w'.heap.size A l := h.below hb hb.size
theorem misfit_no {n : Nat} {x : Int × ByteArray} (h0 : ¬ x.1 < 0) (h1 : ¬ (n : Int) ≤ x.1) (h2 : ¬ 64 < (x.2.size : Int)) : misfitW n x = false := by
  unfold misfitW longS; rw [decide_eq_false h0, decide_eq_false h1, decide_eq_false h2]; rfl
end Go.Proofs.YtabenngcmpjlhaaGreatDoor
namespace Go.Proofs.YtabenngcmpjlhaaGreatDoor
open Go.RowKit
def sameB (s1 s2 : List ByteArray) (c1 c2 : List (Int × ByteArray)) (f1 f2 : Int) (x1 x2 : Bool) : Bool := decide (s1 = s2) && decide (c1 = c2) && (f1 == f2) && (x1 == x2)
theorem same_no1 {s1 s2 : List ByteArray} {c1 c2 : List (Int × ByteArray)} {f1 f2 : Int} {x1 x2 : Bool} (h : s1 ≠ s2) : sameB s1 s2 c1 c2 f1 f2 x1 x2 = false := by unfold sameB; rw [decide_eq_false h]; rfl
theorem same_no2 {s1 s2 : List ByteArray} {c1 c2 : List (Int × ByteArray)} {f1 f2 : Int} {x1 x2 : Bool} (h : c1 ≠ c2) : sameB s1 s2 c1 c2 f1 f2 x1 x2 = false := by unfold sameB; rw [decide_eq_false h, Bool.and_false]; rfl
theorem same_no3 {s1 s2 : List ByteArray} {c1 c2 : List (Int × ByteArray)} {f1 f2 : Int} {x1 x2 : Bool} (h : (f1 == f2) = false) : sameB s1 s2 c1 c2 f1 f2 x1 x2 = false := by unfold sameB; rw [h, Bool.and_false]; rfl
theorem same_no4 {s1 s2 : List ByteArray} {c1 c2 : List (Int × ByteArray)} {f1 f2 : Int} {x1 x2 : Bool} (h : (x1 == x2) = false) : sameB s1 s2 c1 c2 f1 f2 x1 x2 = false := by unfold sameB; rw [h, Bool.and_false]
theorem same_yes {s1 s2 : List ByteArray} {c1 c2 : List (Int × ByteArray)} {f1 f2 : Int} {x1 x2 : Bool} (h1 : s1 = s2) (h2 : c1 = c2) (h3 : (f1 == f2) = true) (h4 : (x1 == x2) = true) : sameB s1 s2 c1 c2 f1 f2 x1 x2 = true := by
  unfold sameB; rw [decide_eq_true h1, decide_eq_true h2, h3, h4]; rfl
set_option maxRecDepth 100000 in
set_option maxHeartbeats 2000000 in
theorem rsame_any (A1 B1 A2 B2 : Option Addr) (n1 m1 n2 m2 : Nat) (s1 s2 : List ByteArray) (c1 c2 : List (Int × ByteArray)) (f1 f2 : Int) (x1 x2 : Bool) (w : World)
    (hs1 : Es Value.string w w.heap.size A1 s1) (hc1 : Ws w w.heap.size B1 c1) (hs2 : Es Value.string w w.heap.size A2 s2) (hc2 : Ws w w.heap.size B2 c2)
    (ms1 : s1.length ≤ maxLen) (mc1 : c1.length ≤ maxLen) :
    Calls Tryz.prog 108 #[.agg #[.slice A1 s1.length n1, .slice B1 c1.length m1, .int .i64 f1, .bool x1], .agg #[.slice A2 s2.length n2, .slice B2 c2.length m2, .int .i64 f2, .bool x2]] w
      fun e w' => e = .returned (.bool (sameB s1 s2 c1 c2 f1 f2 x1 x2)) ∧ Below w.heap.size w w' := by
  unfold maxLen at ms1 mc1
  have hgd := wr_guard
  have HS1 := Lib.hid hs1; clear hs1
  have HS2 := Lib.hid hs2; clear hs2
  have HC1 := Lib.hid hc1; clear hc1
  have HC2 := Lib.hid hc2; clear hc2
  by_cases hl : s1.length = s2.length
  rotate_left
  · rw [same_no1 (fun e => hl (by rw [e]))]
    have hli : ((s1.length : Int) == (s2.length : Int)) = false := by rw [beq_eq_false_iff_ne]; omega
    have hnb : ((s1.length : Int) != (s2.length : Int)) = true := by simp [bne, hli]
    clear hl
    go_enter Tryz.func108, Tryz.ntmps108
    go_wp2
    go_ret
    exact ⟨rfl, below2⟩
  by_cases hk : c1.length = c2.length
  rotate_left
  · rw [same_no2 (fun e => hk (by rw [e]))]
    have hli : ((s1.length : Int) == (s2.length : Int)) = true := by simp [hl]
    have hnb : ((s1.length : Int) != (s2.length : Int)) = false := by simp [bne, hli]
    have hki : ((c1.length : Int) == (c2.length : Int)) = false := by rw [beq_eq_false_iff_ne]; omega
    have hkb : ((c1.length : Int) != (c2.length : Int)) = true := by simp [bne, hki]
    clear hl hk
    go_enter Tryz.func108, Tryz.ntmps108
    go_wp2
    go_ret
    exact ⟨rfl, below2⟩
  have HL := Lib.hid hl
  have HK := Lib.hid hk
  have hli : ((s1.length : Int) == (s2.length : Int)) = true := by simp [hl]
  have hnb : ((s1.length : Int) != (s2.length : Int)) = false := by simp [bne, hli]
  have hki : ((c1.length : Int) == (c2.length : Int)) = true := by simp [hk]
  have hkb : ((c1.length : Int) != (c2.length : Int)) = false := by simp [bne, hki]
  clear hl hk
  cases h3 : (f1 == f2) with
  | false =>
    rw [same_no3 h3]
    have h3b : (f1 != f2) = true := by simp [bne, h3]
    go_enter Tryz.func108, Tryz.ntmps108
    go_wp2
    go_ret
    exact ⟨rfl, below2⟩
  | true =>
  have h3b : (f1 != f2) = false := by simp [bne, h3]
  cases h4 : (x1 == x2) with
  | false =>
    rw [same_no4 h4]
    have h4b : (x1 != x2) = true := by simp [bne, h4]
    go_enter Tryz.func108, Tryz.ntmps108
    go_wp2
    go_ret
    exact ⟨rfl, below2⟩
  | true =>
  have h4b : (x1 != x2) = false := by simp [bne, h4]
  have hn1 := @same_no1 s1 s2 c1 c2 f1 f2 x1 x2
  have hn2 := @same_no2 s1 s2 c1 c2 f1 f2 x1 x2
  have hy := fun e1 e2 => @same_yes s1 s2 c1 c2 f1 f2 x1 x2 e1 e2 h3 h4
  generalize sameB s1 s2 c1 c2 f1 f2 x1 x2 = r at *
  have HN1 := Lib.hid hn1; clear hn1
  have HN2 := Lib.hid hn2; clear hn2
  have HY := Lib.hid hy; clear hy
  go_enter Tryz.func108, Tryz.ntmps108
  go_wp2
  go_loopw [5] (fun i wr => ∃ k n : Nat, k ≤ s1.length ∧ i = .int .i64 k ∧ Hid (s1.take k = s2.take k) ∧ wr = ((w.alloc (.cells #[.slice A1 s1.length n1, .slice B1 c1.length m1, .int .i64 f1, .bool x1] 30)).alloc (.cells #[.slice A2 s2.length n2, .slice B2 c2.length m2, .int .i64 f2, .bool x2] 30)).drewN n) (fun i _ => s1.length - (intOf i).toNat)
  case atStart => exact ⟨0, 0, by omega, rfl, by simp [Hid], rfl⟩
  case round =>
    obtain ⟨k, n, hk, rfl, hp, rfl⟩ := hrel
    by_cases hlt : k < s1.length
    · have hlt2 : k < s2.length := by rw [← HL.out]; exact hlt
      obtain ⟨a1, rfl, hb1, hc1⟩ := HS1.out k s1[k] (List.getElem?_eq_getElem hlt)
      obtain ⟨a2, rfl, hb2, hc2⟩ := HS2.out k s2[k] (List.getElem?_eq_getElem hlt2)
      have hd1 := cell_past2 hc1
      have hd2 := cell_past2 hc2
      have hs := eq_take_step hlt hlt2 hp.out
      have hh := eq_take_no hlt hlt2
      have HS := Lib.hid hs; clear hs
      have HH := Lib.hid hh; clear hh
      clear hp hc1 hc2
      generalize s1[k] = x at *
      generalize s2[k] = y at *
      by_cases hxy : x = y
      · have he : (x.toList == y.toList) = true := by rw [text_eq, decide_eq_true hxy]
        have HX := Lib.hid hxy; clear hxy
        go_wp2
        go_quiet (fail)
        go_wp2
        go_roundw
        case rel => exact ⟨k + 1, _, by omega, by go_num, HS.out HX.out, rfl⟩
        case measure => simp [intOf]; omega
      · have he : (x.toList == y.toList) = false := by rw [text_eq, decide_eq_false hxy]
        have hne := HN1.out (HH.out hxy)
        have HN := Lib.hid hne; clear hne
        clear hxy HH HS
        go_wp2
        go_quiet (fail)
        go_wp2
        go_ret
        exact ⟨ret_bool HN.out.symm, ext_drewN (ext_drewN below2 _) _⟩
    · obtain rfl : k = s1.length := by omega
      have hq := eq_take_yes HL.out hp.out
      have HQ := Lib.hid hq; clear hq
      clear hp
      go_wp2
      go_loopw [6] (fun i wr => ∃ k n : Nat, k ≤ c1.length ∧ i = .int .i64 k ∧ Hid (c1.take k = c2.take k) ∧ wr = ((w.alloc (.cells #[.slice A1 s1.length n1, .slice B1 c1.length m1, .int .i64 f1, .bool x1] 30)).alloc (.cells #[.slice A2 s2.length n2, .slice B2 c2.length m2, .int .i64 f2, .bool x2] 30)).drewN n) (fun i _ => c1.length - (intOf i).toNat)
      case atStart => exact ⟨0, _, by omega, rfl, by simp [Hid], rfl⟩
      case round =>
        obtain ⟨k, n, hk, rfl, hp, rfl⟩ := hrel
        by_cases hlt : k < c1.length
        · have hlt2 : k < c2.length := by rw [← HK.out]; exact hlt
          obtain ⟨a1, rfl, hb1, hc1, hd1⟩ := HC1.out k c1[k] (List.getElem?_eq_getElem hlt)
          obtain ⟨a2, rfl, hb2, hc2, hd2⟩ := HC2.out k c2[k] (List.getElem?_eq_getElem hlt2)
          have he1 := cell_past2 hc1
          have he2 := cell_past2 hc2
          have hf1 := cell_past2 hd1
          have hf2 := cell_past2 hd2
          have hs := eq_take_step hlt hlt2 hp.out
          have hh := eq_take_no hlt hlt2
          have HS := Lib.hid hs; clear hs
          have HH := Lib.hid hh; clear hh
          clear hp hc1 hc2 hd1 hd2
          generalize c1[k] = x at *
          generalize c2[k] = y at *
          have hq := wr_neq x y
          by_cases hxy : x = y
          · rw [decide_eq_true hxy] at hq
            have HX := Lib.hid hxy; clear hxy
            go_wp2
            go_quiet (fail)
            go_wp2
            go_roundw
            case rel => exact ⟨k + 1, _, by omega, by go_num, HS.out HX.out, rfl⟩
            case measure => simp [intOf]; omega
          · rw [decide_eq_false hxy] at hq
            have hne := HN2.out (HH.out hxy)
            have HN := Lib.hid hne; clear hne
            clear hxy HH HS
            go_wp2
            go_quiet (fail)
            go_wp2
            go_ret
            exact ⟨ret_bool HN.out.symm, ext_drewN (ext_drewN below2 _) _⟩
        · obtain rfl : k = c1.length := by omega
          have hq := HY.out HQ.out (eq_take_yes HK.out hp.out)
          have HR := Lib.hid hq; clear hq
          clear hp
          go_wp2
          go_ret
          exact ⟨ret_bool HR.out.symm, ext_drewN below2 _⟩
end Go.Proofs.YtabenngcmpjlhaaGreatDoor
namespace Go.Proofs.YtabenngcmpjlhaaGreatDoor
open Go.RowKit
structure Lnk where
  u : Bool
  s : Int
  a : List ByteArray
  b : List ByteArray
structure Lk (w : World) (x : Lnk) (A : Option Addr) (n : Nat) (B : Option Addr) (m : Nat) : Prop where
  ea : Es Value.string w w.heap.size A x.a
  eb : Es Value.string w w.heap.size B x.b
  na : A = none → n = 0
  nb : B = none → m = 0
  la : x.a.length ≤ n
  lb : x.b.length ≤ m
  ta : Ty w A 9
  tb : Ty w B 9
@[reducible] def lkV (x : Lnk) (A : Option Addr) (n : Nat) (B : Option Addr) (m : Nat) : Value := .agg #[.bool x.u, .int .u64 x.s, .slice A x.a.length n, .slice B x.b.length m]
theorem Lk.up {w w' : World} {x : Lnk} {A B : Option Addr} {n m : Nat} (h : Lk w x A n B m) (hb : Below w.heap.size w w') : Lk w' x A n B m := ⟨h.ea.up hb, h.eb.up hb, h.na, h.nb, h.la, h.lb, h.ta.up hb, h.tb.up hb⟩
theorem Lk.alloc {w : World} {x : Lnk} {A B : Option Addr} {n m : Nat} (h : Lk w x A n B m) (o : Obj) : Lk (w.alloc o) x A n B m := h.up below1
def GivesK (x : Lnk) (f : Value → Value) (w : World) (e : Ending) (w' : World) : Prop :=
  ∃ A n B m, e = .returned (f (lkV x A n B m)) ∧ Lk w' x A n B m ∧ Below w.heap.size w w'
def nextS (s : Int) : Int := IntKind.u64.wrap (s + 1)
def Lnk.opened (x : Lnk) : Lnk := ⟨true, nextS x.s, [], []⟩
def Lnk.closed (x : Lnk) : Lnk := ⟨false, x.s, [], []⟩
def Lnk.on (x : Lnk) (g : Int) (l : List ByteArray) : Lnk := if g = 0 then { x with a := l } else { x with b := l }
def Lnk.side (x : Lnk) (g : Int) : List ByteArray := if g = 0 then x.a else x.b
def isSide (g : Int) : Bool := decide (g = 0) || decide (g = 1)
def Lnk.send (x : Lnk) (g : Int) (p : List ByteArray) : Lnk := if isSide g = true ∧ x.u = true then x.on g (x.side g ++ p) else x
def Lnk.sendE (x : Lnk) (g : Int) : Int := if isSide g = true then (if x.u = true then 0 else 7) else 1
def Lnk.takes (x : Lnk) (g : Int) : Bool := isSide g && !decide (x.side g = [])
def Lnk.first (x : Lnk) (g : Int) : ByteArray := if x.takes g = true then (x.side g).headD ⟨#[]⟩ else ⟨#[]⟩
def Lnk.taken (x : Lnk) (g : Int) : Lnk := if x.takes g = true then x.on g (x.side g).tail else x
def Lnk.idle (x : Lnk) : Bool := decide (x.a = []) && decide (x.b = [])
def Lnk.same (x y : Lnk) : Bool := (x.u == y.u) && ((x.s == y.s) && (decide (x.a = y.a) && decide (x.b = y.b)))
def Lnk.great (x : Lnk) : Bool := decide (100 < x.a.length) || decide (100 < x.b.length)
theorem infoStr : (Tryz.prog.info? 9).map (fun i => (i.zero, i.size, i.bytes)) = some (some (.string ⟨#[]⟩), 1, 16) := by kernel_rfl
theorem info_three {P : Program} {t : TypeId} {z : Value} {s b : Nat} (h : (P.info? t).map (fun i => (i.zero, i.size, i.bytes)) = some (some z, s, b)) : ∃ i, P.info? t = some i ∧ i.zero = some z ∧ i.size = s ∧ i.bytes = b := by
  obtain ⟨i, hi, h2⟩ := Option.map_eq_some_iff.1 h
  injection h2 with h3 h4
  injection h4 with h5 h6
  exact ⟨i, hi, h3, h5, h6⟩
set_option maxRecDepth 100000 in
theorem app_txts {ops : Array Oper} {rest : List Oper} {o : Oper} {a : Go.Act} {Q : Exit → Go.Act → World → Prop} (hgd : o.guard = none) (s x : Operand)
    (ho : o.op = .call { callee := .builtin .append, args := #[s, x], argTypes := #[27, 27] }) (w : World) (base : Nat) (hbase : base ≤ w.heap.size) (v : Value) (l0 : List ByteArray) (hs : a.eval s = v)
    (hown : w.ownsRow base 9 1 v l0.length (l0.map Value.string)) (A : Option Addr) (n : Nat) (l : List ByteArray) (hA : A = none → n = 0) (hx : a.eval x = .slice A l.length n) (hc : Es Value.string w w.heap.size A l) (hl : l0.length + l.length ≤ 1000000)
    (h : ∀ v' w', w'.ownsRow base 9 1 v' (l0 ++ l).length ((l0 ++ l).map Value.string) → Below base w w' → wpList Tryz.prog ops Q rest (a.put o.dst v') w') :
    wpList Tryz.prog ops Q (o :: rest) a w := by
  obtain ⟨i0, hi, hz0, hz1, hz2⟩ := info_three infoStr
  have hb0 := Below.refl base w
  cases A with
  | none =>
    have hl0 : l = [] := by
      cases l with
      | nil => rfl
      | cons y t => obtain ⟨a', ha', _⟩ := hc 0 y rfl; cases ha'
    subst hl0
    rw [hA rfl] at hx
    rw [List.append_nil] at h
    exact wpList_append_own_none hgd s x 27 ho base 9 i0 1 Tryz.underlying27 hi v _ _ hs hown hx (h _ _ hown hb0)
  | some ad =>
    refine wpList_append_own _ hgd s x 27 ho base 9 i0 (.string ⟨#[]⟩) 1 16 Tryz.underlying27 hi hz0 hz1 hz2 rfl (by decide) v _ _ hs hown ad l.length n (l.map Value.string) hx (by simp) (es_cells hc)
      (fun u hu => by obtain ⟨y, _, rfl⟩ := List.mem_map.1 hu; rfl) (by unfold maxLen; omega) (by omega) hbase fun v' w' hown' hgrow _ => ?_
    rw [← List.map_append, ← List.length_append] at hown'
    exact h v' w' hown' (hb0.grown hgrow hbase (own_low hown))
theorem own_zero {e : TypeId} {size : Nat} (w : World) (base : Nat) (hb : base ≤ w.heap.size) : (w.alloc (.cells #[] e)).ownsRow base e size (.slice (some ⟨w.heap.size, 0, none⟩) 0 0) 0 [] :=
  ⟨by simp, Or.inr ⟨w.heap.size, 0, #[], rfl, hb, heap_alloc_new w _, Nat.le_refl _, by unfold maxLen; omega, by simp, by simp⟩⟩
theorem own_past {w : World} {base size n p : Nat} {e : TypeId} {v : Value} {xs : List Value} (h : w.ownsRow base e size v n xs) (hp : p < base) (j : Nat) (u : Value) : (w.setCell ⟨p, j, none⟩ u).ownsRow base e size v n xs := by
  obtain ⟨h1, h2⟩ := h
  refine ⟨h1, ?_⟩
  rcases h2 with h2 | ⟨g, cap, cur, hv, hg, hh, r⟩
  · exact Or.inl h2
  · exact Or.inr ⟨g, cap, cur, hv, hg, by rw [heap_setCell_other _ _ _ _ (show g ≠ p from by omega)]; exact hh, r⟩
theorem own_cap {w : World} {base size n : Nat} {e : TypeId} {A : Option Addr} {k c : Nat} {xs : List Value} (h : w.ownsRow base e size (.slice A k c) n xs) : n ≤ c := by
  rcases h.2 with ⟨hv, h0⟩ | ⟨g, cap, cur, hv, hb, hh, hl, _⟩
  · rw [h0]; exact Nat.zero_le _
  · injection hv with e1 e2 e3
    subst e3
    exact hl
theorem es_tail {w : World} {D n : Nat} {ad : Addr} {x : ByteArray} {t : List ByteArray} (h : Es Value.string w D (some ad) (x :: t)) (hn : t.length + 1 ≤ n) : Es Value.string w D (if n = 1 then some ad else some ⟨ad.block, ad.off + 1, none⟩) t := by
  intro j y hj
  obtain ⟨a', ha', hlt, hc⟩ := h (j + 1) y (by simpa using hj)
  injection ha' with ha'
  subst ha'
  have hj2 : j < t.length := by
    rcases Nat.lt_or_ge j t.length with q | q
    · exact q
    · rw [List.getElem?_eq_none q] at hj; cases hj
  rw [if_neg (by omega)]
  refine ⟨_, rfl, hlt, ?_⟩
  have e : (⟨ad.block, ad.off + 1, none⟩ : Addr).add j = ad.add (j + 1) := by
    unfold Addr.add
    rw [if_neg (by omega : ¬ j + 1 = 0)]
    split
    · next q => rw [q]
    · simp only [Addr.mk.injEq, true_and, and_true]
      omega
  rw [e]
  exact hc
theorem tail_none {n : Nat} {ad b : Addr} : (if n = 1 then some ad else some b) = none → n - 1 = 0 := by split <;> intro h <;> cases h
end Go.Proofs.YtabenngcmpjlhaaGreatDoor
namespace Go.Proofs.YtabenngcmpjlhaaGreatDoor
open Go.RowKit
set_option maxHeartbeats 1000000 in
theorem rkopen_any (u : Bool) (s : Int) (a b : List ByteArray) (A B : Option Addr) (n m : Nat) (w : World) : Calls Tryz.prog 222 #[.agg #[.bool u, .int .u64 s, .slice A a.length n, .slice B b.length m]] w fun e w' => e = .returned (.agg #[.bool true, .int .u64 (nextS s), .slice none 0 0, .slice none 0 0]) ∧ Below w.heap.size w w' := by
  have H0 := Lib.hid (((Held.refl w).lay [.bool u, .int .u64 s, .slice A a.length n, .slice B b.length m] 81).own [.bool false, .int .u64 0, .slice none 0 0, .slice none 0 0] 81 (n := 4) rfl)
  rw [World.size_alloc] at H0
  have k0 := H0.out.b0.cell
  have hn : IntKind.u64.wrap (s + 1) = nextS s := rfl
  go_enter Tryz.func222, Tryz.ntmps222
  go_wp2_with fail
  refine bodyPost_ret (v := .agg #[.bool true, .int .u64 (nextS s), .slice none 0 0, .slice none 0 0]) (by simp [results, Tryz.results222, go_sem, nextS]) rfl ⟨rfl, ?_⟩
  exact below2
set_option maxHeartbeats 1000000 in
theorem rkclose_any (u : Bool) (s : Int) (a b : List ByteArray) (A B : Option Addr) (n m : Nat) (w : World) : Calls Tryz.prog 223 #[.agg #[.bool u, .int .u64 s, .slice A a.length n, .slice B b.length m]] w fun e w' => e = .returned (.agg #[.bool false, .int .u64 s, .slice none 0 0, .slice none 0 0]) ∧ Below w.heap.size w w' := by
  have H0 := Lib.hid (((Held.refl w).lay [.bool u, .int .u64 s, .slice A a.length n, .slice B b.length m] 81).own [.bool false, .int .u64 0, .slice none 0 0, .slice none 0 0] 81 (n := 4) rfl)
  rw [World.size_alloc] at H0
  have k0 := H0.out.b0.cell
  have hn : IntKind.u64.wrap (s + 1) = nextS s := rfl
  go_enter Tryz.func223, Tryz.ntmps223
  go_wp2_with fail
  refine bodyPost_ret (v := .agg #[.bool false, .int .u64 s, .slice none 0 0, .slice none 0 0]) (by simp [results, Tryz.results223, go_sem]) rfl ⟨rfl, ?_⟩
  exact below2
end Go.Proofs.YtabenngcmpjlhaaGreatDoor
