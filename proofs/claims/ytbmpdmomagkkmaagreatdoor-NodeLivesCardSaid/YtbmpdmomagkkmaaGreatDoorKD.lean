/- Disks: what the small functions answer, for every argument within its type; no other condition but that the lists lie in memory. -/
import Derived.Test.YtbmpdmomagkkmaaGreatDoorBase
namespace Go.Proofs.YtbmpdmomagkkmaaGreatDoor
open Go.RowKit
def Ws (w : World) (D : Nat) (A : Option Addr) (l : List (Int × ByteArray)) : Prop :=
  ∀ j x, l[j]? = some x → ∃ a, A = some a ∧ a.block < D ∧ w.cell? (a.add (j * 2)) = some (.int .i64 x.1) ∧ w.cell? ⟨(a.add (j * 2)).block, (a.add (j * 2)).off + 1, none⟩ = some (.string x.2)
theorem ws_nil (w : World) (D : Nat) (A : Option Addr) : Ws w D A [] := by intro j x h; simp at h
theorem Ws.below {w w' : World} {D D' : Nat} {A : Option Addr} {l : List (Int × ByteArray)} (h : Ws w D A l) (hb : Below D w w') (hD : D ≤ D') : Ws w' D' A l := by
  intro j x hj
  obtain ⟨a, ha, hlt, hc, hd⟩ := h j x hj
  exact ⟨a, ha, by omega, (hb.cell (p := a.add (j * 2)) (by rw [add_block]; exact hlt)).trans hc, (hb.cell (p := ⟨(a.add (j * 2)).block, (a.add (j * 2)).off + 1, none⟩) (by show (a.add (j * 2)).block < D; rw [add_block]; exact hlt)).trans hd⟩
theorem tooLong_any (s : ByteArray) (w : World) : Calls Tryz.prog 224 #[.string s] w fun e w' => e = .returned (.bool (decide (64 < (s.size : Int)))) ∧ w' = w := by
  go_enter Tryz.func224, Tryz.ntmps224
  go_wp2
  go_ret
  exact ⟨rfl, rfl⟩
def longS (s : ByteArray) : Bool := decide (64 < (s.size : Int))
def misfitW (n : Nat) (x : Int × ByteArray) : Bool := decide (x.1 < 0) || decide ((n : Int) ≤ x.1) || longS x.2
end Go.Proofs.YtbmpdmomagkkmaaGreatDoor
namespace Go.Proofs.YtbmpdmomagkkmaaGreatDoor
open Go.RowKit
theorem toList_inj {x y : ByteArray} (h : x.toList = y.toList) : x = y := by
  rw [ByteArray.toList_eq, ByteArray.toList_eq] at h
  obtain ⟨⟨a⟩⟩ := x
  obtain ⟨⟨b⟩⟩ := y
  simp only at h
  rw [h]
theorem text_eq (x y : ByteArray) : (x.toList == y.toList) = decide (x = y) := by
  by_cases h : x = y
  · subst h; simp
  · rw [decide_eq_false h]
    exact beq_eq_false_iff_ne.2 fun e => h (toList_inj e)
theorem wr_struct : Tryz.prog.underlying 139 = some (.struct (Tryz.prog.fieldsOf 139)) := by kernel_rfl
theorem wr_held : Tryz.prog.stoodInHeld 139 = false := by kernel_rfl
theorem wr_guard : Tryz.prog.eqGuardType Tryz.prog.depth 139 = false := by kernel_rfl
theorem wr_neq (x y : Int × ByteArray) (w : World) : (binOp .neq 139 (.agg #[.int .i64 x.1, .string x.2]) (.agg #[.int .i64 y.1, .string y.2])).run Tryz.prog w = .ok (.bool (!decide (x = y))) w := by
  have u3 := Tryz.underlying3
  have u9 := Tryz.underlying9
  have a3 := Tryz.isAgg3
  have z3 := Tryz.sizeOf3
  have a9 := Tryz.isAgg9
  have z9 := Tryz.sizeOf9
  rw [run_neq_struct, show (10000 : Nat) = 9999 + 1 from rfl, run_equalIn_agg w 9999 139 _ _ wr_struct wr_held]
  simp only [Program.fieldsOf, Tryz.underlying139]
  go_simp
  obtain ⟨a, s⟩ := x
  obtain ⟨b, t⟩ := y
  by_cases h1 : a = b
  · by_cases h2 : s = t
    · simp [h1, h2]
    · have h3 : ¬ s.toList = t.toList := fun e => h2 (toList_inj e)
      simp [h1, h2, h3]
  · simp [h1]
theorem eq_take_step {α : Type} {l1 l2 : List α} {k : Nat} (h1 : k < l1.length) (h2 : k < l2.length) (h : l1.take k = l2.take k) (he : l1[k] = l2[k]) : l1.take (k + 1) = l2.take (k + 1) := by
  rw [take_snoc l1 k h1, take_snoc l2 k h2, h, he]
theorem eq_take_no {α : Type} {l1 l2 : List α} {k : Nat} (h1 : k < l1.length) (h2 : k < l2.length) (he : l1[k] ≠ l2[k]) : l1 ≠ l2 := by
  intro h; subst h; exact he rfl
theorem eq_take_yes {α : Type} {l1 l2 : List α} (hl : l1.length = l2.length) (h : l1.take l1.length = l2.take l1.length) : l1 = l2 := by
  rw [List.take_length, hl, List.take_length] at h; exact h
set_option maxHeartbeats 400000 in
theorem eqStr_any (A1 A2 : Option Addr) (c1 c2 : Nat) (l1 l2 : List ByteArray) (w : World) (D : Nat) (h1 : Es Value.string w D A1 l1) (h2 : Es Value.string w D A2 l2) (m1 : l1.length ≤ maxLen) (_m2 : l2.length ≤ maxLen) :
    Calls Tryz.prog 149 #[.slice A1 l1.length c1, .slice A2 l2.length c2] w fun e w' => e = .returned (.bool (decide (l1 = l2))) ∧ ∃ n, w' = w.drewN n := by
  unfold maxLen at m1 _m2
  have H1 := Lib.hid h1; clear h1
  have H2 := Lib.hid h2; clear h2
  by_cases hl : l1.length = l2.length
  · have HL := Lib.hid hl
    have hli : ((l1.length : Int) == (l2.length : Int)) = true := by simp [hl]
    have hnb : ((l1.length : Int) != (l2.length : Int)) = false := by simp [hl]
    clear hl
    go_enter Tryz.func149, Tryz.ntmps149
    go_wp2
    go_loopw [5, 13] (fun _ i wr => ∃ k n : Nat, k ≤ l1.length ∧ i = .int .i64 k ∧ Hid (l1.take k = l2.take k) ∧ wr = w.drewN n) (fun _ i _ => l1.length - (intOf i).toNat)
    case atStart => exact ⟨0, 0, by omega, rfl, by simp [Hid], rfl⟩
    case round =>
      obtain ⟨k, n, hk, rfl, hp, rfl⟩ := hrel
      by_cases hlt : k < l1.length
      · have hlt2 : k < l2.length := by rw [← HL.out]; exact hlt
        obtain ⟨a1, rfl, hb1, hc1⟩ := H1.out k l1[k] (List.getElem?_eq_getElem hlt)
        obtain ⟨a2, rfl, hb2, hc2⟩ := H2.out k l2[k] (List.getElem?_eq_getElem hlt2)
        have hs := eq_take_step hlt hlt2 hp.out
        have hh := eq_take_no hlt hlt2
        have HS := Lib.hid hs; clear hs
        have HH := Lib.hid hh; clear hh
        clear hp
        generalize l1[k] = x at *
        generalize l2[k] = y at *
        by_cases hxy : x = y
        · have he : (x.toList == y.toList) = true := by rw [text_eq, decide_eq_true hxy]
          have HX := Lib.hid hxy; clear hxy
          go_wp2
          go_quiet (fail)
          go_wp2
          go_roundw
          case rel => exact ⟨k + 1, _, by omega, by go_num, HS.out HX.out, rfl⟩
          case measure => simp [intOf]; omega
        · have he : (x.toList == y.toList) = false := by rw [text_eq, decide_eq_false hxy]
          have hne := HH.out hxy
          have HN := Lib.hid hne; clear hne
          clear hxy HH HS
          go_wp2
          go_quiet (fail)
          go_wp2
          go_ret
          exact ⟨ret_bool (by rw [decide_eq_false HN.out]), _, World.drewN_drewN _ _ _⟩
      · obtain rfl : k = l1.length := by omega
        have hq := eq_take_yes HL.out hp.out
        have HQ := Lib.hid hq; clear hq
        clear hp
        go_wp2
        go_ret
        exact ⟨ret_bool (by rw [decide_eq_true HQ.out]), _, rfl⟩
  · have hne : l1 ≠ l2 := fun e => hl (by rw [e])
    have hli : ((l1.length : Int) == (l2.length : Int)) = false := by rw [beq_eq_false_iff_ne]; omega
    have hnb : ((l1.length : Int) != (l2.length : Int)) = true := by simp [bne, hli]
    have HN := Lib.hid hne; clear hne
    clear hl
    go_enter Tryz.func149, Tryz.ntmps149
    go_wp2
    go_ret
    exact ⟨ret_bool (by rw [decide_eq_false HN.out]), 0, rfl⟩
set_option maxHeartbeats 400000 in
theorem eqWr_any (A1 A2 : Option Addr) (c1 c2 : Nat) (l1 l2 : List (Int × ByteArray)) (w : World) (D : Nat) (h1 : Ws w D A1 l1) (h2 : Ws w D A2 l2) (m1 : l1.length ≤ maxLen) (_m2 : l2.length ≤ maxLen) :
    Calls Tryz.prog 150 #[.slice A1 l1.length c1, .slice A2 l2.length c2] w fun e w' => e = .returned (.bool (decide (l1 = l2))) ∧ ∃ n, w' = w.drewN n := by
  unfold maxLen at m1 _m2
  have hgd := wr_guard
  have H1 := Lib.hid h1; clear h1
  have H2 := Lib.hid h2; clear h2
  by_cases hl : l1.length = l2.length
  · have HL := Lib.hid hl
    have hli : ((l1.length : Int) == (l2.length : Int)) = true := by simp [hl]
    have hnb : ((l1.length : Int) != (l2.length : Int)) = false := by simp [hl]
    clear hl
    go_enter Tryz.func150, Tryz.ntmps150
    go_wp2
    go_loopw [5, 13] (fun _ i wr => ∃ k n : Nat, k ≤ l1.length ∧ i = .int .i64 k ∧ Hid (l1.take k = l2.take k) ∧ wr = w.drewN n) (fun _ i _ => l1.length - (intOf i).toNat)
    case atStart => exact ⟨0, 0, by omega, rfl, by simp [Hid], rfl⟩
    case round =>
      obtain ⟨k, n, hk, rfl, hp, rfl⟩ := hrel
      by_cases hlt : k < l1.length
      · have hlt2 : k < l2.length := by rw [← HL.out]; exact hlt
        obtain ⟨a1, rfl, hb1, hc1, hd1⟩ := H1.out k l1[k] (List.getElem?_eq_getElem hlt)
        obtain ⟨a2, rfl, hb2, hc2, hd2⟩ := H2.out k l2[k] (List.getElem?_eq_getElem hlt2)
        have hs := eq_take_step hlt hlt2 hp.out
        have hh := eq_take_no hlt hlt2
        have HS := Lib.hid hs; clear hs
        have HH := Lib.hid hh; clear hh
        clear hp
        generalize l1[k] = x at *
        generalize l2[k] = y at *
        have hq := wr_neq x y
        by_cases hxy : x = y
        · rw [decide_eq_true hxy] at hq
          have HX := Lib.hid hxy; clear hxy
          go_wp2
          go_quiet (fail)
          go_wp2
          go_roundw
          case rel => exact ⟨k + 1, _, by omega, by go_num, HS.out HX.out, rfl⟩
          case measure => simp [intOf]; omega
        · rw [decide_eq_false hxy] at hq
          have hne := HH.out hxy
          have HN := Lib.hid hne; clear hne
          clear hxy HH HS
          go_wp2
          go_quiet (fail)
          go_wp2
          go_ret
          exact ⟨ret_bool (by rw [decide_eq_false HN.out]), _, World.drewN_drewN _ _ _⟩
      · obtain rfl : k = l1.length := by omega
        have hq := eq_take_yes HL.out hp.out
        have HQ := Lib.hid hq; clear hq
        clear hp
        go_wp2
        go_ret
        exact ⟨ret_bool (by rw [decide_eq_true HQ.out]), _, rfl⟩
  · have hne : l1 ≠ l2 := fun e => hl (by rw [e])
    have hli : ((l1.length : Int) == (l2.length : Int)) = false := by rw [beq_eq_false_iff_ne]; omega
    have hnb : ((l1.length : Int) != (l2.length : Int)) = true := by simp [bne, hli]
    have HN := Lib.hid hne; clear hne
    clear hl
    go_enter Tryz.func150, Tryz.ntmps150
    go_wp2
    go_ret
    exact ⟨ret_bool (by rw [decide_eq_false HN.out]), 0, rfl⟩
end Go.Proofs.YtbmpdmomagkkmaaGreatDoor
namespace Go.Proofs.YtbmpdmomagkkmaaGreatDoor
open Go.RowKit
def burnF (f : Int) : Int := if 1 < f then f - 1 else if f = 1 then 0 else f
def burnD (f : Int) (x : Bool) : Bool := if f = 1 then true else x
set_option maxHeartbeats 400000 in
theorem crash_any (A B : Option Addr) (n1 n2 m1 m2 : Nat) (f : Int) (x : Bool) (w : World) :
    Calls Tryz.prog 111 #[.agg #[.slice A n1 n2, .slice B m1 m2, .int .i64 f, .bool x]] w fun e w' => e = .returned (.agg #[.slice A n1 n2, .slice B m1 m2, .int .i64 0, .bool true]) ∧ Below w.heap.size w w' := by
  go_enter Tryz.func111, Tryz.ntmps111
  go_wp2
  refine bodyPost_ret (v := .agg #[.slice A n1 n2, .slice B m1 m2, .int .i64 0, .bool true]) (by simp [results, Tryz.results111, go_sem]) rfl ⟨rfl, ?_⟩
  exact ext_alloc (ext_alloc (Below.refl _ _) _) _
set_option maxHeartbeats 400000 in
theorem rcrash_any (A B : Option Addr) (n1 n2 m1 m2 : Nat) (f : Int) (x : Bool) (w : World) :
    Calls Tryz.prog 77 #[.agg #[.slice A n1 n2, .slice B m1 m2, .int .i64 f, .bool x]] w fun e w' => e = .returned (.agg #[.slice A n1 n2, .slice B m1 m2, .int .i64 0, .bool true]) ∧ Below w.heap.size w w' := by
  go_enter Tryz.func77, Tryz.ntmps77
  go_wp2
  refine bodyPost_ret (v := .agg #[.slice A n1 n2, .slice B m1 m2, .int .i64 0, .bool true]) (by simp [results, Tryz.results77, go_sem]) rfl ⟨rfl, ?_⟩
  exact ext_alloc (ext_alloc (Below.refl _ _) _) _
set_option maxHeartbeats 1000000 in
theorem burn_any (A B : Option Addr) (n1 n2 m1 m2 : Nat) (f : Int) (x : Bool) (w : World) (hf : f < 9223372036854775808) :
    Calls Tryz.prog 225 #[.agg #[.slice A n1 n2, .slice B m1 m2, .int .i64 f, .bool x]] w fun e w' => e = .returned (.agg #[.slice A n1 n2, .slice B m1 m2, .int .i64 (burnF f), .bool (burnD f x)]) ∧ Below w.heap.size w w' := by
  unfold burnF burnD
  by_cases h1 : f = 1
  · subst h1
    go_enter Tryz.func225, Tryz.ntmps225
    go_wp2
    refine bodyPost_ret (v := .agg #[.slice A n1 n2, .slice B m1 m2, .int .i64 0, .bool true]) (by simp [results, Tryz.results225, go_sem]) rfl ⟨rfl, ?_⟩
    exact ext_alloc (ext_alloc (ext_alloc (ext_alloc (Below.refl _ _) _) _) _) _
  · by_cases h2 : 1 < f
    · rw [if_neg h1, if_pos h2]
      have hb : (f == 1) = false := beq_eq_false_iff_ne.2 h1
      clear h1
      go_enter Tryz.func225, Tryz.ntmps225
      go_wp2
      refine bodyPost_ret (v := .agg #[.slice A n1 n2, .slice B m1 m2, .int .i64 (f - 1), .bool x]) (by simp [results, Tryz.results225, go_sem]) rfl ⟨rfl, ?_⟩
      exact ext_alloc (ext_alloc (Below.refl _ _) _) _
    · rw [if_neg h1, if_neg h2, if_neg h1]
      have hb : (f == 1) = false := beq_eq_false_iff_ne.2 h1
      clear h1
      go_enter Tryz.func225, Tryz.ntmps225
      go_wp2
      refine bodyPost_ret (v := .agg #[.slice A n1 n2, .slice B m1 m2, .int .i64 f, .bool x]) (by simp [results, Tryz.results225, go_sem]) rfl ⟨rfl, ?_⟩
      exact ext_alloc (ext_alloc (Below.refl _ _) _) _
set_option maxHeartbeats 1000000 in
theorem rburn_any (A B : Option Addr) (n1 n2 m1 m2 : Nat) (f : Int) (x : Bool) (w : World) (hf : f < 9223372036854775808) :
    Calls Tryz.prog 219 #[.agg #[.slice A n1 n2, .slice B m1 m2, .int .i64 f, .bool x]] w fun e w' => e = .returned (.agg #[.slice A n1 n2, .slice B m1 m2, .int .i64 (burnF f), .bool (burnD f x)]) ∧ Below w.heap.size w w' := by
  unfold burnF burnD
  by_cases h1 : f = 1
  · subst h1
    go_enter Tryz.func219, Tryz.ntmps219
    go_wp2
    refine bodyPost_ret (v := .agg #[.slice A n1 n2, .slice B m1 m2, .int .i64 0, .bool true]) (by simp [results, Tryz.results219, go_sem]) rfl ⟨rfl, ?_⟩
    exact ext_alloc (ext_alloc (Below.refl _ _) _) _
  · by_cases h2 : 1 < f
    · rw [if_neg h1, if_pos h2]
      have hb : (f == 1) = false := beq_eq_false_iff_ne.2 h1
      have h0 : 0 < f := by omega
      clear h1
      go_enter Tryz.func219, Tryz.ntmps219
      go_wp2
      refine bodyPost_ret (v := .agg #[.slice A n1 n2, .slice B m1 m2, .int .i64 (f - 1), .bool x]) (by simp [results, Tryz.results219, go_sem]) rfl ⟨rfl, ?_⟩
      exact ext_alloc (ext_alloc (Below.refl _ _) _) _
    · rw [if_neg h1, if_neg h2, if_neg h1]
      have hb : (f == 1) = false := beq_eq_false_iff_ne.2 h1
      have h0 : ¬ 0 < f := by omega
      clear h1
      go_enter Tryz.func219, Tryz.ntmps219
      go_wp2
      refine bodyPost_ret (v := .agg #[.slice A n1 n2, .slice B m1 m2, .int .i64 f, .bool x]) (by simp [results, Tryz.results219, go_sem]) rfl ⟨rfl, ?_⟩
      exact ext_alloc (ext_alloc (Below.refl _ _) _) _
set_option maxHeartbeats 400000 in
theorem rarm_any (A B : Option Addr) (n1 n2 m1 m2 : Nat) (f n : Int) (x : Bool) (w : World) :
    Calls Tryz.prog 44 #[.agg #[.slice A n1 n2, .slice B m1 m2, .int .i64 f, .bool x], .int .i64 n] w fun e w' => e = .returned (.agg #[.slice A n1 n2, .slice B m1 m2, .int .i64 (if n < 0 then 0 else n), .bool x]) ∧ Below w.heap.size w w' := by
  by_cases hn : n < 0
  · rw [if_pos hn]
    go_enter Tryz.func44, Tryz.ntmps44
    go_wp2
    refine bodyPost_ret (v := .agg #[.slice A n1 n2, .slice B m1 m2, .int .i64 0, .bool x]) (by simp [results, Tryz.results44, go_sem]) rfl ⟨rfl, ?_⟩
    exact ext_alloc (ext_alloc (Below.refl _ _) _) _
  · rw [if_neg hn]
    go_enter Tryz.func44, Tryz.ntmps44
    go_wp2
    refine bodyPost_ret (v := .agg #[.slice A n1 n2, .slice B m1 m2, .int .i64 n, .bool x]) (by simp [results, Tryz.results44, go_sem]) rfl ⟨rfl, ?_⟩
    exact ext_alloc (ext_alloc (Below.refl _ _) _) _
def reachE (n : Nat) (i : Int) (x : Bool) : Int := if x = true then 6 else if i < 0 then 4 else if (n : Int) ≤ i then 4 else 0
set_option maxHeartbeats 400000 in
theorem reach_any (A B : Option Addr) (n1 n2 m1 m2 : Nat) (f i : Int) (x : Bool) (w : World) :
    Calls Tryz.prog 197 #[.agg #[.slice A n1 n2, .slice B m1 m2, .int .i64 f, .bool x], .int .i64 i] w fun e w' => e = .returned (.int .i64 (reachE n1 i x)) ∧ Below w.heap.size w w' := by
  unfold reachE
  cases x with
  | true =>
    rw [if_pos rfl]
    go_enter Tryz.func197, Tryz.ntmps197
    go_wp2
    go_ret
    exact ⟨rfl, ext_alloc (Below.refl _ _) _⟩
  | false =>
    rw [if_neg (by simp)]
    by_cases h0 : i < 0
    · rw [if_pos h0]
      go_enter Tryz.func197, Tryz.ntmps197
      go_wp2
      go_ret
      exact ⟨rfl, ext_alloc (Below.refl _ _) _⟩
    · rw [if_neg h0]
      by_cases h1 : (n1 : Int) ≤ i
      · rw [if_pos h1]
        go_enter Tryz.func197, Tryz.ntmps197
        go_wp2
        go_ret
        exact ⟨rfl, ext_alloc (Below.refl _ _) _⟩
      · rw [if_neg h1]
        go_enter Tryz.func197, Tryz.ntmps197
        go_wp2
        go_ret
        exact ⟨rfl, ext_alloc (Below.refl _ _) _⟩
theorem info9 : (Tryz.prog.info? 9).map (fun i => (i.zero, i.size, i.bytes)) = some (some (.string ⟨#[]⟩), 1, 16) := by kernel_rfl
theorem info45 : (Tryz.prog.info? 139).map (fun i => (i.zero, i.size, i.bytes)) = some (some (.agg #[.int .i64 0, .string ⟨#[]⟩]), 2, 24) := by kernel_rfl
def Ty (w : World) (A : Option Addr) (T : TypeId) : Prop := ∀ a, A = some a → ∃ cs fr, w.heap[a.block]? = some (.cells cs T fr)
theorem ty_none (w : World) (T : TypeId) : Ty w none T := fun _ h => by cases h
theorem Ty.up {w w' : World} {A : Option Addr} {T : TypeId} (h : Ty w A T) (hb : Below w.heap.size w w') : Ty w' A T := fun a ha => by
  obtain ⟨cs, fr, hc⟩ := h a ha
  exact ⟨cs, fr, by rw [hb.block _ (Array.getElem?_eq_some_iff.1 hc).1]; exact hc⟩
theorem Ty.set {w : World} {A : Option Addr} {T : TypeId} (h : Ty w A T) (p : Addr) (v : Value) : Ty (w.setCell p v) A T := fun a ha => by
  obtain ⟨cs, fr, hc⟩ := h a ha
  by_cases e : a.block = p.block
  · refine ⟨if p.spot.isSome then cs else cs.setIfInBounds p.off v, fr, ?_⟩
    rw [e] at hc ⊢
    simp [World.setCell, Array.getElem?_modify, hc]
  · exact ⟨cs, fr, by rw [Below.heap_setCell _ _ _ _ e]; exact hc⟩
theorem own_ty {w : World} {base size n : Nat} {e : TypeId} {A : Option Addr} {len cap : Nat} {xs : List Value} (h : w.ownsRow base e size (.slice A len cap) n xs) : Ty w A e := fun a ha => by
  rcases h.2 with ⟨hn, _⟩ | ⟨g, c, cur, hv, _, hg, _⟩
  · injection hn with h1
    rw [ha] at h1
    cases h1
  · injection hv with h1
    rw [ha] at h1
    injection h1 with h1
    subst h1
    exact ⟨cur, _, hg⟩
theorem Ty.ne {w : World} {A : Option Addr} {T T' : TypeId} {a : Addr} {b : Nat} {cs : Array Value} {fr : Nat × Nat} (h : Ty w A T) (ha : A = some a) (hb : w.heap[b]? = some (.cells cs T' fr)) (hne : T ≠ T') : a.block ≠ b := fun e => by
  obtain ⟨c2, f2, h2⟩ := h a ha
  rw [e, hb] at h2
  injection h2 with h2
  injection h2 with _ h2
  exact hne h2.symm
structure Mem (w : World) (A : Option Addr) (n : Nat) (B : Option Addr) (m : Nat) (s : List ByteArray) (c : List (Int × ByteArray)) : Prop where
  es : Es Value.string w w.heap.size A s
  ws : Ws w w.heap.size B c
  an : A = none → n = 0
  bn : B = none → m = 0
  ta : Ty w A 9
  tb : Ty w B 139
theorem Mem.up {w w' : World} {A B : Option Addr} {n m : Nat} {s : List ByteArray} {c : List (Int × ByteArray)} (h : Mem w A n B m s c) (hb : Below w.heap.size w w') : Mem w' A n B m s c :=
  ⟨h.es.below hb hb.size, h.ws.below hb hb.size, h.an, h.bn, h.ta.up hb, h.tb.up hb⟩
theorem mem_nil (w : World) : Mem w none 0 none 0 [] [] := ⟨es_nil _ _ _ _, ws_nil _ _ _, fun _ => rfl, fun _ => rfl, ty_none _ _, ty_none _ _⟩
def GivesD (s : List ByteArray) (c : List (Int × ByteArray)) (f : Int) (x : Bool) (r : Int) (w : World) (e : Ending) (w' : World) : Prop :=
  ∃ A B n m, e = .returned (.tuple #[.agg #[.slice A s.length n, .slice B c.length m, .int .i64 f, .bool x], .int .i64 r]) ∧ Mem w' A n B m s c ∧ Below w.heap.size w w'
end Go.Proofs.YtbmpdmomagkkmaaGreatDoor
namespace Go.Proofs.YtbmpdmomagkkmaaGreatDoor
open Go.RowKit
theorem Ws.up {w w' : World} {A : Option Addr} {l : List (Int × ByteArray)} (h : Ws w w.heap.size A l) (hb : Below w.heap.size w w') : Ws w' w'.heap.size A l := h.below hb hb.size
theorem misfit_no {n : Nat} {x : Int × ByteArray} (h0 : ¬ x.1 < 0) (h1 : ¬ (n : Int) ≤ x.1) (h2 : ¬ 64 < (x.2.size : Int)) : misfitW n x = false := by
  unfold misfitW longS; rw [decide_eq_false h0, decide_eq_false h1, decide_eq_false h2]; rfl
def longG (s : ByteArray) : Bool := decide (100 < (s.size : Int))
def greatB (s : List ByteArray) (c : List (Int × ByteArray)) : Bool := decide (70 < (s.length : Int)) || decide (100 < (c.length : Int)) || s.any longG || c.any fun x => longG x.2
end Go.Proofs.YtbmpdmomagkkmaaGreatDoor
namespace Go.Proofs.YtbmpdmomagkkmaaGreatDoor
open Go.RowKit
def sameB (s1 s2 : List ByteArray) (c1 c2 : List (Int × ByteArray)) (f1 f2 : Int) (x1 x2 : Bool) : Bool := decide (s1 = s2) && decide (c1 = c2) && (f1 == f2) && (x1 == x2)
theorem same_no1 {s1 s2 : List ByteArray} {c1 c2 : List (Int × ByteArray)} {f1 f2 : Int} {x1 x2 : Bool} (h : s1 ≠ s2) : sameB s1 s2 c1 c2 f1 f2 x1 x2 = false := by unfold sameB; rw [decide_eq_false h]; rfl
theorem same_no2 {s1 s2 : List ByteArray} {c1 c2 : List (Int × ByteArray)} {f1 f2 : Int} {x1 x2 : Bool} (h : c1 ≠ c2) : sameB s1 s2 c1 c2 f1 f2 x1 x2 = false := by unfold sameB; rw [decide_eq_false h, Bool.and_false]; rfl
theorem same_no3 {s1 s2 : List ByteArray} {c1 c2 : List (Int × ByteArray)} {f1 f2 : Int} {x1 x2 : Bool} (h : (f1 == f2) = false) : sameB s1 s2 c1 c2 f1 f2 x1 x2 = false := by unfold sameB; rw [h, Bool.and_false]; rfl
theorem same_no4 {s1 s2 : List ByteArray} {c1 c2 : List (Int × ByteArray)} {f1 f2 : Int} {x1 x2 : Bool} (h : (x1 == x2) = false) : sameB s1 s2 c1 c2 f1 f2 x1 x2 = false := by unfold sameB; rw [h, Bool.and_false]
theorem same_yes {s1 s2 : List ByteArray} {c1 c2 : List (Int × ByteArray)} {f1 f2 : Int} {x1 x2 : Bool} (h1 : s1 = s2) (h2 : c1 = c2) (h3 : (f1 == f2) = true) (h4 : (x1 == x2) = true) : sameB s1 s2 c1 c2 f1 f2 x1 x2 = true := by
  unfold sameB; rw [decide_eq_true h1, decide_eq_true h2, h3, h4]; rfl
set_option maxRecDepth 100000 in
set_option maxHeartbeats 2000000 in
theorem same_any (A1 B1 A2 B2 : Option Addr) (n1 m1 n2 m2 : Nat) (s1 s2 : List ByteArray) (c1 c2 : List (Int × ByteArray)) (f1 f2 : Int) (x1 x2 : Bool) (w : World)
    (hs1 : Es Value.string w w.heap.size A1 s1) (hc1 : Ws w w.heap.size B1 c1) (hs2 : Es Value.string w w.heap.size A2 s2) (hc2 : Ws w w.heap.size B2 c2)
    (ms1 : s1.length ≤ maxLen) (mc1 : c1.length ≤ maxLen) (ms2 : s2.length ≤ maxLen) (mc2 : c2.length ≤ maxLen) :
    Calls Tryz.prog 106 #[.agg #[.slice A1 s1.length n1, .slice B1 c1.length m1, .int .i64 f1, .bool x1], .agg #[.slice A2 s2.length n2, .slice B2 c2.length m2, .int .i64 f2, .bool x2]] w
      fun e w' => e = .returned (.bool (sameB s1 s2 c1 c2 f1 f2 x1 x2)) ∧ Below w.heap.size w w' := by
  have HS1 := Lib.hid hs1; clear hs1
  have HS2 := Lib.hid hs2; clear hs2
  have HC1 := Lib.hid hc1; clear hc1
  have HC2 := Lib.hid hc2; clear hc2
  have MS1 := Lib.hid ms1; clear ms1
  have MS2 := Lib.hid ms2; clear ms2
  have MC1 := Lib.hid mc1; clear mc1
  have MC2 := Lib.hid mc2; clear mc2
  unfold sameB
  go_enter Tryz.func106, Tryz.ntmps106
  go_wp2_with fail
  refine (eqStr_any A1 A2 n1 n2 s1 s2 _ _ (HS1.out.up below2) (HS2.out.up below2) MS1.out MS2.out).mono ?_
  rintro e w1 ⟨rfl, k1, rfl⟩
  cases h1 : decide (s1 = s2) with
  | false =>
    go_wp2_with fail
    go_ret
    exact ⟨ret_bool (by rw [h1]; rfl), ext_drewN below2 _⟩
  | true =>
    go_wp2_with fail
    refine (eqWr_any B1 B2 m1 m2 c1 c2 _ _ (HC1.out.up (ext_drewN below2 _)) (HC2.out.up (ext_drewN below2 _)) MC1.out MC2.out).mono ?_
    rintro e w2 ⟨rfl, k2, rfl⟩
    cases h2 : decide (c1 = c2) with
    | false =>
      go_wp2_with fail
      go_ret
      exact ⟨ret_bool (by rw [h1, h2]; rfl), ext_drewN below2 _⟩
    | true =>
      cases h3 : f1 == f2 with
      | false =>
        go_wp2_with fail
        go_ret
        exact ⟨ret_bool (by rw [h1, h2, h3]; rfl), ext_drewN below2 _⟩
      | true =>
        go_wp2_with fail
        go_ret
        exact ⟨ret_bool (by rw [h1, h2, h3]; rfl), ext_drewN below2 _⟩
set_option maxRecDepth 100000 in
set_option maxHeartbeats 2000000 in
theorem rsame_any (A1 B1 A2 B2 : Option Addr) (n1 m1 n2 m2 : Nat) (s1 s2 : List ByteArray) (c1 c2 : List (Int × ByteArray)) (f1 f2 : Int) (x1 x2 : Bool) (w : World)
    (hs1 : Es Value.string w w.heap.size A1 s1) (hc1 : Ws w w.heap.size B1 c1) (hs2 : Es Value.string w w.heap.size A2 s2) (hc2 : Ws w w.heap.size B2 c2)
    (ms1 : s1.length ≤ maxLen) (mc1 : c1.length ≤ maxLen) :
    Calls Tryz.prog 104 #[.agg #[.slice A1 s1.length n1, .slice B1 c1.length m1, .int .i64 f1, .bool x1], .agg #[.slice A2 s2.length n2, .slice B2 c2.length m2, .int .i64 f2, .bool x2]] w
      fun e w' => e = .returned (.bool (sameB s1 s2 c1 c2 f1 f2 x1 x2)) ∧ Below w.heap.size w w' := by
  unfold maxLen at ms1 mc1
  have hgd := wr_guard
  have HS1 := Lib.hid hs1; clear hs1
  have HS2 := Lib.hid hs2; clear hs2
  have HC1 := Lib.hid hc1; clear hc1
  have HC2 := Lib.hid hc2; clear hc2
  by_cases hl : s1.length = s2.length
  rotate_left
  · rw [same_no1 (fun e => hl (by rw [e]))]
    have hli : ((s1.length : Int) == (s2.length : Int)) = false := by rw [beq_eq_false_iff_ne]; omega
    have hnb : ((s1.length : Int) != (s2.length : Int)) = true := by simp [bne, hli]
    clear hl
    go_enter Tryz.func104, Tryz.ntmps104
    go_wp2
    go_ret
    exact ⟨rfl, below2⟩
  by_cases hk : c1.length = c2.length
  rotate_left
  · rw [same_no2 (fun e => hk (by rw [e]))]
    have hli : ((s1.length : Int) == (s2.length : Int)) = true := by simp [hl]
    have hnb : ((s1.length : Int) != (s2.length : Int)) = false := by simp [bne, hli]
    have hki : ((c1.length : Int) == (c2.length : Int)) = false := by rw [beq_eq_false_iff_ne]; omega
    have hkb : ((c1.length : Int) != (c2.length : Int)) = true := by simp [bne, hki]
    clear hl hk
    go_enter Tryz.func104, Tryz.ntmps104
    go_wp2
    go_ret
    exact ⟨rfl, below2⟩
  have HL := Lib.hid hl
  have HK := Lib.hid hk
  have hli : ((s1.length : Int) == (s2.length : Int)) = true := by simp [hl]
  have hnb : ((s1.length : Int) != (s2.length : Int)) = false := by simp [bne, hli]
  have hki : ((c1.length : Int) == (c2.length : Int)) = true := by simp [hk]
  have hkb : ((c1.length : Int) != (c2.length : Int)) = false := by simp [bne, hki]
  clear hl hk
  cases h3 : (f1 == f2) with
  | false =>
    rw [same_no3 h3]
    have h3b : (f1 != f2) = true := by simp [bne, h3]
    go_enter Tryz.func104, Tryz.ntmps104
    go_wp2
    go_ret
    exact ⟨rfl, below2⟩
  | true =>
  have h3b : (f1 != f2) = false := by simp [bne, h3]
  cases h4 : (x1 == x2) with
  | false =>
    rw [same_no4 h4]
    have h4b : (x1 != x2) = true := by simp [bne, h4]
    go_enter Tryz.func104, Tryz.ntmps104
    go_wp2
    go_ret
    exact ⟨rfl, below2⟩
  | true =>
  have h4b : (x1 != x2) = false := by simp [bne, h4]
  have hn1 := @same_no1 s1 s2 c1 c2 f1 f2 x1 x2
  have hn2 := @same_no2 s1 s2 c1 c2 f1 f2 x1 x2
  have hy := fun e1 e2 => @same_yes s1 s2 c1 c2 f1 f2 x1 x2 e1 e2 h3 h4
  generalize sameB s1 s2 c1 c2 f1 f2 x1 x2 = r at *
  have HN1 := Lib.hid hn1; clear hn1
  have HN2 := Lib.hid hn2; clear hn2
  have HY := Lib.hid hy; clear hy
  go_enter Tryz.func104, Tryz.ntmps104
  go_wp2
  go_loopw [5] (fun i wr => ∃ k n : Nat, k ≤ s1.length ∧ i = .int .i64 k ∧ Hid (s1.take k = s2.take k) ∧ wr = ((w.alloc (.cells #[.slice A1 s1.length n1, .slice B1 c1.length m1, .int .i64 f1, .bool x1] 30)).alloc (.cells #[.slice A2 s2.length n2, .slice B2 c2.length m2, .int .i64 f2, .bool x2] 30)).drewN n) (fun i _ => s1.length - (intOf i).toNat)
  case atStart => exact ⟨0, 0, by omega, rfl, by simp [Hid], rfl⟩
  case round =>
    obtain ⟨k, n, hk, rfl, hp, rfl⟩ := hrel
    by_cases hlt : k < s1.length
    · have hlt2 : k < s2.length := by rw [← HL.out]; exact hlt
      obtain ⟨a1, rfl, hb1, hc1⟩ := HS1.out k s1[k] (List.getElem?_eq_getElem hlt)
      obtain ⟨a2, rfl, hb2, hc2⟩ := HS2.out k s2[k] (List.getElem?_eq_getElem hlt2)
      have hd1 := cell_past2 hc1
      have hd2 := cell_past2 hc2
      have hs := eq_take_step hlt hlt2 hp.out
      have hh := eq_take_no hlt hlt2
      have HS := Lib.hid hs; clear hs
      have HH := Lib.hid hh; clear hh
      clear hp hc1 hc2
      generalize s1[k] = x at *
      generalize s2[k] = y at *
      by_cases hxy : x = y
      · have he : (x.toList == y.toList) = true := by rw [text_eq, decide_eq_true hxy]
        have HX := Lib.hid hxy; clear hxy
        go_wp2
        go_quiet (fail)
        go_wp2
        go_roundw
        case rel => exact ⟨k + 1, _, by omega, by go_num, HS.out HX.out, rfl⟩
        case measure => simp [intOf]; omega
      · have he : (x.toList == y.toList) = false := by rw [text_eq, decide_eq_false hxy]
        have hne := HN1.out (HH.out hxy)
        have HN := Lib.hid hne; clear hne
        clear hxy HH HS
        go_wp2
        go_quiet (fail)
        go_wp2
        go_ret
        exact ⟨ret_bool HN.out.symm, ext_drewN (ext_drewN below2 _) _⟩
    · obtain rfl : k = s1.length := by omega
      have hq := eq_take_yes HL.out hp.out
      have HQ := Lib.hid hq; clear hq
      clear hp
      go_wp2
      go_loopw [6] (fun i wr => ∃ k n : Nat, k ≤ c1.length ∧ i = .int .i64 k ∧ Hid (c1.take k = c2.take k) ∧ wr = ((w.alloc (.cells #[.slice A1 s1.length n1, .slice B1 c1.length m1, .int .i64 f1, .bool x1] 30)).alloc (.cells #[.slice A2 s2.length n2, .slice B2 c2.length m2, .int .i64 f2, .bool x2] 30)).drewN n) (fun i _ => c1.length - (intOf i).toNat)
      case atStart => exact ⟨0, _, by omega, rfl, by simp [Hid], rfl⟩
      case round =>
        obtain ⟨k, n, hk, rfl, hp, rfl⟩ := hrel
        by_cases hlt : k < c1.length
        · have hlt2 : k < c2.length := by rw [← HK.out]; exact hlt
          obtain ⟨a1, rfl, hb1, hc1, hd1⟩ := HC1.out k c1[k] (List.getElem?_eq_getElem hlt)
          obtain ⟨a2, rfl, hb2, hc2, hd2⟩ := HC2.out k c2[k] (List.getElem?_eq_getElem hlt2)
          have he1 := cell_past2 hc1
          have he2 := cell_past2 hc2
          have hf1 := cell_past2 hd1
          have hf2 := cell_past2 hd2
          have hs := eq_take_step hlt hlt2 hp.out
          have hh := eq_take_no hlt hlt2
          have HS := Lib.hid hs; clear hs
          have HH := Lib.hid hh; clear hh
          clear hp hc1 hc2 hd1 hd2
          generalize c1[k] = x at *
          generalize c2[k] = y at *
          have hq := wr_neq x y
          by_cases hxy : x = y
          · rw [decide_eq_true hxy] at hq
            have HX := Lib.hid hxy; clear hxy
            go_wp2
            go_quiet (fail)
            go_wp2
            go_roundw
            case rel => exact ⟨k + 1, _, by omega, by go_num, HS.out HX.out, rfl⟩
            case measure => simp [intOf]; omega
          · rw [decide_eq_false hxy] at hq
            have hne := HN2.out (HH.out hxy)
            have HN := Lib.hid hne; clear hne
            clear hxy HH HS
            go_wp2
            go_quiet (fail)
            go_wp2
            go_ret
            exact ⟨ret_bool HN.out.symm, ext_drewN (ext_drewN below2 _) _⟩
        · obtain rfl : k = c1.length := by omega
          have hq := HY.out HQ.out (eq_take_yes HK.out hp.out)
          have HR := Lib.hid hq; clear hq
          clear hp
          go_wp2
          go_ret
          exact ⟨ret_bool HR.out.symm, ext_drewN below2 _⟩
end Go.Proofs.YtbmpdmomagkkmaaGreatDoor
