/- Masks: what the functions over lists answer, for every argument within its type; no other condition but that the lists lie in memory. -/
import Derived.Test.YtfimmodiainlaaaDoorM3
namespace Go.Proofs.YtfimmodiainlaaaDoor
open Go.RowKit

/-- A slice that reads as a list of numbers of one kind. -/
def Cs (k : IntKind) (w : World) (B : Nat) (A : Option Addr) (l : List Int) : Prop := ∀ j x, l[j]? = some x → ∃ a, A = some a ∧ a.block < B ∧ w.cell? (a.add j) = some (.int k x)

theorem cs_nil (k : IntKind) (w : World) (B : Nat) (A : Option Addr) : Cs k w B A [] := by intro j x h; simp at h
theorem Cs.below {k : IntKind} {w w' : World} {B B' : Nat} {A : Option Addr} {l : List Int} (h : Cs k w B A l) (hb : Below B w w') (hB : B ≤ B') : Cs k w' B' A l := by
  intro j x hj
  obtain ⟨a, ha, hlt, hc⟩ := h j x hj
  exact ⟨a, ha, by omega, (hb.cell (p := a.add j) (by unfold Addr.add; split <;> simpa using hlt)).trans hc⟩

theorem cs_new (k : IntKind) (w : World) (l : List Int) (t : TypeId) : Cs k (w.alloc (.cells (l.map (Value.int k)).toArray t)) (w.heap.size + 1) (some ⟨w.heap.size, 0, none⟩) l := by
  intro j x hj
  refine ⟨_, rfl, Nat.lt_succ_self _, ?_⟩
  have : (⟨w.heap.size, 0, none⟩ : Addr).add j = ⟨w.heap.size, j, none⟩ := by unfold Addr.add; split <;> simp_all
  rw [this, World.cell?_alloc_mark w _ t (0, 0)]
  simp [hj]

theorem or_one (q : Nat) (x : Int) (hq : q < 4294967296) (h0 : 0 ≤ x) (h1 : x < 32) : bits .or .u32 (q : Int) (2 ^ x.toNat % 4294967296) = ((q ||| oneB x : Nat) : Int) := by
  obtain ⟨k, rfl⟩ := Int.eq_ofNat_of_zero_le h0
  have e : ((2 : Int) ^ ((k : Int)).toNat % 4294967296) = ((pw k : Nat) : Int) := by
    have hp := pw_lt k (by omega)
    have : (2 : Int) ^ ((k : Int)).toNat = ((pw k : Nat) : Int) := by
      unfold pw
      rw [Int.toNat_natCast, Int.natCast_pow]; rfl
    rw [this]; omega
  have e2 : oneB k = pw k := by unfold oneB; rw [if_pos ⟨h0, h1⟩, Int.toNat_natCast]; rfl
  rw [e, e2, u32_or_nat q _ hq (pw_lt k (by omega))]

set_option maxHeartbeats 400000 in
theorem of_any (A : Option Addr) (c : Nat) (l : List Int) (w : World) (B : Nat) (h : Cs .i64 w B A l) (hm : l.length ≤ maxLen) :
    Calls Tryd.prog 27 #[.slice A l.length c] w fun e w' => e = .returned (.int .u32 (ofB l : Nat)) ∧ w' = w := by
  unfold maxLen at hm
  have H1 := Lib.hid h; clear h
  go_enter Tryd.func27, Tryd.ntmps27
  go_wp2
  go_loop [3, 8] (fun m i => ∃ k : Nat, k ≤ l.length ∧ i = .int .i64 k ∧ m = .int .u32 (ofB (l.take k) : Nat)) (fun _ i => l.length - (intOf i).toNat)
  case atStart => exact ⟨0, by omega, rfl, rfl⟩
  case round =>
    obtain ⟨k, hk, rfl, rfl⟩ := hrel
    by_cases hlt : k < l.length
    · obtain ⟨a1, rfl, hb1, hc1⟩ := H1.out k l[k] (List.getElem?_eq_getElem hlt)
      have hs : ofB (l.take (k + 1)) = ofB (l.take k) ||| oneB l[k] := by rw [take_snoc l k hlt, ofB_snoc]
      have hq := ofB_lt (l.take k)
      generalize l[k] = x at *
      generalize ofB (l.take k) = q at *
      have HS := Lib.hid hs; clear hs
      by_cases hx : 0 ≤ x ∧ x < 32
      · obtain ⟨h0, h1⟩ := hx
        go_wp2
        go_round
        case rel => exact ⟨k + 1, by omega, by go_num, by rw [HS.out, ← or_one q x hq h0 h1]⟩
        case measure => simp [intOf]; omega
      · rw [set_none q x hx] at HS
        by_cases h0 : x < 0
        · clear hx
          go_wp2
          go_round
          case rel => exact ⟨k + 1, by omega, by go_num, by rw [HS.out]⟩
          case measure => simp [intOf]; omega
        · have h1 : 32 ≤ x := by omega
          clear hx
          go_wp2
          go_round
          case rel => exact ⟨k + 1, by omega, by go_num, by rw [HS.out]⟩
          case measure => simp [intOf]; omega
    · obtain rfl : k = l.length := by omega
      rw [List.take_length]
      go_wp2
      go_ret
      exact ⟨rfl, rfl⟩

set_option maxHeartbeats 400000 in
theorem has_any (m : Nat) (i : Int) (w : World) (hm : m < 4294967296) :
    Calls Tryd.prog 9 #[.int .u32 m, .int .i64 i] w fun e w' => e = .returned (.bool (hasB m i)) ∧ Below w.heap.size w w' := by
  have ho := oneB_lt i
  have hb := u32_and_nat m (oneB i) hm ho
  have hh := hasB_one m i
  rw [← nat_bne0, ← hb] at hh
  have hof := of_any (some ⟨w.heap.size, 0, none⟩) 1 [i] _ _ (cs_new .i64 w [i] 3) (by simp [maxLen])
  have e1 : ofB [i] = oneB i := by simp [ofB]
  rw [e1] at hof
  generalize oneB i = x at *
  clear hb
  have HH := Lib.hid hh; clear hh
  go_enter Tryd.func9, Tryd.ntmps9
  go_wp2_with fail
  refine hof.mono ?_
  rintro e w1 ⟨rfl, rfl⟩
  go_wp2_with fail
  go_ret
  exact ⟨ret_bool HH.out, (Below.refl _ _).alloc (Nat.le_refl _) _⟩

set_option maxHeartbeats 400000 in
theorem set_any (m : Nat) (A : Option Addr) (c : Nat) (l : List Int) (w : World) (B : Nat) (hm : m < 4294967296) (h : Cs .i64 w B A l) (hl : l.length ≤ maxLen) :
    Calls Tryd.prog 20 #[.int .u32 m, .slice A l.length c] w fun e w' => e = .returned (.int .u32 (setB m l : Nat)) ∧ w' = w := by
  have hof := of_any A c l w B h hl
  have hs : bits .or .u32 (m : Int) (ofB l : Nat) = ((setB m l : Nat) : Int) := u32_or_nat m (ofB l) hm (ofB_lt l)
  have ho := ofB_lt l
  generalize ofB l = x at *
  have HS := Lib.hid hs; clear hs
  go_enter Tryd.func20, Tryd.ntmps20
  go_wp2_with fail
  refine hof.mono ?_
  rintro e w1 ⟨rfl, rfl⟩
  go_wp2_with fail
  go_ret
  exact ⟨ret_int HS.out, rfl⟩
set_option maxHeartbeats 400000 in
theorem clear_any (m : Nat) (A : Option Addr) (c : Nat) (l : List Int) (w : World) (B : Nat) (hm : m < 4294967296) (h : Cs .i64 w B A l) (hl : l.length ≤ maxLen) :
    Calls Tryd.prog 22 #[.int .u32 m, .slice A l.length c] w fun e w' => e = .returned (.int .u32 (clrB m l : Nat)) ∧ w' = w := by
  have hof := of_any A c l w B h hl
  have hs : bits .andNot .u32 (m : Int) (ofB l : Nat) = ((clrB m l : Nat) : Int) := u32_andNot_nat m (ofB l) hm (ofB_lt l)
  have ho := ofB_lt l
  generalize ofB l = x at *
  have HS := Lib.hid hs; clear hs
  go_enter Tryd.func22, Tryd.ntmps22
  go_wp2_with fail
  refine hof.mono ?_
  rintro e w1 ⟨rfl, rfl⟩
  go_wp2_with fail
  go_ret
  exact ⟨ret_int HS.out, rfl⟩

theorem hasB_lo {m : Nat} {x : Int} (h : x < 0) : hasB m x = false := by
  unfold hasB
  have : ¬ 0 ≤ x := by omega
  simp [this]
theorem hasB_hi {m : Nat} {x : Int} (h : 32 ≤ x) : hasB m x = false := by
  unfold hasB
  have : ¬ x < 32 := by omega
  simp [this]
theorem hasB_yes {m : Nat} {x : Int} (h : hasB m x = true) : 0 ≤ x ∧ x < 32 := by
  unfold hasB at h
  simp only [Bool.and_eq_true, decide_eq_true_eq] at h
  exact ⟨h.1, h.2.1⟩
theorem set_step2 (m : Nat) (x : Int) (h0 : 0 ≤ x) (h1 : x < 32) (h : hasB m x = false) : m ||| oneB x = m + pw x.toNat := (set_step m x h0 h1 h).symm

set_option maxHeartbeats 1000000 in
theorem rset_any (m : Nat) (A : Option Addr) (c : Nat) (l : List Int) (w : World) (B : Nat) (hm : m < 4294967296) (h : Cs .i64 w B A l) (hl : l.length ≤ maxLen) :
    Calls Tryd.prog 21 #[.int .u32 m, .slice A l.length c] w fun e w' => e = .returned (.int .u32 (setB m l : Nat)) ∧ w' = w := by
  unfold maxLen at hl
  have H1 := Lib.hid h; clear h
  go_enter Tryd.func21, Tryd.ntmps21
  go_wp2
  go_loop [0, 5] (fun q i => ∃ k : Nat, k ≤ l.length ∧ i = .int .i64 k ∧ q = .int .u32 (setB m (l.take k) : Nat)) (fun _ i => l.length - (intOf i).toNat)
  case atStart => exact ⟨0, by omega, rfl, by rw [List.take_zero]; unfold setB ofB; simp⟩
  case round =>
    obtain ⟨k, hk, rfl, rfl⟩ := hrel
    by_cases hlt : k < l.length
    · obtain ⟨a1, rfl, hb1, hc1⟩ := H1.out k l[k] (List.getElem?_eq_getElem hlt)
      have hs : setB m (l.take (k + 1)) = setB m (l.take k) ||| oneB l[k] := by rw [take_snoc l k hlt, setB_snoc]
      have hq := setB_lt hm (l.take k)
      have hq2 := setB_lt hm (l.take (k + 1))
      rw [hs] at hq2
      generalize l[k] = x at *
      generalize setB m (l.take k) = q at *
      have HS := Lib.hid hs; clear hs
      by_cases h0 : x < 0
      · rw [set_none q x (by omega)] at HS hq2
        go_wp2
        go_round
        case rel => exact ⟨k + 1, by omega, by go_num, by rw [HS.out]⟩
        case measure => simp [intOf]; omega
      · by_cases h1 : 32 ≤ x
        · rw [set_none q x (by omega)] at HS hq2
          go_wp2
          go_round
          case rel => exact ⟨k + 1, by omega, by go_num, by rw [HS.out]⟩
          case measure => simp [intOf]; omega
        · have hh := fun w => rhas_any q x w
          cases hx : hasB q x with
          | true =>
            rw [set_had q x hx] at HS hq2
            go_wp2_with fail
            refine (hh _).mono ?_
            rintro e w1 ⟨rfl, rfl⟩
            rw [hx]
            go_wp2_with fail
            go_round
            case rel => exact ⟨k + 1, by omega, by go_num, by rw [HS.out]⟩
            case measure => simp [intOf]; omega
          | false =>
            rw [set_step2 q x (by omega) (by omega) hx] at HS hq2
            have hpow := fun w => pow_any x.toNat w (by omega)
            rw [Int.toNat_of_nonneg (by omega)] at hpow
            generalize pw x.toNat = p at *
            go_wp2_with fail
            refine (hh _).mono ?_
            rintro e w1 ⟨rfl, rfl⟩
            rw [hx]
            go_wp2_with fail
            refine (hpow _).mono ?_
            rintro e w2 ⟨rfl, rfl⟩
            go_wp2_with fail
            go_round
            case rel => exact ⟨k + 1, by omega, by go_num, by rw [HS.out]; go_num⟩
            case measure => simp [intOf]; omega
    · obtain rfl : k = l.length := by omega
      rw [List.take_length]
      go_wp2
      go_ret
      exact ⟨rfl, rfl⟩

theorem clrB_nil (m : Nat) (hm : m < 4294967296) : clrB m [] = m := by
  apply Nat.eq_of_testBit_eq
  intro j
  rw [clrB_bit _ _ _ hm]; simp

set_option maxHeartbeats 1000000 in
theorem rclear_any (m : Nat) (A : Option Addr) (c : Nat) (l : List Int) (w : World) (B : Nat) (hm : m < 4294967296) (h : Cs .i64 w B A l) (hl : l.length ≤ maxLen) :
    Calls Tryd.prog 23 #[.int .u32 m, .slice A l.length c] w fun e w' => e = .returned (.int .u32 (clrB m l : Nat)) ∧ w' = w := by
  unfold maxLen at hl
  have H1 := Lib.hid h; clear h
  go_enter Tryd.func23, Tryd.ntmps23
  go_wp2
  go_loop [0, 5] (fun q i => ∃ k : Nat, k ≤ l.length ∧ i = .int .i64 k ∧ q = .int .u32 (clrB m (l.take k) : Nat)) (fun _ i => l.length - (intOf i).toNat)
  case atStart => exact ⟨0, by omega, rfl, by rw [List.take_zero, show clrB m [] = m from clrB_nil m hm]⟩
  case round =>
    obtain ⟨k, hk, rfl, rfl⟩ := hrel
    by_cases hlt : k < l.length
    · obtain ⟨a1, rfl, hb1, hc1⟩ := H1.out k l[k] (List.getElem?_eq_getElem hlt)
      have hs : clrB m (l.take (k + 1)) = clrB m (l.take k) &&& (4294967295 - oneB l[k]) := by rw [take_snoc l k hlt, clrB_snoc m _ _ hm]
      have hq := clrB_lt hm (l.take k)
      generalize l[k] = x at *
      generalize clrB m (l.take k) = q at *
      have hh := fun w => rhas_any q x w
      have HS := Lib.hid hs; clear hs
      cases hx : hasB q x with
      | false =>
        rw [clr_none q x hq hx] at HS
        go_wp2_with fail
        refine (hh _).mono ?_
        rintro e w1 ⟨rfl, rfl⟩
        rw [hx]
        go_wp2_with fail
        go_round
        case rel => exact ⟨k + 1, by omega, by go_num, by rw [HS.out]⟩
        case measure => simp [intOf]; omega
      | true =>
        obtain ⟨g1, g2⟩ := clr_had q x hq hx
        rw [← g2] at HS
        have hx2 := hasB_yes hx
        obtain ⟨hx0, hx1⟩ := hx2
        have hpow := fun w => pow_any x.toNat w (by omega)
        rw [Int.toNat_of_nonneg hx0] at hpow
        rw [show 2 ^ x.toNat = pw x.toNat from rfl] at g1 HS
        clear g2
        generalize pw x.toNat = p at *
        go_wp2_with fail
        refine (hh _).mono ?_
        rintro e w1 ⟨rfl, rfl⟩
        rw [hx]
        go_wp2_with fail
        refine (hpow _).mono ?_
        rintro e w2 ⟨rfl, rfl⟩
        go_wp2_with fail
        go_round
        case rel => exact ⟨k + 1, by omega, by go_num, by rw [HS.out]; go_num⟩
        case measure => simp [intOf]; omega
    · obtain rfl : k = l.length := by omega
      rw [List.take_length]
      go_wp2
      go_ret
      exact ⟨rfl, rfl⟩

set_option maxHeartbeats 400000 in
theorem union_any (A : Option Addr) (c : Nat) (l : List Nat) (w : World) (B : Nat) (h : Cs .u32 w B A (l.map fun (x : Nat) => (x : Int))) (hlt2 : ∀ x ∈ l, x < 4294967296) (hm : l.length ≤ maxLen) :
    Calls Tryd.prog 24 #[.slice A l.length c] w fun e w' => e = .returned (.int .u32 (uniB l : Nat)) ∧ w' = w := by
  unfold maxLen at hm
  have H1 := Lib.hid h; clear h
  have H2 := Lib.hid hlt2; clear hlt2
  go_enter Tryd.func24, Tryd.ntmps24
  go_wp2
  go_loop [3, 8] (fun m i => ∃ k : Nat, k ≤ l.length ∧ i = .int .i64 k ∧ m = .int .u32 (uniB (l.take k) : Nat)) (fun _ i => l.length - (intOf i).toNat)
  case atStart => exact ⟨0, by omega, rfl, rfl⟩
  case round =>
    obtain ⟨k, hk, rfl, rfl⟩ := hrel
    by_cases hlt : k < l.length
    · obtain ⟨a1, rfl, hb1, hc1⟩ := H1.out k (l[k] : Int) (by simp [hlt])
      have hs : uniB (l.take (k + 1)) = uniB (l.take k) ||| l[k] := by rw [take_snoc l k hlt, uniB_snoc]
      have hq := uniB_lt (l.take k) fun x hx => H2.out x (List.mem_of_mem_take hx)
      have hx := H2.out _ (List.getElem_mem hlt)
      generalize l[k] = x at *
      generalize uniB (l.take k) = q at *
      have HS := Lib.hid hs; clear hs
      go_wp2
      go_round
      case rel => exact ⟨k + 1, by omega, by go_num, by rw [HS.out, ← u32_or_nat q x hq hx]⟩
      case measure => simp [intOf]; omega
    · obtain rfl : k = l.length := by omega
      rw [List.take_length]
      go_wp2
      go_ret
      exact ⟨rfl, rfl⟩

set_option maxHeartbeats 400000 in
theorem same_yes (k1 k2 : Option Addr) (c1 c2 : Nat) (l : List Int) (w : World) (B : Nat) (h1 : Cs .i64 w B k1 l) (h2 : Cs .i64 w B k2 l) (hm : l.length ≤ maxLen) :
    Calls Tryd.prog 17 #[.slice k1 l.length c1, .slice k2 l.length c2] w fun e w' => e = .returned (.bool true) ∧ ∃ n, w' = w.drewN n := by
  unfold maxLen at hm
  have H1 := Lib.hid h1; clear h1
  have H2 := Lib.hid h2; clear h2
  go_enter Tryd.func17, Tryd.ntmps17
  go_wp2
  go_loopw [5] (fun i wr => ∃ k n : Nat, k ≤ l.length ∧ i = .int .i64 k ∧ wr = w.drewN n) (fun i _ => l.length - (intOf i).toNat)
  case atStart => exact ⟨0, 0, by omega, rfl, rfl⟩
  case round =>
    obtain ⟨k, n, hk, rfl, rfl⟩ := hrel
    by_cases hlt : k < l.length
    · obtain ⟨a1, rfl, hb1, hc1⟩ := H1.out k l[k] (List.getElem?_eq_getElem hlt)
      obtain ⟨a2, rfl, hb2, hc2⟩ := H2.out k l[k] (List.getElem?_eq_getElem hlt)
      generalize l[k] = x at *
      go_wp2
      go_quiet (fail)
      go_wp2
      go_roundw
      case rel => exact ⟨k + 1, _, by omega, by go_num, rfl⟩
      case measure => simp [intOf]; omega
    · go_wp2
      go_ret
      exact ⟨rfl, _, rfl⟩
end Go.Proofs.YtfimmodiainlaaaDoor
