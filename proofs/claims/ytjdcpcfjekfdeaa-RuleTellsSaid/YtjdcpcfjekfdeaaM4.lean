/- Masks: what the functions over lists answer, for every argument within its type; no other condition but that the lists lie in memory. -/
import Derived.Test.YtjdcpcfjekfdeaaM3
namespace Go.Proofs.Ytjdcpcfjekfdeaa
open Go.RowKit

/-- A slice that reads as a list of numbers of one kind. -/
def Cs (k : IntKind) (w : World) (B : Nat) (A : Option Addr) (l : List Int) : Prop := ∀ j x, l[j]? = some x → ∃ a, A = some a ∧ a.block < B ∧ w.cell? (a.add j) = some (.int k x)

theorem cs_nil (k : IntKind) (w : World) (B : Nat) (A : Option Addr) : Cs k w B A [] := by intro j x h; simp at h
theorem Cs.below {k : IntKind} {w w' : World} {B B' : Nat} {A : Option Addr} {l : List Int} (h : Cs k w B A l) (hb : Below B w w') (hB : B ≤ B') : Cs k w' B' A l := by
  intro j x hj
  obtain ⟨a, ha, hlt, hc⟩ := h j x hj
  exact ⟨a, ha, by omega, (hb.cell (p := a.add j) (by unfold Addr.add; split <;> simpa using hlt)).trans hc⟩

theorem cs_new (k : IntKind) (w : World) (l : List Int) (t : TypeId) : Cs k (w.alloc (.cells (l.map (Value.int k)).toArray t)) (w.heap.size + 1) (some ⟨w.heap.size, 0, none⟩) l := by
  intro j x hj
  refine ⟨_, rfl, Nat.lt_succ_self _, ?_⟩
  have : (⟨w.heap.size, 0, none⟩ : Addr).add j = ⟨w.heap.size, j, none⟩ := by unfold Addr.add; split <;> simp_all
  rw [this, World.cell?_alloc_mark w _ t (0, 0)]
  simp [hj]

theorem or_one (q : Nat) (x : Int) (hq : q < 4294967296) (h0 : 0 ≤ x) (h1 : x < 32) : bits .or .u32 (q : Int) (2 ^ x.toNat % 4294967296) = ((q ||| oneB x : Nat) : Int) := by
  obtain ⟨k, rfl⟩ := Int.eq_ofNat_of_zero_le h0
  have e : ((2 : Int) ^ ((k : Int)).toNat % 4294967296) = ((pw k : Nat) : Int) := by
    have hp := pw_lt k (by omega)
    have : (2 : Int) ^ ((k : Int)).toNat = ((pw k : Nat) : Int) := by
      unfold pw
      rw [Int.toNat_natCast, Int.natCast_pow]; rfl
    rw [this]; omega
  have e2 : oneB k = pw k := by unfold oneB; rw [if_pos ⟨h0, h1⟩, Int.toNat_natCast]; rfl
  rw [e, e2, u32_or_nat q _ hq (pw_lt k (by omega))]

theorem hasB_lo {m : Nat} {x : Int} (h : x < 0) : hasB m x = false := by
  unfold hasB
  have : ¬ 0 ≤ x := by omega
  simp [this]
theorem hasB_hi {m : Nat} {x : Int} (h : 32 ≤ x) : hasB m x = false := by
  unfold hasB
  have : ¬ x < 32 := by omega
  simp [this]
theorem hasB_yes {m : Nat} {x : Int} (h : hasB m x = true) : 0 ≤ x ∧ x < 32 := by
  unfold hasB at h
  simp only [Bool.and_eq_true, decide_eq_true_eq] at h
  exact ⟨h.1, h.2.1⟩
theorem set_step2 (m : Nat) (x : Int) (h0 : 0 ≤ x) (h1 : x < 32) (h : hasB m x = false) : m ||| oneB x = m + pw x.toNat := (set_step m x h0 h1 h).symm

set_option maxHeartbeats 1000000 in
theorem rset_any (m : Nat) (A : Option Addr) (c : Nat) (l : List Int) (w : World) (B : Nat) (hm : m < 4294967296) (h : Cs .i64 w B A l) (hl : l.length ≤ maxLen) :
    Calls Try.prog 36 #[.int .u32 m, .slice A l.length c] w fun e w' => e = .returned (.int .u32 (setB m l : Nat)) ∧ w' = w := by
  unfold maxLen at hl
  have H1 := Lib.hid h; clear h
  go_enter Try.func36, Try.ntmps36
  go_wp2
  go_loop [0, 5] (fun q i => ∃ k : Nat, k ≤ l.length ∧ i = .int .i64 k ∧ q = .int .u32 (setB m (l.take k) : Nat)) (fun _ i => l.length - (intOf i).toNat)
  case atStart => exact ⟨0, by omega, rfl, by rw [List.take_zero]; unfold setB ofB; simp⟩
  case round =>
    obtain ⟨k, hk, rfl, rfl⟩ := hrel
    by_cases hlt : k < l.length
    · obtain ⟨a1, rfl, hb1, hc1⟩ := H1.out k l[k] (List.getElem?_eq_getElem hlt)
      have hs : setB m (l.take (k + 1)) = setB m (l.take k) ||| oneB l[k] := by rw [take_snoc l k hlt, setB_snoc]
      have hq := setB_lt hm (l.take k)
      have hq2 := setB_lt hm (l.take (k + 1))
      rw [hs] at hq2
      generalize l[k] = x at *
      generalize setB m (l.take k) = q at *
      have HS := Lib.hid hs; clear hs
      by_cases h0 : x < 0
      · rw [set_none q x (by omega)] at HS hq2
        go_wp2
        go_round
        case rel => exact ⟨k + 1, by omega, by go_num, by rw [HS.out]⟩
        case measure => simp [intOf]; omega
      · by_cases h1 : 32 ≤ x
        · rw [set_none q x (by omega)] at HS hq2
          go_wp2
          go_round
          case rel => exact ⟨k + 1, by omega, by go_num, by rw [HS.out]⟩
          case measure => simp [intOf]; omega
        · have hh := fun w => rhas_any q x w
          cases hx : hasB q x with
          | true =>
            rw [set_had q x hx] at HS hq2
            go_wp2_with fail
            refine (hh _).mono ?_
            rintro e w1 ⟨rfl, rfl⟩
            rw [hx]
            go_wp2_with fail
            go_round
            case rel => exact ⟨k + 1, by omega, by go_num, by rw [HS.out]⟩
            case measure => simp [intOf]; omega
          | false =>
            rw [set_step2 q x (by omega) (by omega) hx] at HS hq2
            have hpow := fun w => pow_any x.toNat w (by omega)
            rw [Int.toNat_of_nonneg (by omega)] at hpow
            generalize pw x.toNat = p at *
            go_wp2_with fail
            refine (hh _).mono ?_
            rintro e w1 ⟨rfl, rfl⟩
            rw [hx]
            go_wp2_with fail
            refine (hpow _).mono ?_
            rintro e w2 ⟨rfl, rfl⟩
            go_wp2_with fail
            go_round
            case rel => exact ⟨k + 1, by omega, by go_num, by rw [HS.out]; go_num⟩
            case measure => simp [intOf]; omega
    · obtain rfl : k = l.length := by omega
      rw [List.take_length]
      go_wp2
      go_ret
      exact ⟨rfl, rfl⟩

theorem clrB_nil (m : Nat) (hm : m < 4294967296) : clrB m [] = m := by
  apply Nat.eq_of_testBit_eq
  intro j
  rw [clrB_bit _ _ _ hm]; simp
end Go.Proofs.Ytjdcpcfjekfdeaa
