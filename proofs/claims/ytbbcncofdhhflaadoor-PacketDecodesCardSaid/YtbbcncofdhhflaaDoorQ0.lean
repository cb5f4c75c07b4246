/- A hello as numbers: its ten cells, whether it may be, and ten cells of a block of the call's own. No condition. -/
import Derived.Test.YtbbcncofdhhflaaDoorR0
import Derived.Test.YtbbcncofdhhflaaDoorM0
namespace Go.Proofs.YtbbcncofdhhflaaDoor
open Go.RowKit

/-- A hello as numbers. -/
structure Hel where
  n : Int
  c : Int
  b : Int
  o : Int
  p : Int
  i : Bool
  r : Bool
  d : Bool
  q : Bool
  m : Nat

/-- Its cells. -/
@[reducible] def helC (h : Hel) : List Value := [.int .i64 h.n, .int .u64 h.c, .int .u64 h.b, .int .u64 h.o, .int .u64 h.p, .bool h.i, .bool h.r, .bool h.d, .bool h.q, .int .u32 (h.m : Int)]

@[reducible] def helV (h : Hel) : Value := .agg #[.int .i64 h.n, .int .u64 h.c, .int .u64 h.b, .int .u64 h.o, .int .u64 h.p, .bool h.i, .bool h.r, .bool h.d, .bool h.q, .int .u32 (h.m : Int)]

/-- Its generations are numbers of eight bytes, its mask one of four. -/
def Hel.wide (h : Hel) : Prop := (0 ≤ h.c ∧ h.c < 18446744073709551616) ∧ (0 ≤ h.b ∧ h.b < 18446744073709551616) ∧ (0 ≤ h.o ∧ h.o < 18446744073709551616) ∧ (0 ≤ h.p ∧ h.p < 18446744073709551616) ∧ h.m < 4294967296

/-- May it be? -/
def Hel.right (h : Hel) : Bool := !decide (h.c = 0) && mrightB h.m h.n && !(h.q && (h.r || h.i))

def Hel.zero : Hel := ⟨0, 0, 0, 0, 0, false, false, false, false, 0⟩

theorem mright_n {m : Nat} {n : Int} (h : mrightB m n = true) : 1 ≤ n ∧ n ≤ 32 := by
  unfold mrightB at h
  simp at h
  exact h.1

theorem Hel.right_n {h : Hel} (hr : h.right = true) : 1 ≤ h.n ∧ h.n ≤ 32 ∧ h.c ≠ 0 := by
  unfold Hel.right at hr
  simp at hr
  have := mright_n hr.1.2
  exact ⟨this.1, this.2, hr.1.1⟩

theorem Own.ten {w : World} {b : Nat} (h : Own w b 10) : ∃ u0 u1 u2 u3 u4 u5 u6 u7 u8 u9, Box w b [u0, u1, u2, u3, u4, u5, u6, u7, u8, u9] := by
  obtain ⟨vs, hl, hx⟩ := h
  match vs, hl with
  | [u0, u1, u2, u3, u4, u5, u6, u7, u8, u9], _ => exact ⟨_, _, _, _, _, _, _, _, _, _, hx⟩

theorem Box.ten {w : World} {b : Nat} {u0 u1 u2 u3 u4 u5 u6 u7 u8 u9 : Value} (h : Box w b [u0, u1, u2, u3, u4, u5, u6, u7, u8, u9]) (v0 v1 v2 v3 v4 v5 v6 v7 v8 v9 : Value) : Box ((((((((((w.setCell ⟨b, 0, none⟩ v0).setCell ⟨b, 1, none⟩ v1).setCell ⟨b, 2, none⟩ v2).setCell ⟨b, 3, none⟩ v3).setCell ⟨b, 4, none⟩ v4).setCell ⟨b, 5, none⟩ v5).setCell ⟨b, 6, none⟩ v6).setCell ⟨b, 7, none⟩ v7).setCell ⟨b, 8, none⟩ v8).setCell ⟨b, 9, none⟩ v9) b [v0, v1, v2, v3, v4, v5, v6, v7, v8, v9] := (((((((((h.set 0 v0).set 1 v1).set 2 v2).set 3 v3).set 4 v4).set 5 v5).set 6 v6).set 7 v7).set 8 v8).set 9 v9

theorem Held.set10 {W0 w : World} {L : List (Nat × List Value)} {M : List (Nat × Nat)} {b : Nat} (h : Held W0 L M w) (hb : ∃ n, (b, n) ∈ M) (v0 v1 v2 v3 v4 v5 v6 v7 v8 v9 : Value) : Held W0 L M ((((((((((w.setCell ⟨b, 0, none⟩ v0).setCell ⟨b, 1, none⟩ v1).setCell ⟨b, 2, none⟩ v2).setCell ⟨b, 3, none⟩ v3).setCell ⟨b, 4, none⟩ v4).setCell ⟨b, 5, none⟩ v5).setCell ⟨b, 6, none⟩ v6).setCell ⟨b, 7, none⟩ v7).setCell ⟨b, 8, none⟩ v8).setCell ⟨b, 9, none⟩ v9) := (((((((((h.set hb 0 v0).set hb 1 v1).set hb 2 v2).set hb 3 v3).set hb 4 v4).set hb 5 v5).set hb 6 v6).set hb 7 v7).set hb 8 v8).set hb 9 v9

section
variable {P : Program} {ops : Array Oper} {Q : Exit → Act → World → Prop} {md : Region.Mode}

theorem stored10 {W0 w : World} {L : List (Nat × List Value)} {M : List (Nat × Nat)} {b fuel : Nat} {listed : Array Bool} {a : Act} {u0 u1 u2 u3 u4 u5 u6 u7 u8 u9 v0 v1 v2 v3 v4 v5 v6 v7 v8 v9 : Value} (h : Held W0 L M w) (hb : ∃ n, (b, n) ∈ M) (hx : Box w b [u0, u1, u2, u3, u4, u5, u6, u7, u8, u9])
    (H : ∀ v, Held W0 L M v → Box v b [v0, v1, v2, v3, v4, v5, v6, v7, v8, v9] → wpAnyH P md ops Q (Held W0 L M) fuel listed a v) : wpAnyH P md ops Q (Held W0 L M) fuel listed a ((((((((((w.setCell ⟨b, 0, none⟩ v0).setCell ⟨b, 1, none⟩ v1).setCell ⟨b, 2, none⟩ v2).setCell ⟨b, 3, none⟩ v3).setCell ⟨b, 4, none⟩ v4).setCell ⟨b, 5, none⟩ v5).setCell ⟨b, 6, none⟩ v6).setCell ⟨b, 7, none⟩ v7).setCell ⟨b, 8, none⟩ v8).setCell ⟨b, 9, none⟩ v9) :=
  H _ (h.set10 hb v0 v1 v2 v3 v4 v5 v6 v7 v8 v9) (hx.ten v0 v1 v2 v3 v4 v5 v6 v7 v8 v9)
end

end Go.Proofs.YtbbcncofdhhflaaDoor
