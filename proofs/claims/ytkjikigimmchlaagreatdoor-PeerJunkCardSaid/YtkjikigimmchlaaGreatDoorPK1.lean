/- Packets: two hellos and two packets compared; the document's block, data, and whether a packet may be. No condition but the width of the mask. -/
import Derived.Test.YtkjikigimmchlaaGreatDoorQ3
import Derived.Test.YtkjikigimmchlaaGreatDoorG3
import Derived.Test.YtkjikigimmchlaaGreatDoorS7d
namespace Go.Proofs.YtkjikigimmchlaaGreatDoor
open Go.RowKit
def helOf (l : List UInt8) : Hel :=
  ⟨((l.getD 0 0).toNat : Int), num8 l 2, num8 l 10, num8 l 18, num8 l 26, decide ((l.getD 1 0).toNat % 2 = 1), decide ((l.getD 1 0).toNat / 2 % 2 = 1), decide ((l.getD 1 0).toNat / 2 / 2 % 2 = 1), decide ((l.getD 1 0).toNat / 2 / 2 / 2 % 2 = 1), val (l.drop 34)⟩
def hformed (l : List UInt8) : Bool := decide (l.length = 38) && decide ((l.getD 1 0).toNat < 16) && (helOf l).right
def hdec (s : ByteArray) : Hel × Int := if hformed s.data.toList then (helOf s.data.toList, 0) else (Hel.zero, 2)
theorem unfl4 (x : Nat) : unfl 4 x = [decide (x % 2 = 1), decide (x / 2 % 2 = 1), decide (x / 2 / 2 % 2 = 1), decide (x / 2 / 2 / 2 % 2 = 1)] := rfl
theorem tail_val (t : ByteArray) (hl : (t.size : Int) = 38) : val (t.extract 34 t.size).data.toList = val (t.data.toList.drop 34) := by
  obtain ⟨⟨l⟩⟩ := t
  have h : l.length = 38 := by have : ((l.length : Nat) : Int) = 38 := hl; omega
  have e : ((⟨⟨l⟩⟩ : ByteArray).extract 34 (⟨⟨l⟩⟩ : ByteArray).size).data.toList = l.drop 34 := by
    have : (⟨⟨l⟩⟩ : ByteArray).size = 38 := h
    rw [this]
    simp [List.extract]
    rw [List.take_of_length_le (by rw [List.length_drop, h]; decide)]
  rw [e]
theorem tail_lt (t : ByteArray) (hl : (t.size : Int) = 38) : val (t.data.toList.drop 34) < 4294967296 := by
  have h := val_lt (t.data.toList.drop 34)
  have e : (t.data.toList.drop 34).length = 4 := by
    have : t.data.toList.length = t.size := rfl
    rw [List.length_drop, this]; omega
  rw [e] at h
  have : (256 : Nat) ^ 4 = 4294967296 := by decide
  omega
theorem get32_b (t : ByteArray) (w : World) (hl : (t.size : Int) = 38) :
    Calls Tryz.prog 159 #[.string (t.extract 34 t.size)] w fun e w' => e = .returned (.tuple #[.int .u32 ((val (t.data.toList.drop 34) : Nat) : Int), .bool true]) ∧ Below w.heap.size w w' := by
  rw [← tail_val t hl]
  refine (get32_yes _ w (by simp; omega)).mono ?_
  rintro e w' ⟨rfl, n, rfl⟩
  exact ⟨rfl, below_drewN (Below.refl _ _) n⟩
theorem rget32_b (t : ByteArray) (w : World) (hl : (t.size : Int) = 38) :
    Calls Tryz.prog 59 #[.string (t.extract 34 t.size)] w fun e w' => e = .returned (.tuple #[.int .u32 ((val (t.data.toList.drop 34) : Nat) : Int), .bool true]) ∧ Below w.heap.size w w' := by
  rw [← tail_val t hl]
  refine (rget32_yes _ w (by simp; omega)).mono ?_
  rintro e w' ⟨rfl, rfl⟩
  exact ⟨rfl, Below.refl _ _⟩
theorem Held.join {W0 w v : World} {M M' : List (Nat × Nat)} (h : Held W0 [] M w) (k : Held w [] M' v) : Held W0 [] (M' ++ M) v := by
  refine ⟨ext h.below k.below, Boxs.nil _, fun y hy => ?_, fun y hy => ?_, fun x hx => by cases hx⟩
  · rcases List.mem_append.1 hy with hy | hy
    · exact k.owns y hy
    · exact (h.owns y hy).below k.below
  · rcases List.mem_append.1 hy with hy | hy
    · exact Nat.le_trans h.below.size (k.high y hy)
    · exact h.high y hy
end Go.Proofs.YtkjikigimmchlaaGreatDoor
namespace Go.Proofs.YtkjikigimmchlaaGreatDoor
open Go.RowKit PX
set_option maxRecDepth 100000
theorem rget64_b (s : ByteArray) (w : World) (h0 : s.size = 8) :
    Calls Tryz.prog 30 #[.string s] w fun e w' => e = .returned (.tuple #[.int .u64 (val s.data.toList), .bool true]) ∧ Below w.heap.size w w' := by
  refine (rget64_yes s w h0).mono ?_
  rintro e w' ⟨rfl, rfl⟩
  exact ⟨rfl, Below.refl _ _⟩
theorem rhnumber_any (s : ByteArray) (k : Nat) (w : World) (hk : k + 8 ≤ s.size) (h9 : k ≤ 3000) :
    Calls Tryz.prog 60 #[.string s, .int .i64 k] w fun e w' => e = .returned (.int .u64 (num8 s.data.toList k)) ∧ Below w.heap.size w w' := by
  have hw : IntKind.i64.wrap ((k : Int) + 8) = ((k + 8 : Nat) : Int) := wrap_i64 (by omega) (by omega)
  have hw2 : (IntKind.i64.wrap ((k : Int) + 8)).toNat = k + 8 := by rw [hw]; rfl
  refine run_v (t_ck (p := inB (some (IntKind.i64.wrap ((k : Int) + 8))) s.size ∧ inB (some (k : Int)) (atB (some (IntKind.i64.wrap ((k : Int) + 8))) s.size)) ⟨?_, ?_⟩ ?_)
  · rw [hw]; exact ⟨by omega, by omega⟩
  · rw [hw]; show 0 ≤ (k : Int) ∧ (k : Int) ≤ ((((k + 8 : Nat) : Int).toNat : Nat) : Int); omega
  · refine t_v (fun u _ => rget64_b (s.extract k (IntKind.i64.wrap ((k : Int) + 8)).toNat) u (by rw [hw2]; exact extract8 s k (by omega))) (e_r2 (.int .u64 (val (s.extract k (IntKind.i64.wrap ((k : Int) + 8)).toNat).data.toList)) ?_)
    rw [hw2, extract_num8]
def helR (t : ByteArray) : Hel := ⟨IntKind.i64.wrap ((t[0]?.getD 0).toNat : Nat), num8 t.data.toList 2, num8 t.data.toList 10, num8 t.data.toList 18, num8 t.data.toList 26, decide ((t.data.toList.getD 1 0).toNat % 2 = 1), decide ((t.data.toList.getD 1 0).toNat / 2 % 2 = 1), decide ((t.data.toList.getD 1 0).toNat / 2 / 2 % 2 = 1), decide ((t.data.toList.getD 1 0).toNat / 2 / 2 / 2 % 2 = 1), val (t.data.toList.drop 34)⟩
theorem rhdecode_any (t : ByteArray) (w : World) : Calls Tryz.prog 31 #[.string t] w fun e w' => e = .returned (.tuple #[helV (hdec t).1, .int .i64 (hdec t).2]) ∧ Below w.heap.size w w' := by
  refine run_v ?_
  unfold hdec hformed
  by_cases hl : ¬ t.size = 38
  · rw [decide_eq_false (show ¬ t.data.toList.length = 38 from hl)]
    exact t_N (b := !((t.size : Int) != 38)) 9 (by simp; omega) (e_r2 (.tuple #[helV Hel.zero, .int .i64 2]) (by simp))
  replace hl := Decidable.not_not.1 hl
  have hlen : t.data.toList.length = 38 := hl
  rw [decide_eq_true hlen]
  refine t_Y (b := !((t.size : Int) != 38)) 1 (by simp; omega) (t_ck (p := 0 ≤ (1 : Int) ∧ (1 : Int) < (t.size : Nat)) (by omega) (t_lit 1 ?_))
  have h1 := get_at t 1 (by omega)
  have h0 := get_at t 0 (by omega)
  by_cases h8 : ¬ (t.data.toList.getD 1 0).toNat < 16
  · rw [decide_eq_false h8]
    exact t_Y (b := decide (((t[1]?.getD 0).toNat : Int) > 15)) 9 (decide_eq_true (show ((t[1]?.getD 0).toNat : Int) > 15 by rw [h1]; omega)) (e_r2 (.tuple #[helV Hel.zero, .int .i64 2]) (by simp))
  replace h8 := Decidable.not_not.1 h8
  rw [decide_eq_true h8]
  refine t_N (b := decide (((t[1]?.getD 0).toNat : Int) > 15)) 0 (decide_eq_false (show ¬ ((t[1]?.getD 0).toNat : Int) > 15 by rw [h1]; omega)) (t_ck (p := 0 ≤ (1 : Int) ∧ (1 : Int) < (t.size : Nat)) (by omega) ?_)
  refine t_call (f := 58) (args := #[.int .u8 ((t[1]?.getD 0).toNat : Nat), .int .i64 4]) (fun u _ _ => by rw [h1]; exact runflag_any _ 4 u (by omega) (by omega) (by decide)) ?_
  rintro u e u' _ hbu (⟨_, A, c, rfl, hc, hty, hbs, hb⟩ | ⟨hn, _⟩)
  case inr => exact absurd (by simpa using h8) hn
  rw [Int.toNat_natCast, unfl4] at *
  obtain ⟨g, rfl, _⟩ := hbs 0 _ rfl
  refine ⟨_, _, rfl, hb, st_bs (some g) _, ⟨hbs, hty.2⟩, ?_⟩
  refine t_ck (p := inB none t.size ∧ inB (some 34) (atB none t.size)) ⟨trivial, by show 0 ≤ (34 : Int) ∧ (34 : Int) ≤ (t.size : Nat); omega⟩ ?_
  refine t_v (fun v _ => rget32_b t v (by omega)) ?_
  refine t_ck (p := 0 ≤ (0 : Int) ∧ (0 : Int) < (t.size : Nat)) (by omega) ?_
  refine t_ck (p := 0 ≤ (0 : Int) ∧ (0 : Int) < (4 : Nat)) (by omega) (t_load (ty := 4) (p := g.add 0) (v := .bool (decide ((t.data.toList.getD 1 0).toNat % 2 = 1))) (fun v hv _ => reads1 (by kernel_rfl) (bits_at hv.2.1 rfl (Below.refl _ _) (j := 0) rfl)) ?_)
  refine t_ck (p := 0 ≤ (1 : Int) ∧ (1 : Int) < (4 : Nat)) (by omega) (t_load (ty := 4) (p := g.add 1) (v := .bool (decide ((t.data.toList.getD 1 0).toNat / 2 % 2 = 1))) (fun v hv _ => reads1 (by kernel_rfl) (bits_at hv.2.1 rfl (Below.refl _ _) (j := 1) rfl)) ?_)
  refine t_ck (p := 0 ≤ (2 : Int) ∧ (2 : Int) < (4 : Nat)) (by omega) (t_load (ty := 4) (p := g.add 2) (v := .bool (decide ((t.data.toList.getD 1 0).toNat / 2 / 2 % 2 = 1))) (fun v hv _ => reads1 (by kernel_rfl) (bits_at hv.2.1 rfl (Below.refl _ _) (j := 2) rfl)) ?_)
  refine t_ck (p := 0 ≤ (3 : Int) ∧ (3 : Int) < (4 : Nat)) (by omega) (t_load (ty := 4) (p := g.add 3) (v := .bool (decide ((t.data.toList.getD 1 0).toNat / 2 / 2 / 2 % 2 = 1))) (fun v hv _ => reads1 (by kernel_rfl) (bits_at hv.2.1 rfl (Below.refl _ _) (j := 3) rfl)) ?_)
  refine t_v (fun v _ => rhnumber_any t 2 v (by omega) (by decide)) (t_v (fun v _ => rhnumber_any t 10 v (by omega) (by decide)) (t_v (fun v _ => rhnumber_any t 18 v (by omega) (by decide)) (t_v (fun v _ => rhnumber_any t 26 v (by omega) (by decide)) ?_)))
  have hS : helR t = helOf t.data.toList := by
    unfold helR; rw [h0, wrap_byte]; rfl
  have hR := fun v => rhright_any (helOf t.data.toList) v (tail_lt t (by omega))
  rw [← hS] at hR
  refine t_v (fun v _ => hR v) ?_
  rw [hS]
  cases hr : (helOf t.data.toList).right with
  | false => exact t_lit 9 (e_r2 (.tuple #[helV Hel.zero, .int .i64 2]) (by simp))
  | true => exact t_lit 9 (e_r2 (.tuple #[helV (helR t), .int .i64 0]) (by rw [hS]; simp))
theorem hgen_any (s : ByteArray) (i k : Nat) (w : World) (hi : i ≤ 3) (hk : k = 2 + i * 8) (hs : s.size = 38) : Calls Tryz.prog 207 #[.string s, .int .i64 i] w fun e w' => e = .returned (.int .u64 (num8 s.data.toList k)) ∧ Below w.heap.size w w' := by
  have hw : IntKind.i64.wrap (2 + IntKind.i64.wrap ((i : Int) * 8)) = (k : Int) := by rw [wrap_i64 (x := (i : Int) * 8) (by omega) (by omega), wrap_i64 (by omega) (by omega)]; omega
  have hw1 : IntKind.i64.wrap (IntKind.i64.wrap (2 + IntKind.i64.wrap ((i : Int) * 8)) + 8) = ((k + 8 : Nat) : Int) := by rw [hw, wrap_i64 (by omega) (by omega)]; rfl
  have hw2 : (IntKind.i64.wrap (IntKind.i64.wrap (2 + IntKind.i64.wrap ((i : Int) * 8)) + 8)).toNat = k + 8 := by rw [hw1]; rfl
  have hw3 : (IntKind.i64.wrap (2 + IntKind.i64.wrap ((i : Int) * 8))).toNat = k := by rw [hw]; rfl
  refine run_v (t_ck (p := inB (some (IntKind.i64.wrap (IntKind.i64.wrap (2 + IntKind.i64.wrap ((i : Int) * 8)) + 8))) s.size ∧ inB (some (IntKind.i64.wrap (2 + IntKind.i64.wrap ((i : Int) * 8)))) (atB (some (IntKind.i64.wrap (IntKind.i64.wrap (2 + IntKind.i64.wrap ((i : Int) * 8)) + 8))) s.size)) ⟨?_, ?_⟩ ?_)
  · rw [hw1]; exact ⟨by omega, by omega⟩
  · rw [hw1, hw]; show 0 ≤ (k : Int) ∧ (k : Int) ≤ ((((k + 8 : Nat) : Int).toNat : Nat) : Int); omega
  · refine t_v (fun u _ => get64_b (s.extract (IntKind.i64.wrap (2 + IntKind.i64.wrap ((i : Int) * 8))).toNat (IntKind.i64.wrap (IntKind.i64.wrap (2 + IntKind.i64.wrap ((i : Int) * 8)) + 8)).toNat) u (by rw [hw2, hw3]; exact extract8 s k (by omega))) (e_r2 (.int .u64 (val (s.extract (IntKind.i64.wrap (2 + IntKind.i64.wrap ((i : Int) * 8))).toNat (IntKind.i64.wrap (IntKind.i64.wrap (2 + IntKind.i64.wrap ((i : Int) * 8)) + 8)).toNat).data.toList)) ?_)
    rw [hw2, hw3, extract_num8]
theorem hdecode_any (t : ByteArray) (w : World) : Calls Tryz.prog 161 #[.string t] w fun e w' => e = .returned (.tuple #[helV (hdec t).1, .int .i64 (hdec t).2]) ∧ Below w.heap.size w w' := by
  refine run_v ?_
  unfold hdec hformed
  by_cases hl : ¬ t.size = 38
  · rw [decide_eq_false (show ¬ t.data.toList.length = 38 from hl)]
    exact t_Y (b := (t.size : Int) != 38) 9 (by simp; omega) (e_r2 (.tuple #[helV Hel.zero, .int .i64 2]) (by simp))
  replace hl := Decidable.not_not.1 hl
  have hlen : t.data.toList.length = 38 := hl
  rw [decide_eq_true hlen]
  refine t_N (b := (t.size : Int) != 38) 1 (by simp; omega) (t_ck (p := 0 ≤ (1 : Int) ∧ (1 : Int) < (t.size : Nat)) (by omega) ?_)
  have h1 := get_at t 1 (by omega)
  have h0 := get_at t 0 (by omega)
  have h256 := (t.data.toList.getD 1 0).toNat_lt
  by_cases h8 : ¬ (t.data.toList.getD 1 0).toNat < 16
  · rw [decide_eq_false h8]
    refine t_v (args := #[.int .u8 ((t[1]?.getD 0).toNat : Nat), .int .i64 4]) (v := .tuple #[.slice none 0 0, .bool false]) (fun u _ => by rw [h1]; exact (unflag_more _ 4 u (by omega) (by omega) (by decide) (by rw [Int.toNat_natCast]; exact Nat.le_of_not_lt h8)).mono fun e w' h => ⟨h.1, h.2 ▸ Below.refl _ _⟩) ?_
    exact t_lit 9 (e_r2 (.tuple #[helV Hel.zero, .int .i64 2]) (by simp))
  replace h8 := Decidable.not_not.1 h8
  rw [decide_eq_true h8]
  refine t_call (f := 206) (args := #[.int .u8 ((t[1]?.getD 0).toNat : Nat), .int .i64 4]) (fun u _ _ => by rw [h1]; exact unflag_yes _ 4 u (by omega) (by omega) (by decide) (by simpa using h8)) ?_
  rintro u e u' _ hbu ⟨A, c, rfl, hc, hty, hbs, hb⟩
  rw [Int.toNat_natCast, unfl4] at *
  obtain ⟨g, rfl, _⟩ := hbs 0 _ rfl
  refine ⟨_, _, rfl, hb, st_bs (some g) _, ⟨hbs, hty.2⟩, ?_⟩
  refine t_lit 9 (t_ck (p := inB none t.size ∧ inB (some 34) (atB none t.size)) ⟨trivial, by show 0 ≤ (34 : Int) ∧ (34 : Int) ≤ (t.size : Nat); omega⟩ ?_)
  refine t_v (fun v _ => get32_b t v (by omega)) ?_
  refine t_v (fun v _ => hgen_any t 0 2 v (by omega) rfl hl) (t_v (fun v _ => hgen_any t 1 10 v (by omega) rfl hl) (t_v (fun v _ => hgen_any t 2 18 v (by omega) rfl hl) (t_v (fun v _ => hgen_any t 3 26 v (by omega) rfl hl) ?_)))
  refine t_ck (p := 0 ≤ (0 : Int) ∧ (0 : Int) < (t.size : Nat)) (by omega) ?_
  refine t_ck (p := 0 ≤ (0 : Int) ∧ (0 : Int) < (4 : Nat)) (by omega) (t_load (ty := 4) (p := g.add 0) (v := .bool (decide ((t.data.toList.getD 1 0).toNat % 2 = 1))) (fun v hv _ => reads1 (by kernel_rfl) (bits_at hv.2.1 rfl (Below.refl _ _) (j := 0) rfl)) ?_)
  refine t_ck (p := 0 ≤ (1 : Int) ∧ (1 : Int) < (4 : Nat)) (by omega) (t_load (ty := 4) (p := g.add 1) (v := .bool (decide ((t.data.toList.getD 1 0).toNat / 2 % 2 = 1))) (fun v hv _ => reads1 (by kernel_rfl) (bits_at hv.2.1 rfl (Below.refl _ _) (j := 1) rfl)) ?_)
  refine t_ck (p := 0 ≤ (2 : Int) ∧ (2 : Int) < (4 : Nat)) (by omega) (t_load (ty := 4) (p := g.add 2) (v := .bool (decide ((t.data.toList.getD 1 0).toNat / 2 / 2 % 2 = 1))) (fun v hv _ => reads1 (by kernel_rfl) (bits_at hv.2.1 rfl (Below.refl _ _) (j := 2) rfl)) ?_)
  refine t_ck (p := 0 ≤ (3 : Int) ∧ (3 : Int) < (4 : Nat)) (by omega) (t_load (ty := 4) (p := g.add 3) (v := .bool (decide ((t.data.toList.getD 1 0).toNat / 2 / 2 / 2 % 2 = 1))) (fun v hv _ => reads1 (by kernel_rfl) (bits_at hv.2.1 rfl (Below.refl _ _) (j := 3) rfl)) ?_)
  have hS : helR t = helOf t.data.toList := by
    unfold helR; rw [h0, wrap_byte]; rfl
  have hR := fun v => hright_any (helOf t.data.toList) v (tail_lt t (by omega))
  rw [← hS] at hR
  refine t_v (fun v _ => hR v) ?_
  rw [hS]
  cases hr : (helOf t.data.toList).right with
  | false => exact t_lit 9 (e_r2 (.tuple #[helV Hel.zero, .int .i64 2]) (by simp))
  | true => exact t_lit 9 (e_r2 (.tuple #[helV (helR t), .int .i64 0]) (by rw [hS]; simp))
end Go.Proofs.YtkjikigimmchlaaGreatDoor
namespace Go.Proofs.YtkjikigimmchlaaGreatDoor
open Go.RowKit
theorem hbits_fl (i r d q : Bool) : decide (fl [i, r, d, q] % 2 = 1) = i ∧ decide (fl [i, r, d, q] / 2 % 2 = 1) = r ∧ decide (fl [i, r, d, q] / 2 / 2 % 2 = 1) = d ∧ decide (fl [i, r, d, q] / 2 / 2 / 2 % 2 = 1) = q ∧ fl [i, r, d, q] < 16 := by
  cases i <;> cases r <;> cases d <;> cases q <;> decide
theorem hel_body (s : Hel) (hw : s.wide) (h0 : 0 ≤ s.n) (h1 : s.n < 256) : helOf s.body = s := by
  obtain ⟨n, c, b, o, p, i, r, d, q, m⟩ := s
  obtain ⟨⟨c0, c1⟩, ⟨b0, b1⟩, ⟨o0, o1⟩, ⟨p0, p1⟩, m1⟩ := hw
  dsimp only at *
  obtain ⟨e0, e1, e2, e3, e4⟩ := hbits_fl i r d q
  have hn : ((UInt8.ofNat n.toNat).toNat : Int) = n := by
    rw [UInt8.toNat_ofNat', show n.toNat % 2 ^ 8 = n.toNat from by omega]; omega
  have hf : (UInt8.ofNat (fl [i, r, d, q])).toNat = fl [i, r, d, q] := by
    rw [UInt8.toNat_ofNat', show fl [i, r, d, q] % 2 ^ 8 = fl [i, r, d, q] from by omega]
  have hm4 : m < 256 ^ 4 := by
    have : (256 : Nat) ^ 4 = 4294967296 := by decide
    omega
  unfold helOf Hel.body
  dsimp only
  have n5 := num8_at [UInt8.ofNat n.toNat, UInt8.ofNat (fl [i, r, d, q])] (be 8 b.toNat ++ (be 8 o.toNat ++ (be 8 p.toNat ++ be 4 m))) 2 c.toNat rfl
  have n13 := num8_at ([UInt8.ofNat n.toNat, UInt8.ofNat (fl [i, r, d, q])] ++ be 8 c.toNat) (be 8 o.toNat ++ (be 8 p.toNat ++ be 4 m)) 10 b.toNat (by simp [be_length])
  have n21 := num8_at ([UInt8.ofNat n.toNat, UInt8.ofNat (fl [i, r, d, q])] ++ be 8 c.toNat ++ be 8 b.toNat) (be 8 p.toNat ++ be 4 m) 18 o.toNat (by simp [be_length])
  have n29 := num8_at ([UInt8.ofNat n.toNat, UInt8.ofNat (fl [i, r, d, q])] ++ be 8 c.toNat ++ be 8 b.toNat ++ be 8 o.toNat) (be 4 m) 26 p.toNat (by simp [be_length])
  have n37 : ([UInt8.ofNat n.toNat, UInt8.ofNat (fl [i, r, d, q])] ++ be 8 c.toNat ++ be 8 b.toNat ++ be 8 o.toNat ++ be 8 p.toNat ++ be 4 m).drop 34 = be 4 m :=
    List.drop_left' (by simp [be_length])
  rw [num8_nat c c0 c1] at n5
  rw [num8_nat b b0 b1] at n13
  rw [num8_nat o o0 o1] at n21
  rw [num8_nat p p0 p1] at n29
  simp only [List.append_assoc] at n5 n13 n21 n29 n37 ⊢
  rw [n5, n13, n21, n29, n37, val_be]
  simp only [List.cons_append, List.nil_append, List.getD_cons_succ, List.getD_cons_zero]
  rw [hn, hf, e0, e1, e2, e3, Nat.mod_eq_of_lt (show m < 256 ^ 4 from hm4)]
theorem hfl_bits (x : Nat) (h : x < 16) : fl [decide (x % 2 = 1), decide (x / 2 % 2 = 1), decide (x / 2 / 2 % 2 = 1), decide (x / 2 / 2 / 2 % 2 = 1)] = x := by
  have : ∀ x : Fin 16, fl [decide (x.1 % 2 = 1), decide (x.1 / 2 % 2 = 1), decide (x.1 / 2 / 2 % 2 = 1), decide (x.1 / 2 / 2 / 2 % 2 = 1)] = x.1 := by decide
  exact this ⟨x, h⟩
theorem body_hel (l : List UInt8) (hl : l.length = 38) (h8 : (l.getD 1 0).toNat < 16) : (helOf l).body = l := by
  have b5 := be_drop l 2 (by omega)
  have b13 := be_drop l 10 (by omega)
  have b21 := be_drop l 18 (by omega)
  have b29 := be_drop l 26 (by omega)
  have b37 : be 4 (val (l.drop 34)) = l.drop 34 := by
    have h := be_val (l.drop 34)
    rw [List.length_drop, hl] at h
    exact h
  unfold Hel.body helOf
  dsimp only
  rw [b5, b13, b21, b29, b37, Int.toNat_natCast, hfl_bits _ h8, UInt8.ofNat_toNat, UInt8.ofNat_toNat]
  have s29 : (l.drop 26).take 8 ++ l.drop 34 = l.drop 26 := by have := List.take_append_drop 8 (l.drop 26); rw [List.drop_drop] at this; exact this
  have s21 : (l.drop 18).take 8 ++ l.drop 26 = l.drop 18 := by have := List.take_append_drop 8 (l.drop 18); rw [List.drop_drop] at this; exact this
  have s13 : (l.drop 10).take 8 ++ l.drop 18 = l.drop 10 := by have := List.take_append_drop 8 (l.drop 10); rw [List.drop_drop] at this; exact this
  have s5 : (l.drop 2).take 8 ++ l.drop 10 = l.drop 2 := by have := List.take_append_drop 8 (l.drop 2); rw [List.drop_drop] at this; exact this
  simp only [List.append_assoc]
  rw [s29, s21, s13, s5]
  match l, hl with
  | x0 :: x1 :: r, _ => rfl
theorem hformed_body (s : Hel) (hw : s.wide) (hr : s.right = true) : hformed s.body = true := by
  have hn := Hel.right_n hr
  unfold hformed
  rw [hel_body s hw (by omega) (by omega), hr, hbody_length]
  have e4 := (hbits_fl s.i s.r s.d s.q).2.2.2.2
  have : ((s.body).getD 1 0).toNat < 16 := by
    unfold Hel.body
    simp only [List.append_assoc, List.cons_append, List.nil_append, List.getD_cons_succ, List.getD_cons_zero]
    rw [UInt8.toNat_ofNat', show fl [s.i, s.r, s.d, s.q] % 2 ^ 8 = fl [s.i, s.r, s.d, s.q] from by omega]
    exact e4
  rw [decide_eq_true this]
  rfl
theorem hdec_bytes (s : Hel) (hw : s.wide) (hr : s.right = true) : hdec s.bytes = (s, 0) := by
  have hn := Hel.right_n hr
  unfold hdec Hel.bytes
  rw [txt_data, hformed_body s hw hr, if_pos rfl, hel_body s hw (by omega) (by omega)]
theorem helOf_wide (l : List UInt8) (hl : l.length = 38) : (helOf l).wide := by
  refine ⟨num8_range _ _, num8_range _ _, num8_range _ _, num8_range _ _, ?_⟩
  show val (l.drop 34) < 4294967296
  have h := val_lt (l.drop 34)
  rw [List.length_drop, hl] at h
  exact h
theorem bytes_hdec (x : ByteArray) (h : (hdec x).2 = 0) : (hdec x).1.right = true ∧ (hdec x).1.wide ∧ (hdec x).1.bytes = x := by
  unfold hdec at *
  by_cases hf : hformed x.data.toList = true
  · rw [if_pos hf] at *
    unfold hformed at hf
    simp only [Bool.and_eq_true, decide_eq_true_eq] at hf
    refine ⟨hf.2, helOf_wide _ hf.1.1, ?_⟩
    unfold Hel.bytes
    rw [body_hel _ hf.1.1 hf.1.2, txt_of]
  · rw [if_neg hf] at h
    cases h
theorem hdec_zero (x : ByteArray) (h : (hdec x).2 ≠ 0) : (hdec x).1 = Hel.zero := by
  unfold hdec at *
  by_cases hf : hformed x.data.toList = true
  · rw [if_pos hf] at h
    exact absurd rfl h
  · rw [if_neg hf]
def Hel.encT (s : Hel) : ByteArray := if s.right = true then s.bytes else ⟨#[]⟩
def Hel.encE (s : Hel) : Int := if s.right = true then 0 else 1
end Go.Proofs.YtkjikigimmchlaaGreatDoor
namespace Go.Proofs.YtkjikigimmchlaaGreatDoor
open Go.RowKit
structure Pkt where
  k : Int
  s : Int
  h : Hel
  b : Int
  d : ByteArray
@[reducible] def pktV (p : Pkt) : Value := .agg #[.int .i64 p.k, .int .u64 p.s, .int .i64 p.h.n, .int .u64 p.h.c, .int .u64 p.h.b, .int .u64 p.h.o, .int .u64 p.h.p, .bool p.h.i, .bool p.h.r, .bool p.h.d, .bool p.h.q, .int .u32 (p.h.m : Int), .int .i64 p.b, .string p.d]
def Pkt.zero : Pkt := ⟨0, 0, Hel.zero, 0, ⟨#[]⟩⟩
def Pkt.wide (p : Pkt) : Prop := (0 ≤ p.s ∧ p.s < 18446744073709551616) ∧ p.h.wide
def blockK (k : Int) : Bool := decide (2 ≤ k) && decide (k ≤ 7)
def dataK (k : Int) : Bool := decide (k = 2) || decide (k = 6)
def Hel.none (h : Hel) : Bool := decide (h.n = 0) && (decide (h.c = 0) && (decide (h.b = 0) && (decide (h.o = 0) && decide (h.p = 0))) && (!h.i && (!h.r && (!h.d && (!h.q && decide ((h.m : Int) = 0))))))
theorem Hel.none_iff {h : Hel} : h.none = true ↔ h = Hel.zero := by
  obtain ⟨n, c, b, o, p, i, r, d, q, m⟩ := h
  unfold Hel.none Hel.zero
  simp
  intro _
  constructor
  · rintro ⟨⟨h2, h3, h4, h5⟩, h6, h7, h8, h9, h10⟩
    exact ⟨h2, h3, h4, h5, h6, h7, h8, h9, h10⟩
  · rintro ⟨h2, h3, h4, h5, h6, h7, h8, h9, h10⟩
    exact ⟨⟨h2, h3, h4, h5⟩, h6, h7, h8, h9, h10⟩
def Pkt.right (p : Pkt) : Bool :=
  (decide (1 ≤ p.k) && decide (p.k ≤ 13)) && ((if p.k = 1 then p.h.right else p.h.none) && ((decide (0 ≤ p.b) && decide (p.b ≤ 31) && (blockK p.k || decide (p.b = 0))) && (if dataK p.k then decide (p.d.size = 8) else decide (p.d.size = 0))))
def Pkt.body (p : Pkt) : List UInt8 :=
  [UInt8.ofNat p.k.toNat] ++ be 8 p.s.toNat ++ (if p.k = 1 then p.h.body else []) ++ (if blockK p.k then [UInt8.ofNat p.b.toNat] else []) ++ p.d.data.toList
def pktOf (l : List UInt8) : Pkt :=
  let k : Int := ((l.getD 0 0).toNat : Int)
  if k = 1 then ⟨k, num8 l 1, (hdec (txt (l.drop 9))).1, 0, ⟨#[]⟩⟩
  else if blockK k && decide (9 < l.length) then ⟨k, num8 l 1, Hel.zero, ((l.getD 9 0).toNat : Int), txt (l.drop 10)⟩
  else ⟨k, num8 l 1, Hel.zero, 0, txt (l.drop 9)⟩
def pformed (l : List UInt8) : Bool := decide (9 ≤ l.length) && ((pktOf l).right && decide ((pktOf l).body = l))
def pdec (l : List UInt8) : Pkt × Int := if pformed l then (pktOf l, 0) else (Pkt.zero, 2)
theorem Hel.zero_wide : Hel.zero.wide := by unfold Hel.wide Hel.zero; decide
theorem hdec_wide2 (x : ByteArray) : (hdec x).1.wide := by
  by_cases h : (hdec x).2 = 0
  · exact (bytes_hdec x h).2.1
  · rw [hdec_zero x h]; exact Hel.zero_wide
theorem pktOf_wide (l : List UInt8) : (pktOf l).wide := by
  unfold pktOf
  dsimp only
  by_cases h1 : ((l.getD 0 0).toNat : Int) = 1
  · rw [if_pos h1]; exact ⟨num8_range _ _, hdec_wide2 _⟩
  · rw [if_neg h1]
    by_cases h2 : (blockK ((l.getD 0 0).toNat : Int) && decide (9 < l.length)) = true
    · rw [if_pos h2]; exact ⟨num8_range _ _, Hel.zero_wide⟩
    · rw [if_neg h2]; exact ⟨num8_range _ _, Hel.zero_wide⟩
theorem Pkt.right_parts {p : Pkt} (h : p.right = true) : (1 ≤ p.k ∧ p.k ≤ 13) ∧ (p.k = 1 → p.h.right = true) ∧ (p.k ≠ 1 → p.h = Hel.zero) ∧ (0 ≤ p.b ∧ p.b ≤ 31) ∧ (blockK p.k = false → p.b = 0) ∧ (dataK p.k = true → p.d.size = 8) ∧ (dataK p.k = false → p.d.size = 0) := by
  unfold Pkt.right at h
  simp only [Bool.and_eq_true, Bool.or_eq_true, decide_eq_true_eq] at h
  obtain ⟨⟨h1, h2⟩, h3, ⟨⟨h4, h5⟩, h6⟩, h7⟩ := h
  refine ⟨⟨h1, h2⟩, fun e => by rw [if_pos e] at h3; exact h3, fun e => by rw [if_neg e] at h3; exact Hel.none_iff.1 h3, ⟨h4, h5⟩, fun e => h6.resolve_left (by rw [e]; simp), fun e => ?_, fun e => ?_⟩
  · rw [e] at h7; simpa using h7
  · rw [e] at h7; simpa using h7
theorem size_zero {d : ByteArray} (h : d.size = 0) : d = ⟨#[]⟩ := by
  obtain ⟨a⟩ := d
  have : a.size = 0 := h
  rw [Array.eq_empty_of_size_eq_zero this]
theorem byte_nat {x : Int} (h0 : 0 ≤ x) (h1 : x < 256) : ((UInt8.ofNat x.toNat).toNat : Int) = x := by
  rw [UInt8.toNat_ofNat', show x.toNat % 2 ^ 8 = x.toNat from by omega]; omega
theorem block_of_one : blockK 1 = false := by decide
theorem data_block {k : Int} (h : dataK k = true) : blockK k = true := by
  unfold dataK at h
  unfold blockK
  simp at h ⊢
  omega
theorem body_front (p : Pkt) : p.body = UInt8.ofNat p.k.toNat :: (be 8 p.s.toNat ++ ((if p.k = 1 then p.h.body else []) ++ ((if blockK p.k then [UInt8.ofNat p.b.toNat] else []) ++ p.d.data.toList))) := by
  unfold Pkt.body
  simp only [List.append_assoc, List.cons_append, List.nil_append]
theorem drop9 (x : UInt8) (n : Nat) (r : List UInt8) : (x :: (be 8 n ++ r)).drop 9 = r := by
  show (be 8 n ++ r).drop 8 = r
  exact List.drop_left' (be_length 8 n)
theorem pbody_length (p : Pkt) : p.body.length = 9 + (if p.k = 1 then 38 else 0) + (if blockK p.k then 1 else 0) + p.d.size := by
  rw [body_front]
  by_cases h1 : p.k = 1
  · rw [if_pos h1, if_pos h1, h1, block_of_one]
    simp [be_length, hbody_length]
    omega
  · rw [if_neg h1, if_neg h1]
    cases h2 : blockK p.k <;> simp [be_length] <;> omega
theorem pkt_body {p : Pkt} (hw : p.wide) (hr : p.right = true) : pktOf p.body = p := by
  obtain ⟨⟨k0, k1⟩, r1, r2, ⟨b0, b1⟩, r3, r4, r5⟩ := Pkt.right_parts hr
  have hs := num8_at [UInt8.ofNat p.k.toNat] ((if p.k = 1 then p.h.body else []) ++ ((if blockK p.k then [UInt8.ofNat p.b.toNat] else []) ++ p.d.data.toList)) 1 p.s.toNat rfl
  rw [num8_nat p.s hw.1.1 hw.1.2] at hs
  have hk := byte_nat (x := p.k) (by omega) (by omega)
  have hlen := pbody_length p
  rw [body_front] at hlen ⊢
  unfold pktOf
  rw [drop9]
  rw [show (UInt8.ofNat p.k.toNat :: (be 8 p.s.toNat ++ ((if p.k = 1 then p.h.body else []) ++ ((if blockK p.k then [UInt8.ofNat p.b.toNat] else []) ++ p.d.data.toList)))).getD 0 0 = UInt8.ofNat p.k.toNat from rfl]
  dsimp only
  rw [hk]
  rw [show num8 (UInt8.ofNat p.k.toNat :: (be 8 p.s.toNat ++ ((if p.k = 1 then p.h.body else []) ++ ((if blockK p.k then [UInt8.ofNat p.b.toNat] else []) ++ p.d.data.toList)))) 1 = p.s from hs]
  by_cases h1 : p.k = 1
  · have hb : blockK p.k = false := by rw [h1]; decide
    have hd : dataK p.k = false := by rw [h1]; decide
    have e1 : p.d = ⟨#[]⟩ := size_zero (r5 hd)
    have e2 : p.b = 0 := r3 hb
    rw [if_pos h1, if_pos h1, hb]
    rw [show (if (false : Bool) = true then [UInt8.ofNat p.b.toNat] else []) = [] from rfl]
    rw [show p.h.body ++ ([] ++ p.d.data.toList) = p.h.body from by rw [e1]; simp]
    have := hdec_bytes p.h hw.2 (r1 h1)
    unfold Hel.bytes at this
    rw [this]
    obtain ⟨k, s, h, b, d⟩ := p
    dsimp only at *
    rw [e1, e2]
  · have e3 : p.h = Hel.zero := r2 h1
    rw [if_neg h1]
    rw [if_neg h1] at hlen
    cases hb : blockK p.k with
    | true =>
      rw [hb] at hlen
      have hlt : (9 : Nat) < (UInt8.ofNat p.k.toNat :: (be 8 p.s.toNat ++ ((if p.k = 1 then p.h.body else []) ++ ((if true = true then [UInt8.ofNat p.b.toNat] else []) ++ p.d.data.toList)))).length := by
        rw [if_neg h1] at hlen ⊢
        rw [hlen]
        simp
        omega
      rw [if_pos (by rw [decide_eq_true hlt]; rfl), if_neg h1, if_pos rfl]
      have hg : (UInt8.ofNat p.k.toNat :: (be 8 p.s.toNat ++ ([] ++ ([UInt8.ofNat p.b.toNat] ++ p.d.data.toList)))).getD 9 0 = UInt8.ofNat p.b.toNat := by
        have h9 := drop9 (UInt8.ofNat p.k.toNat) p.s.toNat ([] ++ ([UInt8.ofNat p.b.toNat] ++ p.d.data.toList))
        rw [List.getD_eq_getElem?_getD, ← List.head?_drop, h9]
        rfl
      have hd : (UInt8.ofNat p.k.toNat :: (be 8 p.s.toNat ++ ([] ++ ([UInt8.ofNat p.b.toNat] ++ p.d.data.toList)))).drop 10 = p.d.data.toList := by
        have h9 := drop9 (UInt8.ofNat p.k.toNat) p.s.toNat ([] ++ ([UInt8.ofNat p.b.toNat] ++ p.d.data.toList))
        rw [show (10 : Nat) = 9 + 1 from rfl, ← List.drop_drop, h9]
        rfl
      rw [hg, hd, byte_nat b0 (by omega), txt_of]
      obtain ⟨k, s, h, b, d⟩ := p
      dsimp only at *
      rw [e3]
    | false =>
      have hd : dataK p.k = false := by
        cases q : dataK p.k with
        | false => rfl
        | true => rw [data_block q] at hb; cases hb
      have e1 : p.d = ⟨#[]⟩ := size_zero (r5 hd)
      have e2 : p.b = 0 := r3 hb
      rw [show (false && decide (9 < (UInt8.ofNat p.k.toNat :: (be 8 p.s.toNat ++ ((if p.k = 1 then p.h.body else []) ++ ((if (false : Bool) = true then [UInt8.ofNat p.b.toNat] else []) ++ p.d.data.toList)))).length)) = false from rfl]
      rw [if_neg (by simp), if_neg h1]
      rw [show (if (false : Bool) = true then [UInt8.ofNat p.b.toNat] else []) = [] from rfl]
      rw [show ([] ++ ([] ++ p.d.data.toList) : List UInt8) = p.d.data.toList from by simp, txt_of]
      obtain ⟨k, s, h, b, d⟩ := p
      dsimp only at *
      rw [e2, e3]
theorem pformed_body {p : Pkt} (hw : p.wide) (hr : p.right = true) : pformed p.body = true := by
  unfold pformed
  rw [pkt_body hw hr, hr]
  have := pbody_length p
  simp
  omega
theorem pdec_body {p : Pkt} (hw : p.wide) (hr : p.right = true) : pdec p.body = (p, 0) := by
  unfold pdec
  rw [pformed_body hw hr, if_pos rfl, pkt_body hw hr]
theorem body_pdec {l : List UInt8} (h : (pdec l).2 = 0) : (pdec l).1.right = true ∧ (pdec l).1.wide ∧ (pdec l).1.body = l := by
  unfold pdec at *
  by_cases hf : pformed l = true
  · rw [if_pos hf] at *
    unfold pformed at hf
    simp only [Bool.and_eq_true, decide_eq_true_eq] at hf
    exact ⟨hf.2.1, pktOf_wide _, hf.2.2⟩
  · rw [if_neg hf] at h
    cases h
theorem pdec_zero {l : List UInt8} (h : (pdec l).2 ≠ 0) : pdec l = (Pkt.zero, 2) := by
  unfold pdec at *
  by_cases hf : pformed l = true
  · rw [if_pos hf] at h; exact absurd rfl h
  · rw [if_neg hf]
def Pkt.encT (p : Pkt) : ByteArray := if p.right = true then txt (sealed p.body) else ⟨#[]⟩
def Pkt.encE (p : Pkt) : Int := if p.right = true then 0 else 1
def decP (s : ByteArray) : Pkt × Int := if openE s = 0 then pdec (openT s).data.toList else (Pkt.zero, openE s)
def readP (s : ByteArray) (n : Int) : Pkt × Int := if (decP s).2 = 0 then (if (decP s).1.s = n then decP s else (Pkt.zero, 16)) else (Pkt.zero, (decP s).2)
theorem decP_encT {p : Pkt} (hw : p.wide) (hr : p.right = true) : decP p.encT = (p, 0) := by
  unfold decP Pkt.encT
  rw [if_pos hr]
  obtain ⟨h1, h2⟩ := open_sealed p.body
  rw [h1, if_pos rfl, h2, txt_data, pdec_body hw hr]
theorem encT_decP {s : ByteArray} (h : (decP s).2 = 0) : (decP s).1.right = true ∧ (decP s).1.wide ∧ (decP s).1.encT = s := by
  unfold decP at *
  by_cases h0 : openE s = 0
  · rw [if_pos h0] at *
    obtain ⟨h1, h2, h3⟩ := body_pdec h
    refine ⟨h1, h2, ?_⟩
    unfold Pkt.encT
    rw [if_pos h1, h3]
    exact sealed_open s h0
  · rw [if_neg h0] at h
    exact absurd h h0
end Go.Proofs.YtkjikigimmchlaaGreatDoor
namespace Go.Proofs.YtkjikigimmchlaaGreatDoor
open Go.RowKit
theorem pk_u64 : Tryz.prog.cellsOf 31 = 1 := by kernel_rfl
@[go_sem] theorem eql_old2 (d : Nat) (o1 p1 o2 p2 : Int) (w : World) :
    (Op.equalIn (d + 2) 32 (.agg #[.int .u64 o1, .int .u64 p1]) (.agg #[.int .u64 o2, .int .u64 p2])).run Tryz.prog w = .ok (o1 == o2 && p1 == p2) w := by
  obtain ⟨i, hi⟩ := info_of_underlying Tryz.underlying31
  rw [show d + 2 = (d + 1) + 1 from rfl, run_equalIn_array w (d + 1) _ _ Tryz.underlying32 hi, pk_u64]
  cases h1 : (o1 == o2) <;> cases h2 : (p1 == p2) <;> simp [List.range, List.range.loop, Op.eqItems, go_sem, h1, h2]
theorem eql_vec4 (d : Nat) (c b o p c2 b2 o2 p2 : Int) (w : World) :
    (Op.equalIn (d + 3) 34 (.agg #[.int .u64 c, .int .u64 b, .int .u64 o, .int .u64 p]) (.agg #[.int .u64 c2, .int .u64 b2, .int .u64 o2, .int .u64 p2])).run Tryz.prog w = .ok (c == c2 && (b == b2 && (o == o2 && p == p2))) w := by
  rw [show d + 3 = (d + 2) + 1 from rfl, run_equalIn_struct w (d + 2) _ _ _ (by kernel_rfl) (by kernel_rfl)]
  cases h1 : (c == c2) <;> cases h2 : (b == b2) <;> cases h3 : (o == o2 && p == p2) <;> simp [go_sem, h1, h2, h3]
def eqH (x y : Hel) : Bool := (x.n == y.n) && ((x.c == y.c && (x.b == y.b && (x.o == y.o && x.p == y.p))) && ((x.i == y.i) && ((x.r == y.r) && ((x.d == y.d) && ((x.q == y.q) && (((x.m : Int) == (y.m : Int))))))))
set_option maxHeartbeats 1000000 in
theorem eql_hel (d : Nat) (x y : Hel) (w : World) : (Op.equalIn (d + 4) 41 (helV x) (helV y)).run Tryz.prog w = .ok (eqH x y) w := by
  unfold eqH
  rw [show d + 4 = (d + 3) + 1 from rfl, run_equalIn_struct w (d + 3) _ _ _ (by kernel_rfl) (by kernel_rfl)]
  cases h0 : (x.n == y.n)
  · simp [go_sem, eql_vec4, h0]
  · cases h1 : (x.c == y.c && (x.b == y.b && (x.o == y.o && x.p == y.p)))
    · simp [go_sem, eql_vec4, h0, h1]
    · cases h2 : (x.i == y.i)
      · simp [go_sem, eql_vec4, h0, h1, h2]
      · cases h3 : (x.r == y.r)
        · simp [go_sem, eql_vec4, h0, h1, h2, h3]
        · cases h4 : (x.d == y.d)
          · simp [go_sem, eql_vec4, h0, h1, h2, h3, h4]
          · cases h5 : (x.q == y.q)
            · simp [go_sem, eql_vec4, h0, h1, h2, h3, h4, h5]
            · cases h6 : ((x.m : Int) == (y.m : Int))
              · simp [go_sem, eql_vec4, h0, h1, h2, h3, h4, h5, h6]
              · simp [go_sem, eql_vec4, h0, h1, h2, h3, h4, h5, h6]
def eqP (x y : Pkt) : Bool := (x.k == y.k) && ((x.s == y.s) && ((eqH x.h y.h) && ((x.b == y.b) && ((x.d.toList == y.d.toList)))))
set_option maxHeartbeats 1000000 in
theorem eql_pkt (d : Nat) (x y : Pkt) (w : World) : (Op.equalIn (d + 5) 50 (pktV x) (pktV y)).run Tryz.prog w = .ok (eqP x y) w := by
  unfold eqP
  rw [show d + 5 = (d + 4) + 1 from rfl, run_equalIn_struct w (d + 4) _ _ _ (by kernel_rfl) (by kernel_rfl)]
  cases h0 : (x.k == y.k)
  · simp [go_sem, eql_hel, h0]
  · cases h1 : (x.s == y.s)
    · simp [go_sem, eql_hel, h0, h1]
    · cases h2 : (eqH x.h y.h)
      · simp [go_sem, eql_hel, h0, h1, h2]
      · cases h3 : (x.b == y.b)
        · simp [go_sem, eql_hel, h0, h1, h2, h3]
        · cases h4 : (x.d.toList == y.d.toList)
          · simp [go_sem, eql_hel, h0, h1, h2, h3, h4]
          · simp [go_sem, eql_hel, h0, h1, h2, h3, h4]
theorem eqH_none (h : Hel) : eqH h Hel.zero = h.none := by
  obtain ⟨n, c, b, o, p, i, r, d, q, m⟩ := h
  unfold eqH Hel.none Hel.zero
  cases i <;> cases r <;> cases d <;> cases q <;> simp [Bool.beq_eq_decide_eq]
@[go_sem 5000] theorem eql_helz (x : Nat) (n c b o p : Int) (i r d q : Bool) (m : Nat) (w : World) : (Op.equalIn (x + 4) 41 (.agg #[.int .i64 n, .int .u64 c, .int .u64 b, .int .u64 o, .int .u64 p, .bool i, .bool r, .bool d, .bool q, .int .u32 (m : Int)]) (.agg #[.int .i64 0, .int .u64 0, .int .u64 0, .int .u64 0, .int .u64 0, .bool false, .bool false, .bool false, .bool false, .int .u32 0])).run Tryz.prog w = .ok (Hel.none ⟨n, c, b, o, p, i, r, d, q, m⟩) w := by
  have := eql_hel x ⟨n, c, b, o, p, i, r, d, q, m⟩ Hel.zero w
  rw [eqH_none] at this
  exact this
theorem eqH_self (h : Hel) : eqH h h = true := by unfold eqH; simp
theorem eqP_self (p : Pkt) : eqP p p = true := by unfold eqP; simp [eqH_self]
@[go_sem 5000] theorem eql_pkts (x : Nat) (k s n c b o p : Int) (i r d q : Bool) (m : Nat) (z : Int) (t : ByteArray) (w : World) : (Op.equalIn (x + 5) 50 (.agg #[.int .i64 k, .int .u64 s, .int .i64 n, .int .u64 c, .int .u64 b, .int .u64 o, .int .u64 p, .bool i, .bool r, .bool d, .bool q, .int .u32 (m : Int), .int .i64 z, .string t]) (.agg #[.int .i64 k, .int .u64 s, .int .i64 n, .int .u64 c, .int .u64 b, .int .u64 o, .int .u64 p, .bool i, .bool r, .bool d, .bool q, .int .u32 (m : Int), .int .i64 z, .string t])).run Tryz.prog w = .ok true w := by
  have := eql_pkt x ⟨k, s, ⟨n, c, b, o, p, i, r, d, q, m⟩, z, t⟩ ⟨k, s, ⟨n, c, b, o, p, i, r, d, q, m⟩, z, t⟩ w
  rw [eqP_self] at this
  exact this
theorem rblock_any (k : Int) (w : World) : Calls Tryz.prog 32 #[.int .i64 k] w fun e w' => e = .returned (.bool (blockK k)) ∧ w' = w := by
  unfold blockK
  by_cases h : 2 ≤ k
  · have e : decide (2 ≤ k) = true := decide_eq_true h
    go_enter Tryz.func32, Tryz.ntmps32
    go_wp2
    go_ret
    exact ⟨ret_bool (by simp [h]), rfl⟩
  · have e : decide (2 ≤ k) = false := decide_eq_false h
    go_enter Tryz.func32, Tryz.ntmps32
    go_wp2
    go_ret
    exact ⟨ret_bool (by simp), rfl⟩
theorem rdata_any (k : Int) (w : World) : Calls Tryz.prog 62 #[.int .i64 k] w fun e w' => e = .returned (.bool (dataK k)) ∧ w' = w := by
  unfold dataK
  by_cases h : k = 2
  · subst h
    go_enter Tryz.func62, Tryz.ntmps62
    go_wp2
    go_ret
    exact ⟨ret_bool (by simp), rfl⟩
  · have e : (k == 2) = false := beq_eq_false_iff_ne.2 h
    go_enter Tryz.func62, Tryz.ntmps62
    go_wp2
    go_ret
    exact ⟨ret_bool (by simp [h, Bool.beq_eq_decide_eq]), rfl⟩
end Go.Proofs.YtkjikigimmchlaaGreatDoor
