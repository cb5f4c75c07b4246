/- The superblock on a disk, layer 7: in plain words what is loaded of a disk, and what a commit makes of it; and that both sides answer just that, for every disk that may be. Under (the program's alone): both package variables as they are laid. -/
import Derived.LaidEql
import Derived.Stop.Asserts
import Derived.RowKitTokens
import Derived.Test.YtkjikigimmchlaaGreatDoorKA
import Derived.Test.YtkjikigimmchlaaGreatDoorPM
import Derived.Test.YtkjikigimmchlaaGreatDoorS7d
import Derived.Test.YtkjikigimmchlaaGreatDoorKI
import Derived.Test.YtkjikigimmchlaaGreatDoorKF
namespace Go.Proofs.YtkjikigimmchlaaGreatDoor
open Go.RowKit Go.Extern.Stop Go.Stop Go.Extern
end Go.Proofs.YtkjikigimmchlaaGreatDoor
namespace Go.Proofs.YtkjikigimmchlaaGreatDoor
open Go.RowKit Go.Extern.Stop Go.Stop Go.Extern
end Go.Proofs.YtkjikigimmchlaaGreatDoor
namespace Go.Proofs.YtkjikigimmchlaaGreatDoor
open Go.RowKit PX
set_option maxRecDepth 100000
theorem get_at (t : ByteArray) (k : Nat) (h : k < t.size) : (t[k]?.getD 0) = t.data.toList.getD k 0 := by
  rw [getElem?_pos t k h]
  exact at_txt t k h
theorem wrap_byte (x : UInt8) : IntKind.i64.wrap (x.toNat : Int) = (x.toNat : Int) := wrap_i64 (by omega) (by have := x.toNat_lt; omega)
theorem bits_at {w : World} {A : Option Addr} {l : List Bool} (h : Bs w w.heap.size A l) {g : Addr} (hA : A = some g) {u : World} (hb : Below w.heap.size w u) {j : Nat} {x : Bool} (hj : l[j]? = some x) : u.cell? (g.add j) = some (.bool x) := by
  obtain ⟨a, ha, hlt, hc⟩ := h j x hj
  rw [hA] at ha
  injection ha with ha
  subst ha
  exact (cell_of (addr_block g j) (hb.block _ hlt)).trans hc
theorem st_bs (A : Option Addr) (l : List Bool) : Stab tyL fun u => Bs u u.heap.size A l ∧ TyB u A := fun _ _ e h => ⟨Es.ext h.1 h.2 e rfl, Ty.ext h.2 e rfl⟩
theorem fl_bits (x : Nat) (h : x < 8) : fl [decide (x % 2 = 1), decide (x / 2 % 2 = 1), decide (x / 2 / 2 % 2 = 1)] = x := by
  have : ∀ x : Fin 8, fl [decide (x.1 % 2 = 1), decide (x.1 / 2 % 2 = 1), decide (x.1 / 2 / 2 % 2 = 1)] = x.1 := by decide
  exact this ⟨x, h⟩
theorem body_sup (l : List UInt8) (hl : l.length = 37) (hh : l.take 3 = [71, 77, 1]) (h8 : (l.getD 4 0).toNat < 8) : (supOf l).body = l := by
  have b5 := be_drop l 5 (by omega)
  have b13 := be_drop l 13 (by omega)
  have b21 := be_drop l 21 (by omega)
  have b29 := be_drop l 29 (by omega)
  unfold Sup.body supOf
  dsimp only
  rw [b5, b13, b21, b29, Int.toNat_natCast, fl_bits _ h8, UInt8.ofNat_toNat, UInt8.ofNat_toNat]
  have e29 : (l.drop 29).take 8 = l.drop 29 := List.take_of_length_le (by rw [List.length_drop, hl]; decide)
  have s21 : (l.drop 21).take 8 ++ l.drop 29 = l.drop 21 := by have := List.take_append_drop 8 (l.drop 21); rw [List.drop_drop] at this; exact this
  have s13 : (l.drop 13).take 8 ++ l.drop 21 = l.drop 13 := by have := List.take_append_drop 8 (l.drop 13); rw [List.drop_drop] at this; exact this
  have s5 : (l.drop 5).take 8 ++ l.drop 13 = l.drop 5 := by have := List.take_append_drop 8 (l.drop 5); rw [List.drop_drop] at this; exact this
  have s3 : l.drop 3 = l.getD 3 0 :: l.getD 4 0 :: l.drop 5 := by
    rw [List.drop_eq_getElem_cons (by omega), List.drop_eq_getElem_cons (by omega)]
    simp [List.getD, hl]
  simp only [List.append_assoc]
  rw [e29, s21, s13, s5]
  conv => rhs; rw [← List.take_append_drop 3 l, hh, s3]
  rfl
def supR (t : ByteArray) : Sup := ⟨IntKind.i64.wrap ((t[3]?.getD 0).toNat : Nat), num8 t.data.toList 5, num8 t.data.toList 13, num8 t.data.toList 21, num8 t.data.toList 29, decide ((t.data.toList.getD 4 0).toNat % 2 = 1), decide ((t.data.toList.getD 4 0).toNat / 2 % 2 = 1), decide ((t.data.toList.getD 4 0).toNat / 2 / 2 % 2 = 1)⟩
section
variable {s t : ByteArray} {w : World}
theorem rdec_any (hs : (s.size : Int) ≤ 3000) :
    Calls Tryz.prog 190 #[.string s] w fun e w' => e = .returned (.tuple #[supV (dec s).1, .int .i64 (dec s).2]) ∧ Below w.heap.size w w' := by
  refine run_v (t_v (fun u _ => ropen_any s u hs) ?_)
  unfold dec
  by_cases he : ¬ openE s = 0
  · rw [if_neg he]
    exact t_Y (b := openE s != 0) 9 (by simpa using he) (e_r2 (.tuple #[supV Sup.zero, .int .i64 (openE s)]) rfl)
  replace he := Decidable.not_not.1 he
  rw [if_pos he]
  generalize openT s = t
  refine t_N (b := openE s != 0) 0 (by simpa using he) ?_
  unfold formed
  by_cases hl : ¬ t.size = 37
  · rw [decide_eq_false (show ¬ t.data.toList.length = 37 from hl)]
    exact t_N (b := !((t.size : Int) != 37)) 9 (by simp; omega) (e_r2 (.tuple #[supV Sup.zero, .int .i64 2]) (by simp))
  replace hl := Decidable.not_not.1 hl
  have hlen : t.data.toList.length = 37 := hl
  rw [decide_eq_true hlen]
  refine t_Y (b := !((t.size : Int) != 37)) 1 (by simp; omega) (t_ck (p := 0 ≤ (4 : Int) ∧ (4 : Int) < (t.size : Nat)) (by omega) (t_lit 1 ?_))
  have h4 := get_at t 4 (by omega)
  have h3 := get_at t 3 (by omega)
  by_cases h8 : ¬ (t.data.toList.getD 4 0).toNat < 8
  · rw [decide_eq_false h8]
    exact t_Y (b := decide (((t[4]?.getD 0).toNat : Int) > 7)) 9 (decide_eq_true (show ((t[4]?.getD 0).toNat : Int) > 7 by rw [h4]; omega)) (e_r2 (.tuple #[supV Sup.zero, .int .i64 2]) (by simp))
  replace h8 := Decidable.not_not.1 h8
  rw [decide_eq_true h8]
  refine t_N (b := decide (((t[4]?.getD 0).toNat : Int) > 7)) 0 (decide_eq_false (show ¬ ((t[4]?.getD 0).toNat : Int) > 7 by rw [h4]; omega)) (t_ck (p := 0 ≤ (4 : Int) ∧ (4 : Int) < (t.size : Nat)) (by omega) ?_)
  refine t_call (f := 58) (args := #[.int .u8 ((t[4]?.getD 0).toNat : Nat), .int .i64 3]) (fun u _ _ => by rw [h4]; exact runflag_any _ 3 u (by omega) (by omega) (by decide)) ?_
  rintro u e u' _ hbu (⟨_, A, c, rfl, hc, hty, hbs, hb⟩ | ⟨hn, _⟩)
  case inr => exact absurd (by simpa using h8) hn
  rw [Int.toNat_natCast, unfl3] at *
  obtain ⟨g, rfl, _⟩ := hbs 0 _ rfl
  refine ⟨_, _, rfl, hb, st_bs (some g) _, ⟨hbs, hty.2⟩, ?_⟩
  refine t_ck (p := 0 ≤ (3 : Int) ∧ (3 : Int) < (t.size : Nat)) (by omega) ?_
  refine t_ck (p := 0 ≤ (0 : Int) ∧ (0 : Int) < (3 : Nat)) (by omega) (t_load (ty := 4) (p := g.add 0) (v := .bool (decide ((t.data.toList.getD 4 0).toNat % 2 = 1))) (fun v hv _ => reads1 (by kernel_rfl) (bits_at hv.2.1 rfl (Below.refl _ _) (j := 0) rfl)) ?_)
  refine t_ck (p := 0 ≤ (1 : Int) ∧ (1 : Int) < (3 : Nat)) (by omega) (t_load (ty := 4) (p := g.add 1) (v := .bool (decide ((t.data.toList.getD 4 0).toNat / 2 % 2 = 1))) (fun v hv _ => reads1 (by kernel_rfl) (bits_at hv.2.1 rfl (Below.refl _ _) (j := 1) rfl)) ?_)
  refine t_ck (p := 0 ≤ (2 : Int) ∧ (2 : Int) < (3 : Nat)) (by omega) (t_load (ty := 4) (p := g.add 2) (v := .bool (decide ((t.data.toList.getD 4 0).toNat / 2 / 2 % 2 = 1))) (fun v hv _ => reads1 (by kernel_rfl) (bits_at hv.2.1 rfl (Below.refl _ _) (j := 2) rfl)) ?_)
  have hN := fun (k : Nat) (hk : k + 8 ≤ t.size) v => (rnumber_any t k v (by omega) (by omega)).mono fun e v' h => (⟨h.1, h.2 ▸ Below.refl _ _⟩ : e = _ ∧ Below v.heap.size v v')
  refine t_v (fun v _ => hN 5 (by omega) v) (t_v (fun v _ => hN 13 (by omega) v) (t_v (fun v _ => hN 21 (by omega) v) (t_v (fun v _ => hN 29 (by omega) v) ?_)))
  have hS : supR t = supOf t.data.toList := by
    unfold supR; rw [h3, wrap_byte]; rfl
  have hR := fun v => rsright_any (supOf t.data.toList) v
  rw [← hS] at hR
  refine t_v (fun v _ => hR v) ?_
  rw [hS]
  cases hr : (supOf t.data.toList).right with
  | false => exact t_lit 9 (e_r2 (.tuple #[supV Sup.zero, .int .i64 2]) (by simp))
  | true =>
    have hw : (supOf t.data.toList).wide := ⟨num8_range _ _, num8_range _ _, num8_range _ _, num8_range _ _⟩
    have hB := fun v => rbytes_any (supOf t.data.toList) v hw (Int.natCast_nonneg _) (by show ((t.data.toList.getD 3 0).toNat : Int) < 256; have := (t.data.toList.getD 3 0).toNat_lt; omega)
    rw [← hS] at hB
    refine t_lit 2 (t_v (fun v _ => hB v) ?_)
    rw [hS]
    by_cases hh : t.data.toList.take 3 = [71, 77, 1]
    · have hd : txt (supOf t.data.toList).body = t := by rw [body_sup _ hlen hh h8, txt_of]
      exact t_lit 2 (t_N (b := !((txt (supOf t.data.toList).body).toList == t.toList)) 9 (by rw [hd]; simp) (e_r2 (.tuple #[supV (supR t), .int .i64 0]) (by rw [hS]; simp [hh])))
    · have hd : txt (supOf t.data.toList).body ≠ t := fun e => hh (by
        have e2 : (supOf t.data.toList).body = t.data.toList := congrArg (fun x : ByteArray => x.data.toList) e
        rw [← e2]
        rfl)
      exact t_lit 2 (t_Y (b := !((txt (supOf t.data.toList).body).toList == t.toList)) 9 (by simp; exact fun e => hd (toList_inj e)) (e_r2 (.tuple #[supV Sup.zero, .int .i64 2]) (by simp [hh])))
theorem rdecode_any (s : ByteArray) (w : World) (hs : (s.size : Int) ≤ 3000) : Calls Tryz.prog 190 #[.string s] w fun e w' => e = .returned (.tuple #[supV (dec s).1, .int .i64 (dec s).2]) ∧ Below w.heap.size w w' := rdec_any hs
end
end Go.Proofs.YtkjikigimmchlaaGreatDoor
namespace Go.Proofs.YtkjikigimmchlaaGreatDoor
open Go.RowKit
theorem bits_fl (i r d : Bool) : decide (fl [i, r, d] % 2 = 1) = i ∧ decide (fl [i, r, d] / 2 % 2 = 1) = r ∧ decide (fl [i, r, d] / 2 / 2 % 2 = 1) = d ∧ fl [i, r, d] < 8 := by
  cases i <;> cases r <;> cases d <;> decide
theorem sup_body (s : Sup) (hw : s.wide) (h0 : 0 ≤ s.n) (h1 : s.n < 256) : supOf s.body = s := by
  obtain ⟨n, c, b, o, p, i, r, d⟩ := s
  obtain ⟨⟨c0, c1⟩, ⟨b0, b1⟩, ⟨o0, o1⟩, p0, p1⟩ := hw
  dsimp only at *
  obtain ⟨e0, e1, e2, e3⟩ := bits_fl i r d
  have hn : ((UInt8.ofNat n.toNat).toNat : Int) = n := by
    rw [UInt8.toNat_ofNat', show n.toNat % 2 ^ 8 = n.toNat from by omega]; omega
  have hf : (UInt8.ofNat (fl [i, r, d])).toNat = fl [i, r, d] := by
    rw [UInt8.toNat_ofNat', show fl [i, r, d] % 2 ^ 8 = fl [i, r, d] from by omega]
  unfold supOf Sup.body
  dsimp only
  have n5 := num8_at [71, 77, 1, UInt8.ofNat n.toNat, UInt8.ofNat (fl [i, r, d])] (be 8 b.toNat ++ (be 8 o.toNat ++ be 8 p.toNat)) 5 c.toNat rfl
  have n13 := num8_at ([71, 77, 1, UInt8.ofNat n.toNat, UInt8.ofNat (fl [i, r, d])] ++ be 8 c.toNat) (be 8 o.toNat ++ be 8 p.toNat) 13 b.toNat (by simp [be_length])
  have n21 := num8_at ([71, 77, 1, UInt8.ofNat n.toNat, UInt8.ofNat (fl [i, r, d])] ++ be 8 c.toNat ++ be 8 b.toNat) (be 8 p.toNat) 21 o.toNat (by simp [be_length])
  have n29 := num8_at ([71, 77, 1, UInt8.ofNat n.toNat, UInt8.ofNat (fl [i, r, d])] ++ be 8 c.toNat ++ be 8 b.toNat ++ be 8 o.toNat) [] 29 p.toNat (by simp [be_length])
  rw [num8_nat c c0 c1] at n5
  rw [num8_nat b b0 b1] at n13
  rw [num8_nat o o0 o1] at n21
  rw [num8_nat p p0 p1] at n29
  simp only [List.append_assoc, List.append_nil] at n5 n13 n21 n29 ⊢
  rw [n5, n13, n21, n29]
  simp only [List.cons_append, List.nil_append, List.getD_cons_succ, List.getD_cons_zero]
  rw [hn, hf, e0, e1, e2]
theorem body_three (s : Sup) : s.body.take 3 = [71, 77, 1] := rfl
theorem right_n {s : Sup} (h : s.right = true) : 1 ≤ s.n ∧ s.n ≤ 32 ∧ s.c ≠ 0 := by
  unfold Sup.right at h
  simp at h
  exact ⟨h.1.1, h.1.2, h.2⟩
theorem formed_body (s : Sup) (hw : s.wide) (hr : s.right = true) : formed s.body = true := by
  obtain ⟨h1, h2, _⟩ := right_n hr
  have e := sup_body s hw (by omega) (by omega)
  unfold formed
  rw [e, hr, body_length, body_three]
  have hf := (bits_fl s.i s.r s.d).2.2.2
  have : (s.body.getD 4 0).toNat < 8 := by
    show (UInt8.ofNat (fl [s.i, s.r, s.d])).toNat < 8
    rw [UInt8.toNat_ofNat']
    omega
  rw [decide_eq_true this]
  rfl
theorem dec_bytes (s : Sup) (hw : s.wide) (hr : s.right = true) : dec s.bytes = (s, 0) := by
  obtain ⟨h1, h2, _⟩ := right_n hr
  obtain ⟨he, ht⟩ := open_sealed s.body
  unfold dec Sup.bytes
  rw [he, ht, if_pos rfl, txt_data, formed_body s hw hr, sup_body s hw (by omega) (by omega)]
  rfl
def Sup.encT (s : Sup) : ByteArray := if s.right then s.bytes else ⟨#[]⟩
def Sup.encE (s : Sup) : Int := if s.right then 0 else 1
theorem encode_any (s : Sup) (w : World) (hw : s.wide) : Calls Tryz.prog 228 #[supV s] w fun e w' => e = .returned (.tuple #[.string s.encT, .int .i64 s.encE]) ∧ Below w.heap.size w w' := by
  unfold Sup.encT Sup.encE
  cases hr : s.right with
  | true => exact encode_yes s w hw hr
  | false => exact encode_no s w hr
theorem rencode_any (s : Sup) (w : World) (hw : s.wide) : Calls Tryz.prog 83 #[supV s] w fun e w' => e = .returned (.tuple #[.string s.encT, .int .i64 s.encE]) ∧ Below w.heap.size w w' := by
  unfold Sup.encT Sup.encE
  cases hr : s.right with
  | true => exact rencode_yes s w hw hr
  | false => exact rencode_no s w hr
end Go.Proofs.YtkjikigimmchlaaGreatDoor
namespace Go.Proofs.YtkjikigimmchlaaGreatDoor
open Go.RowKit
def loadS (n : Nat) (D : Sup × Int) : Sup × Int := if D.2 = 0 then (if ((n : Int) - 2 == D.1.n) = true then D else (Sup.zero, 2)) else (Sup.zero, D.2)
def loadD (s : List ByteArray) (c : List Wr) (x : Bool) (t : ByteArray) : Sup × Int := if x = true then (Sup.zero, 6) else loadS s.length (dec (holdsL c 0 t))
def commitD (s : List ByteArray) (c : List Wr) (f : Int) (x : Bool) (b : Sup) : Ans :=
  if (((s.length : Int) - 2 == b.n) && b.right) = true then
    (if x = true then ⟨s, c, f, true, 6⟩ else if f = 1 then ⟨s, c, 0, true, 6⟩ else if f = 2 then ⟨s, c ++ [(0, b.bytes)], 0, true, 6⟩ else ⟨layL s (c ++ [(0, b.bytes)]), [], burnF (burnF f), false, 0⟩)
  else ⟨s, c, f, x, 1⟩
theorem bytes_size (b : Sup) : b.bytes.size = 41 := by
  unfold Sup.bytes
  rw [txt_size, seal_length, body_length]
set_option maxRecDepth 100000 in
theorem commit_any (A B : Option Addr) (n m : Nat) (s : List ByteArray) (c : List Wr) (f : Int) (x : Bool) (b : Sup) (w : World) (hm : Mem w A n B m s c) (hw : b.wide) (h1 : 1 ≤ s.length) (hl : s.length ≤ 64) (hc : c.length ≤ 900) (hf : f < 9223372036854775808) (hx : c.any (misfitW s.length) = false) :
    Calls Tryz.prog 188 #[.agg #[.slice A s.length n, .slice B c.length m, .int .i64 f, .bool x], supV b] w (GivesD (commitD s c f x b).s (commitD s c f x b).c (commitD s c f x b).f (commitD s c f x b).x (commitD s c f x b).e w) := by
  have he := fun v => encode_any b v hw
  unfold Sup.encT Sup.encE at he
  have hz : ¬ 64 < ((b.bytes).size : Int) := by rw [bytes_size]; decide
  have hx2 := fit_more (b := b.bytes) h1 hx (by rw [bytes_size]; decide)
  have hl' : (s.length : Int) ≤ 1000000 := by omega
  have hrf := reach_first h1
  unfold commitD
  generalize b.bytes = y at *
  have hlen : (c ++ [((0 : Int), y)]).length ≤ 1000 := by rw [List.length_append]; simp; omega
  cases hr : b.right with
  | false =>
    simp only [hr, Bool.false_eq_true, if_false] at he
    rw [Bool.and_false, if_neg (by simp)]
    cases hn : ((s.length : Int) - 2 == b.n) with
    | false => exact commit_misfit A B n m s c f x b w hm hl' hn
    | true => exact commit_wrong A B n m s c f x b w hm hl' hn 1 _ he (by decide)
  | true =>
    simp only [hr, if_true] at he
    rw [Bool.and_true]
    cases hn : ((s.length : Int) - 2 == b.n) with
    | false =>
      rw [if_neg (by simp)]
      exact commit_misfit A B n m s c f x b w hm hl' hn
    | true =>
      rw [if_pos rfl]
      cases x with
      | true =>
        rw [if_pos rfl]
        exact commit_stops A B n m s c f true b w hm hl' hn _ he 6 s c f true (fun v hb => write_stops A B n m s c f 0 true _ v (hm.up hb) (by rw [reach_dead]; decide)) (by decide)
      | false =>
        rw [if_neg (by simp)]
        by_cases hf1 : f = 1
        · subst hf1
          rw [if_pos rfl]
          exact commit_stops A B n m s c 1 false b w hm hl' hn _ he 6 s c 0 true (fun v hb => write_dies A B n m s c 1 0 false _ v (hm.up hb) hrf hz (by decide) rfl) (by decide)
        · rw [if_neg hf1]
          have hbd : burnD f false = false := by unfold burnD; rw [if_neg hf1]
          have hgo := fun v (hb : Below w.heap.size w v) => write_any A B n m s c f 0 false y v (hm.up hb) hrf hz hf hbd (by omega)
          generalize c ++ [((0 : Int), y)] = k at *
          by_cases hf2 : f = 2
          · subst hf2
            rw [if_pos rfl]
            refine commit_goes A B n m s c 2 false b w hm hl' hn _ he s k 1 false hgo s k 0 true 6 (fun A1 B1 n1 m1 v hv => ?_)
            refine (flush_dies A1 B1 s.length n1 k.length m1 v).mono ?_
            rintro e v' ⟨rfl, hb⟩
            exact ⟨A1, B1, n1, m1, rfl, hv.up hb, hb⟩
          · rw [if_neg hf2]
            have hb1 : burnF f ≠ 1 := by unfold burnF; split <;> (try split) <;> omega
            have hb2 : burnF f < 9223372036854775808 := by unfold burnF; split <;> (try split) <;> omega
            exact commit_goes A B n m s c f false b w hm hl' hn _ he s k (burnF f) false hgo (layL s k) [] (burnF (burnF f)) false 0 (fun A1 B1 n1 m1 v hv =>
              flush_any A1 B1 n1 m1 s k (burnF f) v hv hl (by unfold maxLen; omega) hb2 hb1 hx2)
set_option maxRecDepth 100000 in
theorem rload_any (A B : Option Addr) (n m : Nat) (s : List ByteArray) (c : List Wr) (f : Int) (x : Bool) (t : ByteArray) (w : World) (hm : Mem w A n B m s c) (hi : s[0]? = some t) (hl : s.length ≤ 64) (hc : c.length ≤ 1000) (hz : ((holdsL c 0 t).size : Int) ≤ 3000) :
    Calls Tryz.prog 130 #[.agg #[.slice A s.length n, .slice B c.length m, .int .i64 f, .bool x]] w fun e w' => e = .returned (.tuple #[supV (loadD s c x t).1, .int .i64 (loadD s c x t).2]) ∧ Below w.heap.size w w' := by
  cases x with
  | true => exact rload_stops A B n m s c f true w ⟨#[]⟩ 6 (fun v _ => rread_stops A B n m s c f 0 true v (by rw [reach_dead]; decide)) (by decide)
  | false =>
    have hr : ∀ v, Below w.heap.size w v → Calls Tryz.prog 189 #[.agg #[.slice A s.length n, .slice B c.length m, .int .i64 f, .bool false], .int .i64 0] v fun e v' => e = .returned (.tuple #[.string (holdsL c 0 t), .int .i64 0]) ∧ Below v.heap.size v v' :=
      fun v hb => rread_any A B n m s c f 0 t v (hm.up hb) hi (by unfold maxLen; omega)
    have hd := fun (v : World) (hb : Below w.heap.size w v) => (fun _ => rdecode_any (holdsL c 0 t) v hz) hb
    unfold loadD loadS
    rw [if_neg (by simp)]
    generalize dec (holdsL c 0 t) = D at *
    obtain ⟨b, e2⟩ := D
    dsimp only at *
    by_cases h2 : e2 = 0
    · subst h2
      rw [if_pos rfl]
      cases hn : ((s.length : Int) - 2 == b.n) with
      | true =>
        rw [if_pos rfl]
        exact rload_yes A B n m s c f false w (holdsL c 0 t) b hr hd (by omega) hn
      | false =>
        rw [if_neg (by simp)]
        exact rload_misfit A B n m s c f false w (holdsL c 0 t) b hr hd (by omega) hn
    · rw [if_neg h2]
      exact rload_bad A B n m s c f false w (holdsL c 0 t) b e2 hr hd h2
set_option maxRecDepth 100000 in
theorem rcommit_any (A B : Option Addr) (n m : Nat) (s : List ByteArray) (c : List Wr) (f : Int) (x : Bool) (b : Sup) (w : World) (hm : Mem w A n B m s c) (hw : b.wide) (h1 : 1 ≤ s.length) (hl : s.length ≤ 64) (hc : c.length ≤ 900) (hf : f < 9223372036854775808) (hx : c.any (misfitW s.length) = false) :
    Calls Tryz.prog 232 #[.agg #[.slice A s.length n, .slice B c.length m, .int .i64 f, .bool x], supV b] w (GivesD (commitD s c f x b).s (commitD s c f x b).c (commitD s c f x b).f (commitD s c f x b).x (commitD s c f x b).e w) := by
  have he := fun v => rencode_any b v hw
  unfold Sup.encT Sup.encE at he
  have hz : ¬ 64 < ((b.bytes).size : Int) := by rw [bytes_size]; decide
  have hx2 := fit_more (b := b.bytes) h1 hx (by rw [bytes_size]; decide)
  have hl' : (s.length : Int) ≤ 1000000 := by omega
  have hrf := reach_first h1
  unfold commitD
  generalize b.bytes = y at *
  have hlen : (c ++ [((0 : Int), y)]).length ≤ 1000 := by rw [List.length_append]; simp; omega
  cases hr : b.right with
  | false =>
    simp only [hr, Bool.false_eq_true, if_false] at he
    rw [Bool.and_false, if_neg (by simp)]
    exact rcommit_wrong A B n m s c f x b w hm 1 _ he (by decide)
  | true =>
    simp only [hr, if_true] at he
    rw [Bool.and_true]
    cases hn : ((s.length : Int) - 2 == b.n) with
    | false =>
      rw [if_neg (by simp)]
      exact rcommit_misfit A B n m s c f x b w hm hl' hn _ he
    | true =>
      rw [if_pos rfl]
      cases x with
      | true =>
        rw [if_pos rfl]
        exact rcommit_stops A B n m s c f true b w hm hl' hn _ he 6 s c f true (fun v hb => rwrite_stops A B n m s c f 0 true _ v (hm.up hb) (by rw [reach_dead]; decide)) (by decide)
      | false =>
        rw [if_neg (by simp)]
        by_cases hf1 : f = 1
        · subst hf1
          rw [if_pos rfl]
          exact rcommit_stops A B n m s c 1 false b w hm hl' hn _ he 6 s c 0 true (fun v hb => rwrite_dies A B n m s c 1 0 false _ v (hm.up hb) hrf hz (by decide) rfl) (by decide)
        · rw [if_neg hf1]
          have hbd : burnD f false = false := by unfold burnD; rw [if_neg hf1]
          have hgo := fun v (hb : Below w.heap.size w v) => rwrite_any A B n m s c f 0 false y v (hm.up hb) hrf hz hf hbd (by omega)
          generalize c ++ [((0 : Int), y)] = k at *
          by_cases hf2 : f = 2
          · subst hf2
            rw [if_pos rfl]
            refine rcommit_goes A B n m s c 2 false b w hm hl' hn _ he s k 1 false hgo s k 0 true 6 (fun A1 B1 n1 m1 v hv => ?_)
            refine (rflush_dies A1 B1 s.length n1 k.length m1 v).mono ?_
            rintro e v' ⟨rfl, hb⟩
            exact ⟨A1, B1, n1, m1, rfl, hv.up hb, hb⟩
          · rw [if_neg hf2]
            have hb1 : burnF f ≠ 1 := by unfold burnF; split <;> (try split) <;> omega
            have hb2 : burnF f < 9223372036854775808 := by unfold burnF; split <;> (try split) <;> omega
            exact rcommit_goes A B n m s c f false b w hm hl' hn _ he s k (burnF f) false hgo (layL s k) [] (burnF (burnF f)) false 0 (fun A1 B1 n1 m1 v hv =>
              rflush_any A1 B1 n1 m1 s k (burnF f) v hv hl (by unfold maxLen; omega) hb2 hb1 hx2)
end Go.Proofs.YtkjikigimmchlaaGreatDoor
