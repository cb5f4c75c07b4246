/- Hellos out of bytes by the document's way, carried out plainly; for every text. No condition. -/
import Derived.Test.YtabenngcmpjlhaaGreatDoorKA
import Derived.Test.YtabenngcmpjlhaaGreatDoorKM
import Derived.Test.YtabenngcmpjlhaaGreatDoorKB
import Derived.Test.YtabenngcmpjlhaaGreatDoorG3
namespace Go.Proofs.YtabenngcmpjlhaaGreatDoor
open Go.RowKit
structure Hel where
  n : Int
  c : Int
  b : Int
  o : Int
  p : Int
  i : Bool
  r : Bool
  d : Bool
  q : Bool
  m : Nat
@[reducible] def helC (h : Hel) : List Value := [.int .i64 h.n, .int .u64 h.c, .int .u64 h.b, .int .u64 h.o, .int .u64 h.p, .bool h.i, .bool h.r, .bool h.d, .bool h.q, .int .u32 (h.m : Int)]
@[reducible] def helV (h : Hel) : Value := .agg #[.int .i64 h.n, .int .u64 h.c, .int .u64 h.b, .int .u64 h.o, .int .u64 h.p, .bool h.i, .bool h.r, .bool h.d, .bool h.q, .int .u32 (h.m : Int)]
def Hel.wide (h : Hel) : Prop := (0 ≤ h.c ∧ h.c < 18446744073709551616) ∧ (0 ≤ h.b ∧ h.b < 18446744073709551616) ∧ (0 ≤ h.o ∧ h.o < 18446744073709551616) ∧ (0 ≤ h.p ∧ h.p < 18446744073709551616) ∧ h.m < 4294967296
def Hel.right (h : Hel) : Bool := !decide (h.c = 0) && mrightB h.m h.n && !(h.q && (h.r || h.i))
def Hel.zero : Hel := ⟨0, 0, 0, 0, 0, false, false, false, false, 0⟩
theorem mright_n {m : Nat} {n : Int} (h : mrightB m n = true) : 1 ≤ n ∧ n ≤ 32 := by
  unfold mrightB at h
  simp at h
  exact h.1
theorem Hel.right_n {h : Hel} (hr : h.right = true) : 1 ≤ h.n ∧ h.n ≤ 32 ∧ h.c ≠ 0 := by
  unfold Hel.right at hr
  simp at hr
  have := mright_n hr.1.2
  exact ⟨this.1, this.2, hr.1.1⟩
end Go.Proofs.YtabenngcmpjlhaaGreatDoor
namespace Go.Proofs.YtabenngcmpjlhaaGreatDoor
open Go.RowKit
@[reducible] def helB (s : Sup) (x : Bool) (m : Nat) : Hel := ⟨s.n, s.c, s.b, s.o, s.p, s.i, s.r && !x, s.d, x, m⟩
set_option maxRecDepth 100000 in
set_option maxHeartbeats 2000000 in
theorem rhof_any (s : Sup) (x : Bool) (m : Nat) (w : World) : Calls Tryz.prog 130 #[supV s, .bool x, .int .u32 (m : Int)] w fun e w' => e = .returned (helV (helB s x m)) ∧ Below w.heap.size w w' := by
  obtain ⟨n, c, b, o, p, i, r, d⟩ := s
  dsimp only [supV, helV, helB]
  cases r
  · go_enter Tryz.func130, Tryz.ntmps130
    go_wp2_with fail
    refine bodyPost_ret (v := .agg #[.int .i64 n, .int .u64 c, .int .u64 b, .int .u64 o, .int .u64 p, .bool i, .bool false, .bool d, .bool x, .int .u32 (m : Int)]) (by simp [results, Tryz.results130, go_sem]) rfl ⟨rfl, ?_⟩
    exact below2
  · go_enter Tryz.func130, Tryz.ntmps130
    go_wp2_with fail
    refine bodyPost_ret (v := .agg #[.int .i64 n, .int .u64 c, .int .u64 b, .int .u64 o, .int .u64 p, .bool i, .bool (!x), .bool d, .bool x, .int .u32 (m : Int)]) (by simp [results, Tryz.results130, go_sem]) rfl ⟨rfl, ?_⟩
    exact below2
theorem vr_b (c b o p : Int) (w : World) : Calls Tryz.prog 236 #[.agg #[.int .u64 c, .int .u64 b, .int .u64 o, .int .u64 p]] w fun e w' => e = .returned (.bool (!decide (c = 0))) ∧ Below w.heap.size w w' := vright_any c b o p w
theorem mr_b (m : Nat) (n : Int) (w : World) (hm : m < 4294967296) : Calls Tryz.prog 235 #[.int .u32 (m : Int), .int .i64 n] w fun e w' => e = .returned (.bool (mrightB m n)) ∧ Below w.heap.size w w' := by
  refine (mright_any m n w hm).mono ?_
  rintro e w' ⟨rfl, rfl⟩
  exact ⟨rfl, Below.refl _ _⟩
theorem rmr_b (m : Nat) (n : Int) (w : World) (hm : m < 4294967296) : Calls Tryz.prog 72 #[.int .u32 (m : Int), .int .i64 n] w fun e w' => e = .returned (.bool (mrightB m n)) ∧ Below w.heap.size w w' := by
  refine (mrright_any m n w hm).mono ?_
  rintro e w' ⟨rfl, rfl⟩
  exact ⟨rfl, Below.refl _ _⟩
set_option maxRecDepth 100000 in
set_option maxHeartbeats 4000000 in
theorem hright_any (h : Hel) (w : World) (hm : h.m < 4294967296) : Calls Tryz.prog 197 #[helV h] w fun e w' => e = .returned (.bool h.right) ∧ Below w.heap.size w w' := by
  obtain ⟨n, c, b, o, p, i, r, d, q, m⟩ := h
  unfold Hel.right
  dsimp only [helV] at *
  have hv := fun w => vr_b c b o p w
  have hr := fun w => mr_b m n w hm
  clear hm
  generalize (!decide (c = 0)) = x at *
  generalize mrightB m n = y at *
  have HV := Lib.hid hv; clear hv
  have HR := Lib.hid hr; clear hr
  have H0 := Lib.hid ((Held.refl w).lay [.int .i64 n, .int .u64 c, .int .u64 b, .int .u64 o, .int .u64 p, .bool i, .bool r, .bool d, .bool q, .int .u32 (m : Int)] 41)
  cases q
  · go_enter Tryz.func197, Tryz.ntmps197
    go_wp2_with fail
    refine (HV.out _).mono ?_
    rintro e w1 ⟨rfl, hb⟩
    have H1 := Lib.hid (H0.out.up hb)
    clear hb
    have k := H1.out.b0.cell
    cases x
    · go_wp2_with fail
      go_ret
      exact ⟨ret_bool (by simp), H1.out.below⟩
    · go_wp2_with fail
      refine (HR.out _).mono ?_
      rintro e w2 ⟨rfl, hb⟩
      have H2 := Lib.hid (H1.out.up hb)
      clear hb k
      go_wp2_with fail
      go_ret
      exact ⟨ret_bool (by simp), H2.out.below⟩
  · cases r
    · cases i
      · go_enter Tryz.func197, Tryz.ntmps197
        go_wp2_with fail
        refine (HV.out _).mono ?_
        rintro e w1 ⟨rfl, hb⟩
        have H1 := Lib.hid (H0.out.up hb)
        clear hb
        have k := H1.out.b0.cell
        cases x
        · go_wp2_with fail
          go_ret
          exact ⟨ret_bool (by simp), H1.out.below⟩
        · go_wp2_with fail
          refine (HR.out _).mono ?_
          rintro e w2 ⟨rfl, hb⟩
          have H2 := Lib.hid (H1.out.up hb)
          clear hb k
          go_wp2_with fail
          go_ret
          exact ⟨ret_bool (by simp), H2.out.below⟩
      · go_enter Tryz.func197, Tryz.ntmps197
        go_wp2_with fail
        go_ret
        exact ⟨ret_bool (by simp), H0.out.below⟩
    · go_enter Tryz.func197, Tryz.ntmps197
      go_wp2_with fail
      go_ret
      exact ⟨ret_bool (by simp), H0.out.below⟩
set_option maxRecDepth 100000 in
set_option maxHeartbeats 4000000 in
theorem rhright_any (h : Hel) (w : World) (hm : h.m < 4294967296) : Calls Tryz.prog 36 #[helV h] w fun e w' => e = .returned (.bool h.right) ∧ Below w.heap.size w w' := by
  obtain ⟨n, c, b, o, p, i, r, d, q, m⟩ := h
  unfold Hel.right
  dsimp only [helV] at *
  have hr := fun w => rmr_b m n w hm
  have hn := @mright_n m n
  clear hm
  generalize mrightB m n = y at *
  have HR := Lib.hid hr; clear hr
  have H0 := Lib.hid ((Held.refl w).lay [.int .i64 n, .int .u64 c, .int .u64 b, .int .u64 o, .int .u64 p, .bool i, .bool r, .bool d, .bool q, .int .u32 (m : Int)] 41)
  have hy : ¬ (1 ≤ n ∧ n ≤ 32) → y = false := fun h => by
    cases y
    · rfl
    · exact absurd (hn rfl) h
  clear hn
  by_cases h1 : (1 : Int) ≤ n
  · have e1 : decide ((1 : Int) ≤ n) = true := decide_eq_true h1
    by_cases h2 : n ≤ (32 : Int)
    · have e2 : decide (n ≤ (32 : Int)) = true := decide_eq_true h2
      clear hy
      by_cases c0 : c = 0
      · subst c0
        go_enter Tryz.func36, Tryz.ntmps36
        go_wp2_with fail
        go_ret
        exact ⟨ret_bool (by simp), H0.out.below⟩
      · have c1 : (c != 0) = true := bne_iff_ne.2 c0
        have c2 : (c == 0) = false := beq_eq_false_iff_ne.2 c0
        go_enter Tryz.func36, Tryz.ntmps36
        go_wp2_with fail
        refine (HR.out _).mono ?_
        rintro e w1 ⟨rfl, hb⟩
        have H1 := Lib.hid (H0.out.up hb)
        clear hb
        have k := H1.out.b0.cell
        cases y
        · go_wp2_with fail
          go_ret
          exact ⟨ret_bool (by simp [c0]), H1.out.below⟩
        · cases q
          · go_wp2_with fail
            go_ret
            exact ⟨ret_bool (by simp [c0]), H1.out.below⟩
          · cases r
            · cases i
              · go_wp2_with fail
                go_ret
                exact ⟨ret_bool (by simp [c0]), H1.out.below⟩
              · go_wp2_with fail
                go_ret
                exact ⟨ret_bool (by simp [c0]), H1.out.below⟩
            · go_wp2_with fail
              go_ret
              exact ⟨ret_bool (by simp [c0]), H1.out.below⟩
    · have e2 : decide (n ≤ (32 : Int)) = false := decide_eq_false h2
      obtain rfl := hy (fun h => h2 h.2)
      clear hy
      go_enter Tryz.func36, Tryz.ntmps36
      go_wp2_with fail
      go_ret
      exact ⟨ret_bool (by simp), H0.out.below⟩
  · have e1 : decide ((1 : Int) ≤ n) = false := decide_eq_false h1
    obtain rfl := hy (fun h => h1 h.1)
    clear hy
    go_enter Tryz.func36, Tryz.ntmps36
    go_wp2_with fail
    go_ret
    exact ⟨ret_bool (by simp), H0.out.below⟩
end Go.Proofs.YtabenngcmpjlhaaGreatDoor
namespace Go.Proofs.YtabenngcmpjlhaaGreatDoor
open Go.RowKit
def Hel.body (h : Hel) : List UInt8 := [UInt8.ofNat h.n.toNat, UInt8.ofNat (fl [h.i, h.r, h.d, h.q])] ++ be 8 h.c.toNat ++ be 8 h.b.toNat ++ be 8 h.o.toNat ++ be 8 h.p.toNat ++ be 4 h.m
theorem hbody_length (h : Hel) : h.body.length = 38 := by simp [Hel.body, be_length]
def Hel.bytes (h : Hel) : ByteArray := txt h.body
theorem hbytes_size (h : Hel) : h.bytes.size = 38 := hbody_length h
theorem bsB {w : World} {g : Nat} {l : List Bool} (h : Box w g (l.map Value.bool)) : Bs w w.heap.size (some ⟨g, 0, none⟩) l := by
  intro k x hk
  refine ⟨_, rfl, h.lt, ?_⟩
  have : (⟨g, 0, none⟩ : Addr).add k = ⟨g, k, none⟩ := by unfold Addr.add; split <;> simp_all
  rw [this, h.cell, List.getElem?_map, hk]
  rfl
theorem flags4 {g : Nat} {i r d q : Bool} {w : World} (h : Box w g [.bool i, .bool r, .bool d, .bool q]) :
    Calls Tryz.prog 237 #[.slice (some ⟨g, 0, none⟩) 4 4] w fun e w' => e = .returned (.int .u8 (fl [i, r, d, q])) ∧ Below w.heap.size w w' := by
  refine (flags_any _ 4 [i, r, d, q] w _ (bsB h) (Nat.le_refl _) (by unfold maxLen; decide)).mono ?_
  rintro e w' ⟨rfl, rfl⟩
  exact ⟨rfl, Below.refl _ _⟩
theorem rflags4 {g : Nat} {i r d q : Bool} {w : World} (h : Box w g [.bool i, .bool r, .bool d, .bool q]) :
    Calls Tryz.prog 188 #[.slice (some ⟨g, 0, none⟩) 4 4] w fun e w' => e = .returned (.int .u8 (fl [i, r, d, q])) ∧ Below w.heap.size w w' := by
  refine (rflags_any _ 4 [i, r, d, q] w _ (bsB h) (Nat.le_refl _) (by unfold maxLen; decide)).mono ?_
  rintro e w' ⟨rfl, rfl⟩
  exact ⟨rfl, Below.refl _ _⟩
theorem head2 (n : Int) (f : Nat) (h0 : 0 ≤ n) (h1 : n < 256) : strOfNums [IntKind.u8.wrap n, (f : Int)] = txt [UInt8.ofNat n.toNat, UInt8.ofNat f] := by
  rw [IntWalk.u8_in n (by omega)]
  simp only [strOfNums, List.map_cons, List.map_nil, txt, Int.toNat_natCast]
theorem put32_b (m : Nat) (w : World) (h1 : m < 4294967296) : Calls Tryz.prog 196 #[.int .u32 (m : Int)] w fun e w' => e = .returned (.string ⟨(be 4 m).toArray⟩) ∧ Below w.heap.size w w' := by
  have := put32_any (m : Int) w (by omega) (by omega)
  rw [Int.toNat_natCast] at this
  exact this
theorem rput32_b (m : Nat) (w : World) (h1 : m < 4294967296) : Calls Tryz.prog 173 #[.int .u32 (m : Int)] w fun e w' => e = .returned (.string ⟨(be 4 m).toArray⟩) ∧ Below w.heap.size w w' := by
  have := rput32_any (m : Int) w (by omega) (by omega)
  rw [Int.toNat_natCast] at this
  exact this
set_option maxRecDepth 100000 in
set_option maxHeartbeats 4000000 in
theorem hencode_yes (s : Hel) (w : World) (hw : s.wide) (hr : s.right = true) :
    Calls Tryz.prog 200 #[helV s] w fun e w' => e = .returned (.tuple #[.string s.bytes, .int .i64 0]) ∧ Below w.heap.size w w' := by
  have hsr := fun w => hright_any s w hw.2.2.2.2
  have hn := Hel.right_n hr
  rw [hr] at hsr
  have hbl := hbody_length s
  unfold Hel.bytes
  unfold Hel.body at *
  obtain ⟨n, c, b, o, p, i, r, d, q, m⟩ := s
  dsimp only [helV] at *
  obtain ⟨⟨c0, c1⟩, ⟨b0, b1⟩, ⟨o0, o1⟩, ⟨p0, p1⟩, m1⟩ := hw
  dsimp only at c0 c1 b0 b1 o0 o1 p0 p1 m1
  have hn0 : 0 ≤ n := by have := hn.1; omega
  have hn1 : n < 256 := by have := hn.2.1; omega
  clear hn
  have HSR := Lib.hid hsr; clear hsr hr
  have HBL := Lib.hid hbl; clear hbl
  have hz := nums2
  have HH := Lib.hid ((Held.refl w).lay [.int .i64 n, .int .u64 c, .int .u64 b, .int .u64 o, .int .u64 p, .bool i, .bool r, .bool d, .bool q, .int .u32 (m : Int)] 41)
  go_enter Tryz.func200, Tryz.ntmps200
  go_wp2_with fail
  refine (HSR.out _).mono ?_
  rintro e w1 ⟨rfl, hb⟩
  have H1 := Lib.hid (HH.out.up hb)
  clear hb HH
  go_wp2_with fail
  refine held_begin (by kernel_rfl) H1.out (fun v0 hH0 => ?_)
  refine wpAnyH_take (i := 0) (v := ?_) rfl (by kernel_rfl) (by kernel_rfl) (by kernel_rfl) (fun _ _ _ h => h) (Or.inl ⟨by rfl, ?_⟩) hH0 ?_
  rotate_left
  · (intro v hSw; go_simp; try with_reducible rfl)
  simp only [Act.put, List.setIfInBounds_toArray, List.set_cons_zero, List.set_cons_succ, List.getElem_toArray, List.getElem_cons_zero]
  refine wpAnyH_take (i := 1) (v := ?_) rfl (by kernel_rfl) (by kernel_rfl) (by kernel_rfl) (fun _ _ _ h => h) (Or.inl ⟨by rfl, ?_⟩) hH0 ?_
  rotate_left
  · (intro v hSw; have k := hSw.b0.cell; go_simp; try with_reducible rfl)
  simp only [Act.put, List.setIfInBounds_toArray, List.set_cons_zero, List.set_cons_succ, List.getElem_toArray, List.getElem_cons_zero, List.getElem_cons_succ]
  refine wpAnyH_take (i := 2) (v := ?_) rfl (by kernel_rfl) (by kernel_rfl) (by kernel_rfl) (fun _ _ _ h => h) (Or.inl ⟨by rfl, ?_⟩) hH0 ?_
  rotate_left
  · (intro v hSw; go_simp; try with_reducible rfl)
  simp only [Act.put, List.setIfInBounds_toArray, List.set_cons_zero, List.set_cons_succ, List.getElem_toArray, List.getElem_cons_zero, List.getElem_cons_succ]
  refine wpAnyH_take (i := 3) (v := ?_) rfl (by kernel_rfl) (by kernel_rfl) (by kernel_rfl) (fun _ _ _ h => h) (Or.inl ⟨by rfl, ?_⟩) hH0 ?_
  rotate_left
  · (intro v hSw; go_simp; try with_reducible rfl)
  simp only [Act.put, List.setIfInBounds_toArray, List.set_cons_zero, List.set_cons_succ, List.getElem_toArray, List.getElem_cons_zero, List.getElem_cons_succ]
  refine wpAnyH_take (i := 4) (v := ?_) rfl (by kernel_rfl) (by kernel_rfl) (by kernel_rfl) (fun _ _ _ h => h) (Or.inl ⟨by rfl, ?_⟩) hH0 ?_
  rotate_left
  · (intro v hSw; have k := hSw.b0.cell; go_simp; try with_reducible rfl)
  simp only [Act.put, List.setIfInBounds_toArray, List.set_cons_zero, List.set_cons_succ, List.getElem_toArray, List.getElem_cons_zero, List.getElem_cons_succ]
  refine wpAnyH_take (i := 5) (v := ?_) rfl (by kernel_rfl) (by kernel_rfl) (by kernel_rfl) (fun _ _ _ h => h) (Or.inl ⟨by rfl, ?_⟩) hH0 ?_
  rotate_left
  · (intro v hSw; go_simp; try with_reducible rfl)
  simp only [Act.put, List.setIfInBounds_toArray, List.set_cons_zero, List.set_cons_succ, List.getElem_toArray, List.getElem_cons_zero, List.getElem_cons_succ]
  refine wpAnyH_take (i := 6) (v := ?_) rfl (by kernel_rfl) (by kernel_rfl) (by kernel_rfl) (fun _ _ _ h => h) (Or.inl ⟨by rfl, ?_⟩) hH0 ?_
  rotate_left
  · (intro v hSw; have k := hSw.b0.cell; go_simp; try with_reducible rfl)
  simp only [Act.put, List.setIfInBounds_toArray, List.set_cons_zero, List.set_cons_succ, List.getElem_toArray, List.getElem_cons_zero, List.getElem_cons_succ]
  refine wpAnyH_take (i := 7) (v := ?_) rfl (by kernel_rfl) (by kernel_rfl) (by kernel_rfl) (fun _ _ _ h => h) (Or.inl ⟨by rfl, ?_⟩) hH0 ?_
  rotate_left
  · (intro v hSw; go_simp; try with_reducible rfl)
  simp only [Act.put, List.setIfInBounds_toArray, List.set_cons_zero, List.set_cons_succ, List.getElem_toArray, List.getElem_cons_zero, List.getElem_cons_succ]
  refine wpAnyH_take (i := 8) (v := ?_) rfl (by kernel_rfl) (by kernel_rfl) (by kernel_rfl) (fun _ _ _ h => h) (Or.inl ⟨by rfl, ?_⟩) hH0 ?_
  rotate_left
  · (intro v hSw; have k := hSw.b0.cell; go_simp; try with_reducible rfl)
  simp only [Act.put, List.setIfInBounds_toArray, List.set_cons_zero, List.set_cons_succ, List.getElem_toArray, List.getElem_cons_zero, List.getElem_cons_succ]
  refine wpAnyH_take (i := 9) (v := ?_) rfl (by kernel_rfl) (by kernel_rfl) (by kernel_rfl) (fun _ _ _ h => h) (Or.inl ⟨by rfl, ?_⟩) hH0 ?_
  rotate_left
  · (intro v hSw; go_simp; try with_reducible rfl)
  simp only [Act.put, List.setIfInBounds_toArray, List.set_cons_zero, List.set_cons_succ, List.getElem_toArray, List.getElem_cons_zero, List.getElem_cons_succ]
  refine wpAnyH_take (i := 10) (v := ?_) rfl (by kernel_rfl) (by kernel_rfl) (by kernel_rfl) (fun _ _ _ h => h) (Or.inl ⟨by rfl, ?_⟩) hH0 ?_
  rotate_left
  · (intro v hSw; have k := hSw.b0.cell; go_simp; try with_reducible rfl)
  simp only [Act.put, List.setIfInBounds_toArray, List.set_cons_zero, List.set_cons_succ, List.getElem_toArray, List.getElem_cons_zero, List.getElem_cons_succ]
  refine wpAnyH_ready (rs := [11]) (by kernel_rfl) (by simp) ?_
  refine AllReadyH.cons rfl (fun K hK => ?_) AllReadyH.nil
  go_simp
  refine hK.out _ _ (hH0.alloc _) (fun hX => ?_)
  refine laid_box hH0 (fun v1 hH1 => ?_)
  clear hK K hX hH0
  refine wpAnyH_ready (rs := [12]) (by kernel_rfl) (by simp) ?_
  refine AllReadyH.cons rfl (fun K hK => ?_) AllReadyH.nil
  go_simp
  refine (flags4 hH1.b0).mono ?_
  rintro e v2 ⟨rfl, hb⟩
  go_wp2_with fail
  refine hK.out _ _ (hH1.up hb) (fun hH2 => ?_)
  clear hK K hH1
  refine wpAnyH_ready (rs := [13]) (by kernel_rfl) (by simp) ?_
  refine AllReadyH.cons rfl (fun K hK => ?_) AllReadyH.nil
  go_simp
  refine hK.out _ _ (hH2.alloc _) (fun hX => ?_)
  refine laid_box hH2 (fun v3 hH3 => ?_)
  clear hK K hX hH2
  refine wpAnyH_take (i := 14) (v := ?_) rfl (by kernel_rfl) (by kernel_rfl) (by kernel_rfl) (fun _ _ _ h => h) (Or.inl ⟨by rfl, ?_⟩) hH3 ?_
  rotate_left
  · (intro v hSw; have c2 := conv_box hSw.b0; go_simp; try with_reducible rfl)
  simp only [Act.put, List.setIfInBounds_toArray, List.set_cons_zero, List.set_cons_succ, List.getElem_toArray, List.getElem_cons_zero, List.getElem_cons_succ]
  refine wpAnyH_take (i := 15) (v := ?_) rfl (by kernel_rfl) (by kernel_rfl) (by kernel_rfl) (fun _ _ _ h => h) (Or.inl ⟨by rfl, ?_⟩) hH3 ?_
  rotate_left
  · (intro v hSw; go_simp; try with_reducible rfl)
  simp only [Act.put, List.setIfInBounds_toArray, List.set_cons_zero, List.set_cons_succ, List.getElem_toArray, List.getElem_cons_zero, List.getElem_cons_succ]
  refine wpAnyH_done (by kernel_rfl) ?_ _
  rw [head2 n (fl [i, r, d, q]) hn0 hn1]
  clear hz
  generalize hx : txt [UInt8.ofNat n.toNat, UInt8.ofNat (fl [i, r, d, q])] = x
  have hxz : (x.size : Int) = 2 := by rw [← hx]; rfl
  have HX := Lib.hid hx; clear hx
  have k := hH3.b2.cell
  have H4 := Lib.hid hH3
  clear hH3 hb H1
  go_wp2_with fail
  refine wp_loop_rounds 5 ?_
  clear k
  rw [rounds_succ]
  go_wp2_with fail
  refine (put64_any _ _ c0 c1).mono ?_
  rintro e w5 ⟨rfl, hb⟩
  have H5 := Lib.hid (H4.out.up hb)
  clear hb H4
  generalize hp : (⟨(be 8 c.toNat).toArray⟩ : ByteArray) = y
  have hqz : (y.size : Int) = 8 := by rw [← hp]; simp [ByteArray.size, be_length]
  have HQ0 := Lib.hid hp; clear hp
  go_wp2_with fail
  generalize hx1 : x ++ y = x1
  have hxz1 : (x1.size : Int) = 10 := by rw [← hx1]; simp; omega
  have HX1 := Lib.hid hx1; clear hx1 hqz hxz
  rw [rounds_succ]
  go_wp2_with fail
  refine (put64_any _ _ b0 b1).mono ?_
  rintro e w6 ⟨rfl, hb⟩
  have H6 := Lib.hid (H5.out.up hb)
  clear hb H5
  generalize hp : (⟨(be 8 b.toNat).toArray⟩ : ByteArray) = y
  have hqz : (y.size : Int) = 8 := by rw [← hp]; simp [ByteArray.size, be_length]
  have HQ1 := Lib.hid hp; clear hp
  go_wp2_with fail
  generalize hx2 : x1 ++ y = x2
  have hxz2 : (x2.size : Int) = 18 := by rw [← hx2]; simp; omega
  have HX2 := Lib.hid hx2; clear hx2 hqz hxz1
  rw [rounds_succ]
  go_wp2_with fail
  refine (put64_any _ _ o0 o1).mono ?_
  rintro e w7 ⟨rfl, hb⟩
  have H7 := Lib.hid (H6.out.up hb)
  clear hb H6
  generalize hp : (⟨(be 8 o.toNat).toArray⟩ : ByteArray) = y
  have hqz : (y.size : Int) = 8 := by rw [← hp]; simp [ByteArray.size, be_length]
  have HQ2 := Lib.hid hp; clear hp
  go_wp2_with fail
  generalize hx3 : x2 ++ y = x3
  have hxz3 : (x3.size : Int) = 26 := by rw [← hx3]; simp; omega
  have HX3 := Lib.hid hx3; clear hx3 hqz hxz2
  rw [rounds_succ]
  go_wp2_with fail
  refine (put64_any _ _ p0 p1).mono ?_
  rintro e w8 ⟨rfl, hb⟩
  have H8 := Lib.hid (H7.out.up hb)
  clear hb H7
  generalize hp : (⟨(be 8 p.toNat).toArray⟩ : ByteArray) = y
  have hqz : (y.size : Int) = 8 := by rw [← hp]; simp [ByteArray.size, be_length]
  have HQ3 := Lib.hid hp; clear hp
  go_wp2_with fail
  generalize hx4 : x3 ++ y = x4
  have hxz4 : (x4.size : Int) = 34 := by rw [← hx4]; simp; omega
  have HX4 := Lib.hid hx4; clear hx4 hqz hxz3
  rw [rounds_succ]
  have k := H8.out.b2.cell
  go_wp2_with fail
  refine (put32_b _ _ m1).mono ?_
  rintro e w9 ⟨rfl, hb⟩
  have H9 := Lib.hid (H8.out.up hb)
  clear hb H8 k
  generalize hp : (⟨(be 4 m).toArray⟩ : ByteArray) = y
  have hqz : (y.size : Int) = 4 := by rw [← hp]; simp [ByteArray.size, be_length]
  have HQ4 := Lib.hid hp; clear hp
  go_wp2_with fail
  have he : x4 ++ y = txt ([UInt8.ofNat n.toNat, UInt8.ofNat (fl [i, r, d, q])] ++ be 8 c.toNat ++ be 8 b.toNat ++ be 8 o.toNat ++ be 8 p.toNat ++ be 4 m) := by
    rw [← HX4.out, ← HX3.out, ← HX2.out, ← HX1.out, ← HX.out, ← HQ0.out, ← HQ1.out, ← HQ2.out, ← HQ3.out, ← HQ4.out, txt_app, txt_app, txt_app, txt_app, txt_app]
  rw [he]
  go_ret2
  exact ⟨rfl, H9.out.below⟩
end Go.Proofs.YtabenngcmpjlhaaGreatDoor
namespace Go.Proofs.YtabenngcmpjlhaaGreatDoor
open Go.RowKit
def helOf (l : List UInt8) : Hel :=
  ⟨((l.getD 0 0).toNat : Int), num8 l 2, num8 l 10, num8 l 18, num8 l 26, decide ((l.getD 1 0).toNat % 2 = 1), decide ((l.getD 1 0).toNat / 2 % 2 = 1), decide ((l.getD 1 0).toNat / 2 / 2 % 2 = 1), decide ((l.getD 1 0).toNat / 2 / 2 / 2 % 2 = 1), val (l.drop 34)⟩
def hformed (l : List UInt8) : Bool := decide (l.length = 38) && decide ((l.getD 1 0).toNat < 16) && (helOf l).right
def hdec (s : ByteArray) : Hel × Int := if hformed s.data.toList then (helOf s.data.toList, 0) else (Hel.zero, 2)
theorem unfl4 (x : Nat) : unfl 4 x = [decide (x % 2 = 1), decide (x / 2 % 2 = 1), decide (x / 2 / 2 % 2 = 1), decide (x / 2 / 2 / 2 % 2 = 1)] := rfl
theorem tail_val (t : ByteArray) (hl : (t.size : Int) = 38) : val (t.extract 34 t.size).data.toList = val (t.data.toList.drop 34) := by
  obtain ⟨⟨l⟩⟩ := t
  have h : l.length = 38 := by have : ((l.length : Nat) : Int) = 38 := hl; omega
  have e : ((⟨⟨l⟩⟩ : ByteArray).extract 34 (⟨⟨l⟩⟩ : ByteArray).size).data.toList = l.drop 34 := by
    have : (⟨⟨l⟩⟩ : ByteArray).size = 38 := h
    rw [this]
    simp [List.extract]
    rw [List.take_of_length_le (by rw [List.length_drop, h]; decide)]
  rw [e]
theorem tail_lt (t : ByteArray) (hl : (t.size : Int) = 38) : val (t.data.toList.drop 34) < 4294967296 := by
  have h := val_lt (t.data.toList.drop 34)
  have e : (t.data.toList.drop 34).length = 4 := by
    have : t.data.toList.length = t.size := rfl
    rw [List.length_drop, this]; omega
  rw [e] at h
  have : (256 : Nat) ^ 4 = 4294967296 := by decide
  omega
theorem rget32_b (t : ByteArray) (w : World) (hl : (t.size : Int) = 38) :
    Calls Tryz.prog 116 #[.string (t.extract 34 t.size)] w fun e w' => e = .returned (.tuple #[.int .u32 ((val (t.data.toList.drop 34) : Nat) : Int), .bool true]) ∧ Below w.heap.size w w' := by
  rw [← tail_val t hl]
  refine (rget32_yes _ w (by simp; omega)).mono ?_
  rintro e w' ⟨rfl, rfl⟩
  exact ⟨rfl, Below.refl _ _⟩
theorem Held.join {W0 w v : World} {M M' : List (Nat × Nat)} (h : Held W0 [] M w) (k : Held w [] M' v) : Held W0 [] (M' ++ M) v := by
  refine ⟨ext h.below k.below, Boxs.nil _, fun y hy => ?_, fun y hy => ?_, fun x hx => by cases hx⟩
  · rcases List.mem_append.1 hy with hy | hy
    · exact k.owns y hy
    · exact (h.owns y hy).below k.below
  · rcases List.mem_append.1 hy with hy | hy
    · exact Nat.le_trans h.below.size (k.high y hy)
    · exact h.high y hy
end Go.Proofs.YtabenngcmpjlhaaGreatDoor
namespace Go.Proofs.YtabenngcmpjlhaaGreatDoor
open Go.RowKit PX
set_option maxRecDepth 100000
theorem rget64_b (s : ByteArray) (w : World) (h0 : s.size = 8) :
    Calls Tryz.prog 90 #[.string s] w fun e w' => e = .returned (.tuple #[.int .u64 (val s.data.toList), .bool true]) ∧ Below w.heap.size w w' := by
  refine (rget64_yes s w h0).mono ?_
  rintro e w' ⟨rfl, rfl⟩
  exact ⟨rfl, Below.refl _ _⟩
theorem rhnumber_any (s : ByteArray) (k : Nat) (w : World) (hk : k + 8 ≤ s.size) (h9 : k ≤ 3000) :
    Calls Tryz.prog 134 #[.string s, .int .i64 k] w fun e w' => e = .returned (.int .u64 (num8 s.data.toList k)) ∧ Below w.heap.size w w' := by
  have hw : IntKind.i64.wrap ((k : Int) + 8) = ((k + 8 : Nat) : Int) := wrap_i64 (by omega) (by omega)
  have hw2 : (IntKind.i64.wrap ((k : Int) + 8)).toNat = k + 8 := by rw [hw]; rfl
  refine run_v (t_ck (p := inB (some (IntKind.i64.wrap ((k : Int) + 8))) s.size ∧ inB (some (k : Int)) (atB (some (IntKind.i64.wrap ((k : Int) + 8))) s.size)) ⟨?_, ?_⟩ ?_)
  · rw [hw]; exact ⟨by omega, by omega⟩
  · rw [hw]; show 0 ≤ (k : Int) ∧ (k : Int) ≤ ((((k + 8 : Nat) : Int).toNat : Nat) : Int); omega
  · refine t_v (fun u _ => rget64_b (s.extract k (IntKind.i64.wrap ((k : Int) + 8)).toNat) u (by rw [hw2]; exact extract8 s k (by omega))) (e_r2 (.int .u64 (val (s.extract k (IntKind.i64.wrap ((k : Int) + 8)).toNat).data.toList)) ?_)
    rw [hw2, extract_num8]
def helR (t : ByteArray) : Hel := ⟨IntKind.i64.wrap ((t[0]?.getD 0).toNat : Nat), num8 t.data.toList 2, num8 t.data.toList 10, num8 t.data.toList 18, num8 t.data.toList 26, decide ((t.data.toList.getD 1 0).toNat % 2 = 1), decide ((t.data.toList.getD 1 0).toNat / 2 % 2 = 1), decide ((t.data.toList.getD 1 0).toNat / 2 / 2 % 2 = 1), decide ((t.data.toList.getD 1 0).toNat / 2 / 2 / 2 % 2 = 1), val (t.data.toList.drop 34)⟩
theorem rhdecode_any (t : ByteArray) (w : World) : Calls Tryz.prog 91 #[.string t] w fun e w' => e = .returned (.tuple #[helV (hdec t).1, .int .i64 (hdec t).2]) ∧ Below w.heap.size w w' := by
  refine run_v ?_
  unfold hdec hformed
  by_cases hl : ¬ t.size = 38
  · rw [decide_eq_false (show ¬ t.data.toList.length = 38 from hl)]
    exact t_N (b := !((t.size : Int) != 38)) 9 (by simp; omega) (e_r2 (.tuple #[helV Hel.zero, .int .i64 2]) (by simp))
  replace hl := Decidable.not_not.1 hl
  have hlen : t.data.toList.length = 38 := hl
  rw [decide_eq_true hlen]
  refine t_Y (b := !((t.size : Int) != 38)) 1 (by simp; omega) (t_ck (p := 0 ≤ (1 : Int) ∧ (1 : Int) < (t.size : Nat)) (by omega) (t_lit 1 ?_))
  have h1 := get_at t 1 (by omega)
  have h0 := get_at t 0 (by omega)
  by_cases h8 : ¬ (t.data.toList.getD 1 0).toNat < 16
  · rw [decide_eq_false h8]
    exact t_Y (b := decide (((t[1]?.getD 0).toNat : Int) > 15)) 9 (decide_eq_true (show ((t[1]?.getD 0).toNat : Int) > 15 by rw [h1]; omega)) (e_r2 (.tuple #[helV Hel.zero, .int .i64 2]) (by simp))
  replace h8 := Decidable.not_not.1 h8
  rw [decide_eq_true h8]
  refine t_N (b := decide (((t[1]?.getD 0).toNat : Int) > 15)) 0 (decide_eq_false (show ¬ ((t[1]?.getD 0).toNat : Int) > 15 by rw [h1]; omega)) (t_ck (p := 0 ≤ (1 : Int) ∧ (1 : Int) < (t.size : Nat)) (by omega) ?_)
  refine t_call (f := 133) (args := #[.int .u8 ((t[1]?.getD 0).toNat : Nat), .int .i64 4]) (fun u _ _ => by rw [h1]; exact runflag_any _ 4 u (by omega) (by omega) (by decide)) ?_
  rintro u e u' _ hbu (⟨_, A, c, rfl, hc, hty, hbs, hb⟩ | ⟨hn, _⟩)
  case inr => exact absurd (by simpa using h8) hn
  rw [Int.toNat_natCast, unfl4] at *
  obtain ⟨g, rfl, _⟩ := hbs 0 _ rfl
  refine ⟨_, _, rfl, hb, st_bs (some g) _, ⟨hbs, hty.2⟩, ?_⟩
  refine t_ck (p := inB none t.size ∧ inB (some 34) (atB none t.size)) ⟨trivial, by show 0 ≤ (34 : Int) ∧ (34 : Int) ≤ (t.size : Nat); omega⟩ ?_
  refine t_v (fun v _ => rget32_b t v (by omega)) ?_
  refine t_ck (p := 0 ≤ (0 : Int) ∧ (0 : Int) < (t.size : Nat)) (by omega) ?_
  refine t_ck (p := 0 ≤ (0 : Int) ∧ (0 : Int) < (4 : Nat)) (by omega) (t_load (ty := 4) (p := g.add 0) (v := .bool (decide ((t.data.toList.getD 1 0).toNat % 2 = 1))) (fun v hv _ => reads1 (by kernel_rfl) (bits_at hv.2.1 rfl (Below.refl _ _) (j := 0) rfl)) ?_)
  refine t_ck (p := 0 ≤ (1 : Int) ∧ (1 : Int) < (4 : Nat)) (by omega) (t_load (ty := 4) (p := g.add 1) (v := .bool (decide ((t.data.toList.getD 1 0).toNat / 2 % 2 = 1))) (fun v hv _ => reads1 (by kernel_rfl) (bits_at hv.2.1 rfl (Below.refl _ _) (j := 1) rfl)) ?_)
  refine t_ck (p := 0 ≤ (2 : Int) ∧ (2 : Int) < (4 : Nat)) (by omega) (t_load (ty := 4) (p := g.add 2) (v := .bool (decide ((t.data.toList.getD 1 0).toNat / 2 / 2 % 2 = 1))) (fun v hv _ => reads1 (by kernel_rfl) (bits_at hv.2.1 rfl (Below.refl _ _) (j := 2) rfl)) ?_)
  refine t_ck (p := 0 ≤ (3 : Int) ∧ (3 : Int) < (4 : Nat)) (by omega) (t_load (ty := 4) (p := g.add 3) (v := .bool (decide ((t.data.toList.getD 1 0).toNat / 2 / 2 / 2 % 2 = 1))) (fun v hv _ => reads1 (by kernel_rfl) (bits_at hv.2.1 rfl (Below.refl _ _) (j := 3) rfl)) ?_)
  refine t_v (fun v _ => rhnumber_any t 2 v (by omega) (by decide)) (t_v (fun v _ => rhnumber_any t 10 v (by omega) (by decide)) (t_v (fun v _ => rhnumber_any t 18 v (by omega) (by decide)) (t_v (fun v _ => rhnumber_any t 26 v (by omega) (by decide)) ?_)))
  have hS : helR t = helOf t.data.toList := by
    unfold helR; rw [h0, wrap_byte]; rfl
  have hR := fun v => rhright_any (helOf t.data.toList) v (tail_lt t (by omega))
  rw [← hS] at hR
  refine t_v (fun v _ => hR v) ?_
  rw [hS]
  cases hr : (helOf t.data.toList).right with
  | false => exact t_lit 9 (e_r2 (.tuple #[helV Hel.zero, .int .i64 2]) (by simp))
  | true => exact t_lit 9 (e_r2 (.tuple #[helV (helR t), .int .i64 0]) (by rw [hS]; simp))
end Go.Proofs.YtabenngcmpjlhaaGreatDoor
