/- Hellos as bytes, as the reference lays them, carried out plainly; for every hello whose generations are numbers of eight bytes and whose mask is one of four. -/
import Derived.Test.YtkjikigimmchlaaGreatDoorKA
import Derived.Test.YtkjikigimmchlaaGreatDoorKM
import Derived.Test.YtkjikigimmchlaaGreatDoorS7d
import Derived.Test.YtkjikigimmchlaaGreatDoorPV
namespace Go.Proofs.YtkjikigimmchlaaGreatDoor
open Go.RowKit
structure Hel where
  n : Int
  c : Int
  b : Int
  o : Int
  p : Int
  i : Bool
  r : Bool
  d : Bool
  q : Bool
  m : Nat
@[reducible] def helV (h : Hel) : Value := .agg #[.int .i64 h.n, .int .u64 h.c, .int .u64 h.b, .int .u64 h.o, .int .u64 h.p, .bool h.i, .bool h.r, .bool h.d, .bool h.q, .int .u32 (h.m : Int)]
def Hel.wide (h : Hel) : Prop := (0 ≤ h.c ∧ h.c < 18446744073709551616) ∧ (0 ≤ h.b ∧ h.b < 18446744073709551616) ∧ (0 ≤ h.o ∧ h.o < 18446744073709551616) ∧ (0 ≤ h.p ∧ h.p < 18446744073709551616) ∧ h.m < 4294967296
def Hel.right (h : Hel) : Bool := !decide (h.c = 0) && mrightB h.m h.n && !(h.q && (h.r || h.i))
def Hel.zero : Hel := ⟨0, 0, 0, 0, 0, false, false, false, false, 0⟩
theorem mright_n {m : Nat} {n : Int} (h : mrightB m n = true) : 1 ≤ n ∧ n ≤ 32 := by
  unfold mrightB at h
  simp at h
  exact h.1
theorem Hel.right_n {h : Hel} (hr : h.right = true) : 1 ≤ h.n ∧ h.n ≤ 32 ∧ h.c ≠ 0 := by
  unfold Hel.right at hr
  simp at hr
  have := mright_n hr.1.2
  exact ⟨this.1, this.2, hr.1.1⟩
end Go.Proofs.YtkjikigimmchlaaGreatDoor
namespace Go.Proofs.YtkjikigimmchlaaGreatDoor
open Go.RowKit
@[reducible] def helB (s : Sup) (x : Bool) (m : Nat) : Hel := ⟨s.n, s.c, s.b, s.o, s.p, s.i, s.r && !x, s.d, x, m⟩
set_option maxRecDepth 100000 in
set_option maxHeartbeats 2000000 in
theorem rhof_any (s : Sup) (x : Bool) (m : Nat) (w : World) : Calls Tryz.prog 236 #[supV s, .bool x, .int .u32 (m : Int)] w fun e w' => e = .returned (helV (helB s x m)) ∧ Below w.heap.size w w' := by
  obtain ⟨n, c, b, o, p, i, r, d⟩ := s
  dsimp only [supV, helV, helB]
  cases r
  · go_enter Tryz.func236, Tryz.ntmps236
    go_wp2_with fail
    refine bodyPost_ret (v := .agg #[.int .i64 n, .int .u64 c, .int .u64 b, .int .u64 o, .int .u64 p, .bool i, .bool false, .bool d, .bool x, .int .u32 (m : Int)]) (by simp [results, Tryz.results236, go_sem]) rfl ⟨rfl, ?_⟩
    exact below2
  · go_enter Tryz.func236, Tryz.ntmps236
    go_wp2_with fail
    refine bodyPost_ret (v := .agg #[.int .i64 n, .int .u64 c, .int .u64 b, .int .u64 o, .int .u64 p, .bool i, .bool (!x), .bool d, .bool x, .int .u32 (m : Int)]) (by simp [results, Tryz.results236, go_sem]) rfl ⟨rfl, ?_⟩
    exact below2
theorem vr_b (c b o p : Int) (w : World) : Calls Tryz.prog 102 #[.agg #[.int .u64 c, .int .u64 b, .int .u64 o, .int .u64 p]] w fun e w' => e = .returned (.bool (!decide (c = 0))) ∧ Below w.heap.size w w' := vright_any c b o p w
theorem mr_b (m : Nat) (n : Int) (w : World) (hm : m < 4294967296) : Calls Tryz.prog 103 #[.int .u32 (m : Int), .int .i64 n] w fun e w' => e = .returned (.bool (mrightB m n)) ∧ Below w.heap.size w w' := by
  refine (mright_any m n w hm).mono ?_
  rintro e w' ⟨rfl, rfl⟩
  exact ⟨rfl, Below.refl _ _⟩
theorem rmr_b (m : Nat) (n : Int) (w : World) (hm : m < 4294967296) : Calls Tryz.prog 104 #[.int .u32 (m : Int), .int .i64 n] w fun e w' => e = .returned (.bool (mrightB m n)) ∧ Below w.heap.size w w' := by
  refine (mrright_any m n w hm).mono ?_
  rintro e w' ⟨rfl, rfl⟩
  exact ⟨rfl, Below.refl _ _⟩
set_option maxRecDepth 100000 in
set_option maxHeartbeats 4000000 in
theorem hright_any (h : Hel) (w : World) (hm : h.m < 4294967296) : Calls Tryz.prog 55 #[helV h] w fun e w' => e = .returned (.bool h.right) ∧ Below w.heap.size w w' := by
  obtain ⟨n, c, b, o, p, i, r, d, q, m⟩ := h
  unfold Hel.right
  dsimp only [helV] at *
  have hv := fun w => vr_b c b o p w
  have hr := fun w => mr_b m n w hm
  clear hm
  generalize (!decide (c = 0)) = x at *
  generalize mrightB m n = y at *
  have HV := Lib.hid hv; clear hv
  have HR := Lib.hid hr; clear hr
  have H0 := Lib.hid ((Held.refl w).lay [.int .i64 n, .int .u64 c, .int .u64 b, .int .u64 o, .int .u64 p, .bool i, .bool r, .bool d, .bool q, .int .u32 (m : Int)] 41)
  cases q
  · go_enter Tryz.func55, Tryz.ntmps55
    go_wp2_with fail
    refine (HV.out _).mono ?_
    rintro e w1 ⟨rfl, hb⟩
    have H1 := Lib.hid (H0.out.up hb)
    clear hb
    have k := H1.out.b0.cell
    cases x
    · go_wp2_with fail
      go_ret
      exact ⟨ret_bool (by simp), H1.out.below⟩
    · go_wp2_with fail
      refine (HR.out _).mono ?_
      rintro e w2 ⟨rfl, hb⟩
      have H2 := Lib.hid (H1.out.up hb)
      clear hb k
      go_wp2_with fail
      go_ret
      exact ⟨ret_bool (by simp), H2.out.below⟩
  · cases r
    · cases i
      · go_enter Tryz.func55, Tryz.ntmps55
        go_wp2_with fail
        refine (HV.out _).mono ?_
        rintro e w1 ⟨rfl, hb⟩
        have H1 := Lib.hid (H0.out.up hb)
        clear hb
        have k := H1.out.b0.cell
        cases x
        · go_wp2_with fail
          go_ret
          exact ⟨ret_bool (by simp), H1.out.below⟩
        · go_wp2_with fail
          refine (HR.out _).mono ?_
          rintro e w2 ⟨rfl, hb⟩
          have H2 := Lib.hid (H1.out.up hb)
          clear hb k
          go_wp2_with fail
          go_ret
          exact ⟨ret_bool (by simp), H2.out.below⟩
      · go_enter Tryz.func55, Tryz.ntmps55
        go_wp2_with fail
        go_ret
        exact ⟨ret_bool (by simp), H0.out.below⟩
    · go_enter Tryz.func55, Tryz.ntmps55
      go_wp2_with fail
      go_ret
      exact ⟨ret_bool (by simp), H0.out.below⟩
set_option maxRecDepth 100000 in
set_option maxHeartbeats 4000000 in
theorem rhright_any (h : Hel) (w : World) (hm : h.m < 4294967296) : Calls Tryz.prog 61 #[helV h] w fun e w' => e = .returned (.bool h.right) ∧ Below w.heap.size w w' := by
  obtain ⟨n, c, b, o, p, i, r, d, q, m⟩ := h
  unfold Hel.right
  dsimp only [helV] at *
  have hr := fun w => rmr_b m n w hm
  have hn := @mright_n m n
  clear hm
  generalize mrightB m n = y at *
  have HR := Lib.hid hr; clear hr
  have H0 := Lib.hid ((Held.refl w).lay [.int .i64 n, .int .u64 c, .int .u64 b, .int .u64 o, .int .u64 p, .bool i, .bool r, .bool d, .bool q, .int .u32 (m : Int)] 41)
  have hy : ¬ (1 ≤ n ∧ n ≤ 32) → y = false := fun h => by
    cases y
    · rfl
    · exact absurd (hn rfl) h
  clear hn
  by_cases h1 : (1 : Int) ≤ n
  · have e1 : decide ((1 : Int) ≤ n) = true := decide_eq_true h1
    by_cases h2 : n ≤ (32 : Int)
    · have e2 : decide (n ≤ (32 : Int)) = true := decide_eq_true h2
      clear hy
      by_cases c0 : c = 0
      · subst c0
        go_enter Tryz.func61, Tryz.ntmps61
        go_wp2_with fail
        go_ret
        exact ⟨ret_bool (by simp), H0.out.below⟩
      · have c1 : (c != 0) = true := bne_iff_ne.2 c0
        have c2 : (c == 0) = false := beq_eq_false_iff_ne.2 c0
        go_enter Tryz.func61, Tryz.ntmps61
        go_wp2_with fail
        refine (HR.out _).mono ?_
        rintro e w1 ⟨rfl, hb⟩
        have H1 := Lib.hid (H0.out.up hb)
        clear hb
        have k := H1.out.b0.cell
        cases y
        · go_wp2_with fail
          go_ret
          exact ⟨ret_bool (by simp [c0]), H1.out.below⟩
        · cases q
          · go_wp2_with fail
            go_ret
            exact ⟨ret_bool (by simp [c0]), H1.out.below⟩
          · cases r
            · cases i
              · go_wp2_with fail
                go_ret
                exact ⟨ret_bool (by simp [c0]), H1.out.below⟩
              · go_wp2_with fail
                go_ret
                exact ⟨ret_bool (by simp [c0]), H1.out.below⟩
            · go_wp2_with fail
              go_ret
              exact ⟨ret_bool (by simp [c0]), H1.out.below⟩
    · have e2 : decide (n ≤ (32 : Int)) = false := decide_eq_false h2
      obtain rfl := hy (fun h => h2 h.2)
      clear hy
      go_enter Tryz.func61, Tryz.ntmps61
      go_wp2_with fail
      go_ret
      exact ⟨ret_bool (by simp), H0.out.below⟩
  · have e1 : decide ((1 : Int) ≤ n) = false := decide_eq_false h1
    obtain rfl := hy (fun h => h1 h.1)
    clear hy
    go_enter Tryz.func61, Tryz.ntmps61
    go_wp2_with fail
    go_ret
    exact ⟨ret_bool (by simp), H0.out.below⟩
end Go.Proofs.YtkjikigimmchlaaGreatDoor
namespace Go.Proofs.YtkjikigimmchlaaGreatDoor
open Go.RowKit
def Hel.body (h : Hel) : List UInt8 := [UInt8.ofNat h.n.toNat, UInt8.ofNat (fl [h.i, h.r, h.d, h.q])] ++ be 8 h.c.toNat ++ be 8 h.b.toNat ++ be 8 h.o.toNat ++ be 8 h.p.toNat ++ be 4 h.m
theorem hbody_length (h : Hel) : h.body.length = 38 := by simp [Hel.body, be_length]
def Hel.bytes (h : Hel) : ByteArray := txt h.body
theorem hbytes_size (h : Hel) : h.bytes.size = 38 := hbody_length h
theorem bsB {w : World} {g : Nat} {l : List Bool} (h : Box w g (l.map Value.bool)) : Bs w w.heap.size (some ⟨g, 0, none⟩) l := by
  intro k x hk
  refine ⟨_, rfl, h.lt, ?_⟩
  have : (⟨g, 0, none⟩ : Addr).add k = ⟨g, k, none⟩ := by unfold Addr.add; split <;> simp_all
  rw [this, h.cell, List.getElem?_map, hk]
  rfl
theorem flags4 {g : Nat} {i r d q : Bool} {w : World} (h : Box w g [.bool i, .bool r, .bool d, .bool q]) :
    Calls Tryz.prog 242 #[.slice (some ⟨g, 0, none⟩) 4 4] w fun e w' => e = .returned (.int .u8 (fl [i, r, d, q])) ∧ Below w.heap.size w w' := by
  refine (flags_any _ 4 [i, r, d, q] w _ (bsB h) (Nat.le_refl _) (by unfold maxLen; decide)).mono ?_
  rintro e w' ⟨rfl, rfl⟩
  exact ⟨rfl, Below.refl _ _⟩
theorem rflags4 {g : Nat} {i r d q : Bool} {w : World} (h : Box w g [.bool i, .bool r, .bool d, .bool q]) :
    Calls Tryz.prog 106 #[.slice (some ⟨g, 0, none⟩) 4 4] w fun e w' => e = .returned (.int .u8 (fl [i, r, d, q])) ∧ Below w.heap.size w w' := by
  refine (rflags_any _ 4 [i, r, d, q] w _ (bsB h) (Nat.le_refl _) (by unfold maxLen; decide)).mono ?_
  rintro e w' ⟨rfl, rfl⟩
  exact ⟨rfl, Below.refl _ _⟩
theorem head2 (n : Int) (f : Nat) (h0 : 0 ≤ n) (h1 : n < 256) : strOfNums [IntKind.u8.wrap n, (f : Int)] = txt [UInt8.ofNat n.toNat, UInt8.ofNat f] := by
  rw [IntWalk.u8_in n (by omega)]
  simp only [strOfNums, List.map_cons, List.map_nil, txt, Int.toNat_natCast]
theorem put32_b (m : Nat) (w : World) (h1 : m < 4294967296) : Calls Tryz.prog 208 #[.int .u32 (m : Int)] w fun e w' => e = .returned (.string ⟨(be 4 m).toArray⟩) ∧ Below w.heap.size w w' := by
  have := put32_any (m : Int) w (by omega) (by omega)
  rw [Int.toNat_natCast] at this
  exact this
theorem rput32_b (m : Nat) (w : World) (h1 : m < 4294967296) : Calls Tryz.prog 84 #[.int .u32 (m : Int)] w fun e w' => e = .returned (.string ⟨(be 4 m).toArray⟩) ∧ Below w.heap.size w w' := by
  have := rput32_any (m : Int) w (by omega) (by omega)
  rw [Int.toNat_natCast] at this
  exact this
end Go.Proofs.YtkjikigimmchlaaGreatDoor
namespace Go.Proofs.YtkjikigimmchlaaGreatDoor
open Go.RowKit PX
theorem be4_size (n : Nat) : (⟨(be 4 n).toArray⟩ : ByteArray).size = 4 := by simp [ByteArray.size, be_length]
theorem hbody_join (s : Hel) (h0 : 0 ≤ s.n) (h1 : s.n < 256) :
    strOfNums [IntKind.u8.wrap s.n, ((fl [s.i, s.r, s.d, s.q] : Nat) : Int)] ++ ⟨(be 8 s.c.toNat).toArray⟩ ++ ⟨(be 8 s.b.toNat).toArray⟩ ++ ⟨(be 8 s.o.toNat).toArray⟩ ++ ⟨(be 8 s.p.toNat).toArray⟩ ++ ⟨(be 4 s.m).toArray⟩ = s.bytes := by
  rw [head2 s.n _ h0 h1, txt_app, txt_app, txt_app, txt_app, txt_app]
  rfl
set_option maxRecDepth 100000 in
theorem rhencode_yes (s : Hel) (w : World) (hw : s.wide) (hr : s.right = true) :
    Calls Tryz.prog 64 #[helV s] w fun e w' => e = .returned (.tuple #[.string s.bytes, .int .i64 0]) ∧ Below w.heap.size w w' := by
  have hn := Hel.right_n hr
  have he := hbody_join s (by omega) (by omega)
  generalize s.bytes = z at *
  obtain ⟨n, c, b, o, p, i, r, d, q, m⟩ := s
  obtain ⟨⟨c0, c1⟩, ⟨b0, b1⟩, ⟨o0, o1⟩, ⟨p0, p1⟩, m1⟩ := hw
  dsimp only at c0 c1 b0 b1 o0 o1 p0 p1 m1 he
  refine run_v (t_v (fun u _ => rhright_any ⟨n, c, b, o, p, i, r, d, q, m⟩ u m1) ?_)
  rw [hr]
  refine t_lit 9 (t_ck (p := (0 : Int) ≤ 0 ∧ (0 : Int) < (2 : Nat)) (by decide) (t_ck (p := (0 : Int) ≤ 1 ∧ (1 : Int) < (2 : Nat)) (by decide) ?_))
  refine t_fresh 4 [.bool i, .bool r, .bool d, .bool q] fun g _ => ?_
  refine t_v (args := #[.slice (some ⟨g, 0, none⟩) 4 4]) (fun u hu => rflags4 ⟨_, hu.2⟩) ?_
  refine t_v (args := #[.int .u64 c]) (fun u _ => rput64_any c u c0 c1) (t_v (args := #[.int .u64 b]) (fun u _ => rput64_any b u b0 b1) (t_v (args := #[.int .u64 o]) (fun u _ => rput64_any o u o0 o1) (t_v (args := #[.int .u64 p]) (fun u _ => rput64_any p u p0 p1) ?_)))
  refine t_v (args := #[.int .u32 (m : Int)]) (fun u _ => rput32_b m u m1) ?_
  refine t_cat (strOfNums [IntKind.u8.wrap n, ((fl [i, r, d, q] : Nat) : Int)]) ⟨(be 8 c.toNat).toArray⟩ (by simp [nums2, be8_size]) ?_
  refine t_cat (strOfNums [IntKind.u8.wrap n, ((fl [i, r, d, q] : Nat) : Int)] ++ ⟨(be 8 c.toNat).toArray⟩) ⟨(be 8 b.toNat).toArray⟩ (by simp [nums2, be8_size]) ?_
  refine t_cat (strOfNums [IntKind.u8.wrap n, ((fl [i, r, d, q] : Nat) : Int)] ++ ⟨(be 8 c.toNat).toArray⟩ ++ ⟨(be 8 b.toNat).toArray⟩) ⟨(be 8 o.toNat).toArray⟩ (by simp [nums2, be8_size]) ?_
  refine t_cat (strOfNums [IntKind.u8.wrap n, ((fl [i, r, d, q] : Nat) : Int)] ++ ⟨(be 8 c.toNat).toArray⟩ ++ ⟨(be 8 b.toNat).toArray⟩ ++ ⟨(be 8 o.toNat).toArray⟩) ⟨(be 8 p.toNat).toArray⟩ (by simp [nums2, be8_size]) ?_
  refine t_cat (strOfNums [IntKind.u8.wrap n, ((fl [i, r, d, q] : Nat) : Int)] ++ ⟨(be 8 c.toNat).toArray⟩ ++ ⟨(be 8 b.toNat).toArray⟩ ++ ⟨(be 8 o.toNat).toArray⟩ ++ ⟨(be 8 p.toNat).toArray⟩) ⟨(be 4 m).toArray⟩ (by simp [nums2, be8_size, be4_size]) ?_
  exact e_r2 (.tuple #[.string (strOfNums [IntKind.u8.wrap n, ((fl [i, r, d, q] : Nat) : Int)] ++ ⟨(be 8 c.toNat).toArray⟩ ++ ⟨(be 8 b.toNat).toArray⟩ ++ ⟨(be 8 o.toNat).toArray⟩ ++ ⟨(be 8 p.toNat).toArray⟩ ++ ⟨(be 4 m).toArray⟩), .int .i64 0]) (by rw [he])
set_option maxRecDepth 100000 in
theorem hencode_yes (s : Hel) (w : World) (hw : s.wide) (hr : s.right = true) :
    Calls Tryz.prog 209 #[helV s] w fun e w' => e = .returned (.tuple #[.string s.bytes, .int .i64 0]) ∧ Below w.heap.size w w' := by
  have hn := Hel.right_n hr
  have he := hbody_join s (by omega) (by omega)
  generalize s.bytes = z at *
  obtain ⟨n, c, b, o, p, i, r, d, q, m⟩ := s
  obtain ⟨⟨c0, c1⟩, ⟨b0, b1⟩, ⟨o0, o1⟩, ⟨p0, p1⟩, m1⟩ := hw
  dsimp only at c0 c1 b0 b1 o0 o1 p0 p1 m1 he
  refine run_ok (ap := tyL) (U := 5) (rows := []) (K := fun _ => True) rfl (st_p True) trivial ?_
  refine t_v (fun u _ => hright_any ⟨n, c, b, o, p, i, r, d, q, m⟩ u m1) ?_
  rw [hr]
  refine t_lit 9 (t_fresh 4 [.bool i, .bool r, .bool d, .bool q] fun g _ => ?_)
  refine t_v (args := #[.slice (some ⟨g, 0, none⟩) 4 4]) (fun u hu => flags4 ⟨_, hu.2⟩) ?_
  refine t_ck (p := (0 : Int) ≤ 0 ∧ (0 : Int) < (2 : Nat)) (by decide) (t_ck (p := (0 : Int) ≤ 1 ∧ (1 : Int) < (2 : Nat)) (by decide) ?_)
  refine t_lit 9 (t_v (args := #[.int .u64 c]) (fun u _ => put64_any c u c0 c1) (t_cat (strOfNums [IntKind.u8.wrap n, ((fl [i, r, d, q] : Nat) : Int)]) ⟨(be 8 c.toNat).toArray⟩ (by simp [nums2, be8_size]) ?_))
  refine t_lit 9 (t_v (args := #[.int .u64 b]) (fun u _ => put64_any b u b0 b1) (t_cat (strOfNums [IntKind.u8.wrap n, ((fl [i, r, d, q] : Nat) : Int)] ++ ⟨(be 8 c.toNat).toArray⟩) ⟨(be 8 b.toNat).toArray⟩ (by simp [nums2, be8_size]) ?_))
  refine t_lit 9 (t_v (args := #[.int .u64 o]) (fun u _ => put64_any o u o0 o1) (t_cat (strOfNums [IntKind.u8.wrap n, ((fl [i, r, d, q] : Nat) : Int)] ++ ⟨(be 8 c.toNat).toArray⟩ ++ ⟨(be 8 b.toNat).toArray⟩) ⟨(be 8 o.toNat).toArray⟩ (by simp [nums2, be8_size]) ?_))
  refine t_lit 9 (t_v (args := #[.int .u64 p]) (fun u _ => put64_any p u p0 p1) (t_cat (strOfNums [IntKind.u8.wrap n, ((fl [i, r, d, q] : Nat) : Int)] ++ ⟨(be 8 c.toNat).toArray⟩ ++ ⟨(be 8 b.toNat).toArray⟩ ++ ⟨(be 8 o.toNat).toArray⟩) ⟨(be 8 p.toNat).toArray⟩ (by simp [nums2, be8_size]) ?_))
  refine t_lit 9 (t_v (args := #[.int .u32 (m : Int)]) (fun u _ => put32_b m u m1) (t_cat (strOfNums [IntKind.u8.wrap n, ((fl [i, r, d, q] : Nat) : Int)] ++ ⟨(be 8 c.toNat).toArray⟩ ++ ⟨(be 8 b.toNat).toArray⟩ ++ ⟨(be 8 o.toNat).toArray⟩ ++ ⟨(be 8 p.toNat).toArray⟩) ⟨(be 4 m).toArray⟩ (by simp [nums2, be8_size, be4_size]) ?_))
  exact t_ret (.tuple #[.string (strOfNums [IntKind.u8.wrap n, ((fl [i, r, d, q] : Nat) : Int)] ++ ⟨(be 8 c.toNat).toArray⟩ ++ ⟨(be 8 b.toNat).toArray⟩ ++ ⟨(be 8 o.toNat).toArray⟩ ++ ⟨(be 8 p.toNat).toArray⟩ ++ ⟨(be 4 m).toArray⟩), .int .i64 0]) (fun _ _ hb _ => ⟨by rw [he], base_below hb⟩)
end Go.Proofs.YtkjikigimmchlaaGreatDoor
