/- Nodes: what calls of the document's layers 16 to 21 answer of one, over what they call. No other condition but what each names. -/
import Derived.Test.YtkjikigimmchlaaGreatDoorPK1
import Derived.Test.YtkjikigimmchlaaGreatDoorPM
import Derived.Test.YtkjikigimmchlaaGreatDoorQ3
import Derived.Test.YtkjikigimmchlaaGreatDoorNF
namespace Go.Proofs.YtkjikigimmchlaaGreatDoor
open Go.RowKit PX
set_option maxRecDepth 100000
theorem nil_size (t : ByteArray) : (t.toList == ([] : List UInt8)) = decide (t.size = 0) := by
  rw [ByteArray.toList_eq, Bool.beq_eq_decide_eq, decide_eq_decide]
  constructor
  · intro h
    have : t.data.toList.length = 0 := by rw [h]; rfl
    exact this
  · intro h
    exact List.eq_nil_of_length_eq_zero h
theorem size_eight (t : ByteArray) : ((t.size : Int) == 8) = decide (t.size = 8) := by
  rw [Bool.beq_eq_decide_eq, decide_eq_decide]
  omega
theorem neq_hel (a b : Operand) (x : Hel) (w : World) : (do Go.eqGuard .neq 41 a b (helV x) (helV Hel.zero); Go.binOp .neq 41 (helV x) (helV Hel.zero) : Sem Value).run Tryz.prog w = .ok (.bool (!x.none)) w := by
  simp [go_sem, eql_hel, eqH_none]
theorem rpright_any (x : Pkt) (w : World) (hm : x.h.m < 4294967296) : Calls Tryz.prog 33 #[pktV x] w fun e w' => e = .returned (.bool x.right) ∧ Below w.heap.size w w' := by
  refine run_v ?_
  have hb := fun (k : Int) (u : World) => (rblock_any k u).mono fun e v' h => (⟨h.1, h.2 ▸ Below.refl _ _⟩ : e = _ ∧ Below u.heap.size u v')
  have hd := fun (k : Int) (u : World) => (rdata_any k u).mono fun e v' h => (⟨h.1, h.2 ▸ Below.refl _ _⟩ : e = _ ∧ Below u.heap.size u v')
  obtain ⟨k, s, h, b, d⟩ := x
  unfold Pkt.right
  dsimp only at hm ⊢
  by_cases h0 : k < 1
  · exact t_N (b := !(decide (k < 1))) 9 (by simp [h0]) (e_r2 (.bool false) (by simp; omega))
  refine t_Y (b := !(decide (k < 1))) 2 (by simp [h0]) ?_
  by_cases h13 : 13 < k
  · exact t_Y (b := decide (13 < k)) 9 (by simp [h13]) (e_r2 (.bool false) (by simp; omega))
  refine t_N (b := decide (13 < k)) 0 (by simp [h13]) ?_
  rw [decide_eq_true (show 1 ≤ k by omega), decide_eq_true (show k ≤ 13 by omega)]
  by_cases h1 : k = 1
  · subst h1
    refine t_Y (b := decide ((1 : Int) = 1)) 2 (by decide) (t_v (fun u _ => rhright_any h u hm) ?_)
    rw [if_pos rfl]
    cases hr : h.right with
    | false => exact t_lit 99 (e_r2 (.bool false) (by simp))
    | true =>
      refine t_lit 11 ?_
      by_cases b0 : b < 0
      · exact t_N (b := !(decide (b < 0))) 99 (by simp [b0]) (e_r2 (.bool false) (by simp; omega))
      refine t_Y (b := !(decide (b < 0))) 2 (by simp [b0]) ?_
      by_cases b31 : 31 < b
      · exact t_N (b := !(decide (b > 31))) 99 (by simp [b31]) (e_r2 (.bool false) (by simp; omega))
      refine t_Y (b := !(decide (b > 31))) 2 (by simp [b31]) (t_v (fun u _ => hb 1 u) ?_)
      rw [decide_eq_true (show 0 ≤ b by omega), decide_eq_true (show b ≤ 31 by omega)]
      cases hk : blockK 1 with
      | true =>
        refine t_lit 7 (t_v (fun u _ => hd 1 u) ?_)
        cases hdk : dataK 1 with
        | true => exact t_lit 1 (e_r2 (.bool ((d.size : Int) == 8)) (by simp [size_eight]))
        | false => exact t_lit 1 (e_r2 (.bool (d.toList == (⟨#[]⟩ : ByteArray).toList)) (by rw [show (⟨#[]⟩ : ByteArray).toList = [] from by rw [ByteArray.toList_eq], nil_size]; simp))
      | false =>
        by_cases bz : b = 0
        · refine t_lit 6 (t_N (b := !(b == 0)) 0 (by simp [bz]) ?_)
          refine t_lit 0 (t_v (fun u _ => hd 1 u) ?_)
          cases hdk : dataK 1 with
          | true => exact t_lit 1 (e_r2 (.bool ((d.size : Int) == 8)) (by simp [size_eight, bz]))
          | false => exact t_lit 1 (e_r2 (.bool (d.toList == (⟨#[]⟩ : ByteArray).toList)) (by rw [show (⟨#[]⟩ : ByteArray).toList = [] from by rw [ByteArray.toList_eq], nil_size]; simp [bz]))
        · exact t_lit 6 (t_Y (b := !(b == 0)) 9 (by simp [bz]) (e_r2 (.bool false) (by simp [bz])))
  · rw [if_neg h1]
    refine t_N (b := decide (k = 1)) 7 (by simp [h1]) (t_Y (b := !(k == 1)) 3 (by simp [h1]) ?_)
    refine t_sem (do Go.eqGuard .neq 41 (.tmp 1) (.tmp 1) (helV h) (helV Hel.zero); Go.binOp .neq 41 (helV h) (helV Hel.zero)) (v := .bool (!h.none)) (fun u _ _ => neq_hel _ _ h u) ?_
    cases hr : h.none with
    | false => exact t_lit 99 (e_r2 (.bool false) (by simp))
    | true =>
      refine t_lit 2 ?_
      by_cases b0 : b < 0
      · exact t_N (b := !(decide (b < 0))) 99 (by simp [b0]) (e_r2 (.bool false) (by simp; omega))
      refine t_Y (b := !(decide (b < 0))) 2 (by simp [b0]) ?_
      by_cases b31 : 31 < b
      · exact t_N (b := !(decide (b > 31))) 99 (by simp [b31]) (e_r2 (.bool false) (by simp; omega))
      refine t_Y (b := !(decide (b > 31))) 2 (by simp [b31]) (t_v (fun u _ => hb k u) ?_)
      rw [decide_eq_true (show 0 ≤ b by omega), decide_eq_true (show b ≤ 31 by omega)]
      cases hk : blockK k with
      | true =>
        refine t_lit 7 (t_v (fun u _ => hd k u) ?_)
        cases hdk : dataK k with
        | true => exact t_lit 1 (e_r2 (.bool ((d.size : Int) == 8)) (by simp [size_eight]))
        | false => exact t_lit 1 (e_r2 (.bool (d.toList == (⟨#[]⟩ : ByteArray).toList)) (by rw [show (⟨#[]⟩ : ByteArray).toList = [] from by rw [ByteArray.toList_eq], nil_size]; simp))
      | false =>
        by_cases bz : b = 0
        · refine t_lit 6 (t_N (b := !(b == 0)) 0 (by simp [bz]) ?_)
          refine t_lit 0 (t_v (fun u _ => hd k u) ?_)
          cases hdk : dataK k with
          | true => exact t_lit 1 (e_r2 (.bool ((d.size : Int) == 8)) (by simp [size_eight, bz]))
          | false => exact t_lit 1 (e_r2 (.bool (d.toList == (⟨#[]⟩ : ByteArray).toList)) (by rw [show (⟨#[]⟩ : ByteArray).toList = [] from by rw [ByteArray.toList_eq], nil_size]; simp [bz]))
        · exact t_lit 6 (t_Y (b := !(b == 0)) 9 (by simp [bz]) (e_r2 (.bool false) (by simp [bz])))
end Go.Proofs.YtkjikigimmchlaaGreatDoor
namespace Go.Proofs.YtkjikigimmchlaaGreatDoor
open Go.RowKit PX
theorem head1 (n : Int) (h0 : 0 ≤ n) (h1 : n < 256) : strOfNums [IntKind.u8.wrap n] = txt [UInt8.ofNat n.toNat] := by
  rw [IntWalk.u8_in n (by omega)]
  simp only [strOfNums, List.map_cons, List.map_nil, txt]
theorem txt_end (l : List UInt8) (t : ByteArray) : txt l ++ t = txt (l ++ t.data.toList) := by
  have := txt_app l t.data.toList
  rw [← this]
theorem one_size (x : UInt8) : (txt [x]).size = 1 := rfl
theorem be8_txt (n : Nat) : (⟨(be 8 n).toArray⟩ : ByteArray) = txt (be 8 n) := rfl
theorem txt_two (l r : List UInt8) : txt l ++ txt r = txt (l ++ r) := txt_app l r
set_option maxRecDepth 100000 in
theorem rpbytes_any (x : Pkt) (w : World) (hw : x.wide) (hr : x.right = true) : Calls Tryz.prog 34 #[pktV x] w fun e w' => e = .returned (.string (txt x.body)) ∧ Below w.heap.size w w' := by
  obtain ⟨⟨k0, k1⟩, r1, r2, ⟨b0, b1⟩, r3, r4, r5⟩ := Pkt.right_parts hr
  obtain ⟨k, s, h, z, t⟩ := x
  dsimp only at k0 k1 r1 b0 b1 r4 r5
  have hu := head1 k (by omega) (by omega)
  have hv := head1 z (by omega) (by omega)
  have zt : t.size ≤ 8 := by
    cases e : dataK k
    · have := r5 e; omega
    · have := r4 e; omega
  have zu : (strOfNums [IntKind.u8.wrap k]).size = 1 := by rw [hu]; exact one_size _
  have zv : (strOfNums [IntKind.u8.wrap z]).size = 1 := by rw [hv]; exact one_size _
  have hb := fun (k : Int) (u : World) => (rblock_any k u).mono fun e v' h => (⟨h.1, h.2 ▸ Below.refl _ _⟩ : e = _ ∧ Below u.heap.size u v')
  refine run_v (t_v (args := #[.int .u64 s]) (fun u _ => rput64_any s u hw.1.1 hw.1.2) (t_cat (strOfNums [IntKind.u8.wrap k]) ⟨(be 8 s.toNat).toArray⟩ (by rw [zu, be8_size]; omega) ?_))
  by_cases h1 : k = 1
  · have zg := hbytes_size h
    refine t_Y (b := decide (k = 1)) 9 (by simpa using h1) (t_v (args := #[helV h]) (fun u _ => rhencode_yes h u hw.2 (r1 h1)) (t_cat (strOfNums [IntKind.u8.wrap k] ++ ⟨(be 8 s.toNat).toArray⟩) h.bytes (by simp [zu, be8_size, zg]) ?_))
    refine t_v (args := #[.int .i64 k]) (fun u _ => hb k u) ?_
    refine t_N (b := blockK k) 9 (by rw [h1]; rfl) (t_cat (strOfNums [IntKind.u8.wrap k] ++ ⟨(be 8 s.toNat).toArray⟩ ++ h.bytes) t (by simp [zu, be8_size, zg]; omega) ?_)
    refine e_r2 (.string (strOfNums [IntKind.u8.wrap k] ++ ⟨(be 8 s.toNat).toArray⟩ ++ h.bytes ++ t)) ?_
    rw [hu]
    unfold Hel.bytes Pkt.body
    dsimp only
    rw [be8_txt, txt_two, txt_two, txt_end, if_pos h1, h1, block_of_one, if_neg (by simp), List.append_nil]
  · refine t_N (b := decide (k = 1)) 9 (by simpa using h1) (t_v (args := #[.int .i64 k]) (fun u _ => hb k u) ?_)
    cases hk : blockK k
    · refine t_lit 9 (t_cat (strOfNums [IntKind.u8.wrap k] ++ ⟨(be 8 s.toNat).toArray⟩) t (by simp [zu, be8_size]; omega) ?_)
      refine e_r2 (.string (strOfNums [IntKind.u8.wrap k] ++ ⟨(be 8 s.toNat).toArray⟩ ++ t)) ?_
      rw [hu]
      unfold Pkt.body
      dsimp only
      rw [be8_txt, txt_two, txt_end, if_neg h1, hk, if_neg (by simp), List.append_nil, List.append_nil]
    · refine t_lit 9 (t_cat (strOfNums [IntKind.u8.wrap k] ++ ⟨(be 8 s.toNat).toArray⟩) (strOfNums [IntKind.u8.wrap z]) (by simp [zu, zv, be8_size]) (t_cat (strOfNums [IntKind.u8.wrap k] ++ ⟨(be 8 s.toNat).toArray⟩ ++ strOfNums [IntKind.u8.wrap z]) t (by simp [zu, zv, be8_size]; omega) ?_))
      refine e_r2 (.string (strOfNums [IntKind.u8.wrap k] ++ ⟨(be 8 s.toNat).toArray⟩ ++ strOfNums [IntKind.u8.wrap z] ++ t)) ?_
      rw [hu, hv]
      unfold Pkt.body
      dsimp only
      rw [be8_txt, txt_two, txt_two, txt_end, if_neg h1, hk, if_pos rfl, List.append_nil]
theorem body_few (x : Pkt) (hr : x.right = true) : x.body.length ≤ 60 := by
  obtain ⟨_, _, _, _, _, r4, r5⟩ := Pkt.right_parts hr
  rw [pbody_length]
  have : x.d.size ≤ 8 := by
    cases e : dataK x.k
    · have := r5 e; omega
    · have := r4 e; omega
  split <;> split <;> omega
theorem rpencode_any (x : Pkt) (w : World) (hw : x.wide) : Calls Tryz.prog 25 #[pktV x] w fun e w' => e = .returned (.tuple #[.string x.encT, .int .i64 x.encE]) ∧ Below w.heap.size w w' := by
  refine run_v (t_v (args := #[pktV x]) (fun u _ => rpright_any x u hw.2.2.2.2.2) ?_)
  unfold Pkt.encT Pkt.encE
  cases hr : x.right
  · rw [if_neg (by simp), if_neg (by simp)]
    exact t_lit 9 (e_r2 (.tuple #[.string ⟨#[]⟩, .int .i64 1]) rfl)
  · rw [if_pos rfl, if_pos rfl]
    have hz := body_few x hr
    have h3 := fun w => rseal_any (txt x.body) w (by rw [txt_size]; omega)
    rw [txt_data] at h3
    exact t_lit 9 (t_v (args := #[pktV x]) (fun u _ => rpbytes_any x u hw hr) (t_v (args := #[.string (txt x.body)]) (fun u _ => h3 u) (e_r2 (.tuple #[.string (txt (sealed x.body)), .int .i64 0]) rfl)))
end Go.Proofs.YtkjikigimmchlaaGreatDoor
namespace Go.Proofs.YtkjikigimmchlaaGreatDoor
open Go.RowKit
section
variable {w0 w w' : World} {Bs : List Bk} {Ns : List (Nod × Adr)} {Ds : List Dk} {Os : List Ol} {x y z : Bk}
theorem All.sub {Bs2 : List Bk} (h : All w0 Bs Ns Ds Os w) (hs : Bs2.Sublist Bs) : All w0 Bs2 Ns Ds Os w :=
  ⟨h.below, fun q hq => h.box q (hs.subset hq), fun q hq => h.own q (hs.subset hq), fun q hq => h.ap q (hs.subset hq), (hs.map fun x => x.1).nodup h.ne, h.nm, h.dm, h.om⟩
theorem NM.as {n n2 : Nod} {a : Adr} (h : NM w n a) (e1 : n2.t = n.t) (e2 : n2.dr = n.dr) (e3 : n2.mi = n.mi) : NM w n2 a := by
  obtain ⟨h1, h2, h3, h4, h5, h6, h7⟩ := h
  exact ⟨by rw [e1]; exact h1, by rw [e2]; exact h2, by rw [e2]; exact h3, h4, by rw [e3]; exact h5, h6, h7⟩
end
end Go.Proofs.YtkjikigimmchlaaGreatDoor
namespace Go.Proofs.YtkjikigimmchlaaGreatDoor
open Go.RowKit
def Nod.asks (n : Nod) (id : Int) : Nod := { n with ask := true, askId := id }
end Go.Proofs.YtkjikigimmchlaaGreatDoor
namespace Go.Proofs.YtkjikigimmchlaaGreatDoor
open Go.RowKit
end Go.Proofs.YtkjikigimmchlaaGreatDoor
