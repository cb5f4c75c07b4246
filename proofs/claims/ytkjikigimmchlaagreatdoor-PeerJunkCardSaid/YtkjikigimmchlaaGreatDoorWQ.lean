/- Nodes at work: the code's calls that layers 17 to 20 have in common; what each answers is the document's. No condition but that the node may be, and lies in memory. -/
import Derived.Test.YtkjikigimmchlaaGreatDoorNI
import Derived.Test.YtkjikigimmchlaaGreatDoorWK
import Derived.Test.YtkjikigimmchlaaGreatDoorRY
import Derived.Test.YtkjikigimmchlaaGreatDoorX1
import Derived.Test.YtkjikigimmchlaaGreatDoorRX
namespace Go.Proofs.YtkjikigimmchlaaGreatDoor
open Go.RowKit PX
set_option maxRecDepth 100000
def bareB (h : Hel) (z : Int) (t : ByteArray) : Bool := h.none && (decide (z = 0) && decide (t.size = 0))
theorem eqP_bare (k s : Int) (h : Hel) (z : Int) (t : ByteArray) : eqP ⟨k, s, h, z, t⟩ ⟨k, s, Hel.zero, 0, ⟨#[]⟩⟩ = bareB h z t := by
  unfold eqP bareB
  rw [eqH_none, show (⟨#[]⟩ : ByteArray).toList = [] from by rw [ByteArray.toList_eq], nil_size]
  simp [Bool.beq_eq_decide_eq]
theorem eql_pktS (a b : Operand) (x y : Pkt) (w : World) : (do Go.eqGuard .eql 50 a b (pktV x) (pktV y); Go.binOp .eql 50 (pktV x) (pktV y) : Sem Value).run Tryz.prog w = .ok (.bool (eqP x y)) w := by
  simp [go_sem, eql_pkt]
theorem bare_any (x : Pkt) (w : World) : Calls Tryz.prog 56 #[pktV x] w fun e w' => e = .returned (.bool (bareB x.h x.b x.d)) ∧ Below w.heap.size w w' := by
  refine run_v ?_
  refine t_sem (do Go.eqGuard .eql 50 (.tmp 1) (.tmp 1) (pktV x) (pktV ⟨x.k, x.s, Hel.zero, 0, ⟨#[]⟩⟩); Go.binOp .eql 50 (pktV x) (pktV ⟨x.k, x.s, Hel.zero, 0, ⟨#[]⟩⟩)) (v := .bool (eqP x ⟨x.k, x.s, Hel.zero, 0, ⟨#[]⟩⟩)) (fun u _ _ => eql_pktS _ _ x _ u) ?_
  exact e_r2 (.bool (eqP x ⟨x.k, x.s, Hel.zero, 0, ⟨#[]⟩⟩)) (by rw [eqP_bare])
theorem bareB_zero (z : Int) (t : ByteArray) : bareB Hel.zero z t = (decide (z = 0) && decide (t.size = 0)) := by
  unfold bareB
  rw [show Hel.zero.none = true from by decide]
  simp
theorem bareB_none (h : Hel) : bareB h 0 ⟨#[]⟩ = h.none := by
  unfold bareB
  rw [show (⟨#[]⟩ : ByteArray).size = 0 from rfl]
  simp
theorem pr_data {k s z : Int} {h : Hel} {t : ByteArray} (hk : k = 2 ∨ k = 6) : Pkt.right ⟨k, s, h, z, t⟩ = (h.none && ((decide (0 ≤ z) && decide (z ≤ 31)) && decide (t.size = 8))) := by
  rcases hk with rfl | rfl <;> simp [Pkt.right, blockK, dataK]
theorem pr_block {k s z : Int} {h : Hel} {t : ByteArray} (hk : k = 3 ∨ k = 4 ∨ k = 5 ∨ k = 7) : Pkt.right ⟨k, s, h, z, t⟩ = (h.none && ((decide (0 ≤ z) && decide (z ≤ 31)) && decide (t.size = 0))) := by
  rcases hk with rfl | rfl | rfl | rfl <;> simp [Pkt.right, blockK, dataK]
theorem pr_bare {k s z : Int} {h : Hel} {t : ByteArray} (h8 : 8 ≤ k) (h13 : k ≤ 13) : Pkt.right ⟨k, s, h, z, t⟩ = bareB h z t := by
  have : k = 8 ∨ k = 9 ∨ k = 10 ∨ k = 11 ∨ k = 12 ∨ k = 13 := by omega
  rcases this with rfl | rfl | rfl | rfl | rfl | rfl <;> (by_cases h0 : z = 0 <;> by_cases h8 : t.size = 0 <;> simp [Pkt.right, blockK, dataK, bareB, h0, h8])
theorem pr_hello {s z : Int} {h : Hel} {t : ByteArray} : Pkt.right ⟨1, s, h, z, t⟩ = (h.right && bareB Hel.zero z t) := by
  rw [bareB_zero]
  by_cases h0 : z = 0 <;> by_cases h8 : t.size = 0 <;> simp [Pkt.right, blockK, dataK, h0, h8]
theorem pr_none {k s z : Int} {h : Hel} {t : ByteArray} (hk : k < 1 ∨ 13 < k) : Pkt.right ⟨k, s, h, z, t⟩ = false := by
  unfold Pkt.right
  rcases hk with h | h
  · simp [show ¬ (1 ≤ k) from by omega]
  · simp [show ¬ (k ≤ 13) from by omega]
theorem pright_any (p : Pkt) (w : World) (hm : p.h.m < 4294967296) : Calls Tryz.prog 26 #[pktV p] w fun e w' => e = .returned (.bool p.right) ∧ Below w.heap.size w w' := by
  obtain ⟨k, s, h, z, t⟩ := p
  refine run_v ?_
  by_cases k1 : k = 1
  · subst k1
    rw [pr_hello]
    refine t_Y (b := decide ((1 : Int) = 1)) 0 (by decide) (t_v (args := #[helV h]) (fun u _ => hright_any h u hm) ?_)
    cases hr : h.right with
    | false => exact t_lit 9 (e_r2 (.bool false) (by simp))
    | true => exact t_lit 9 (t_v (args := #[pktV ⟨1, s, Hel.zero, z, t⟩]) (fun u _ => bare_any ⟨1, s, Hel.zero, z, t⟩ u) (t_lit 9 (e_r2 (.bool (bareB Hel.zero z t)) (by simp))))
  refine t_N (b := decide (k = 1)) 0 (by simpa using k1) ?_
  by_cases k2 : k = 2
  · rw [pr_data (by omega)]
    refine t_Y (b := decide (k = 2)) 1 (by simpa using k2) ?_
    by_cases h8 : t.size = 8
    rotate_left
    · exact t_Y (b := !((t.size : Int) == 8)) 9 (by simp; omega) (e_r2 (.bool false) (by simp [h8]))
    refine t_N (b := !((t.size : Int) == 8)) 0 (by simp; omega) ?_
    by_cases b0 : z < 0
    · exact t_N (b := !(decide (z < 0))) 9 (by simp [b0]) (e_r2 (.bool false) (by simp [show ¬ 0 ≤ z by omega]))
    refine t_Y (b := !(decide (z < 0))) 2 (by simp [b0]) ?_
    by_cases b32 : 32 ≤ z
    · exact t_Y (b := decide (32 ≤ z)) 9 (by simp [b32]) (e_r2 (.bool false) (by simp [show ¬ z ≤ 31 by omega]))
    exact t_N (b := decide (32 ≤ z)) 0 (by simp [b32]) (t_v (args := #[pktV ⟨k, s, h, 0, ⟨#[]⟩⟩]) (fun u _ => bare_any ⟨k, s, h, 0, ⟨#[]⟩⟩ u) (e_r2 (.bool (bareB h 0 ⟨#[]⟩)) (by rw [bareB_none]; simp [h8, show 0 ≤ z by omega, show z ≤ 31 by omega])))
  refine t_N (b := decide (k = 2)) 0 (by simpa using k2) ?_
  by_cases k6 : k = 6
  · rw [pr_data (by omega)]
    refine t_Y (b := decide (k = 6)) 0 (by simpa using k6) ?_
    by_cases h8 : t.size = 8
    rotate_left
    · exact t_Y (b := !((t.size : Int) == 8)) 9 (by simp; omega) (e_r2 (.bool false) (by simp [h8]))
    refine t_N (b := !((t.size : Int) == 8)) 0 (by simp; omega) ?_
    by_cases b0 : z < 0
    · exact t_N (b := !(decide (z < 0))) 9 (by simp [b0]) (e_r2 (.bool false) (by simp [show ¬ 0 ≤ z by omega]))
    refine t_Y (b := !(decide (z < 0))) 2 (by simp [b0]) ?_
    by_cases b32 : 32 ≤ z
    · exact t_Y (b := decide (32 ≤ z)) 9 (by simp [b32]) (e_r2 (.bool false) (by simp [show ¬ z ≤ 31 by omega]))
    exact t_N (b := decide (32 ≤ z)) 0 (by simp [b32]) (t_v (args := #[pktV ⟨k, s, h, 0, ⟨#[]⟩⟩]) (fun u _ => bare_any ⟨k, s, h, 0, ⟨#[]⟩⟩ u) (e_r2 (.bool (bareB h 0 ⟨#[]⟩)) (by rw [bareB_none]; simp [h8, show 0 ≤ z by omega, show z ≤ 31 by omega])))
  refine t_N (b := decide (k = 6)) 0 (by simpa using k6) ?_
  by_cases k3 : k = 3
  · rw [pr_block (by omega)]
    refine t_Y (b := decide (k = 3)) 1 (by simpa using k3) ?_
    by_cases b0 : z < 0
    · exact t_N (b := !(decide (z < 0))) 9 (by simp [b0]) (e_r2 (.bool false) (by simp [show ¬ 0 ≤ z by omega]))
    refine t_Y (b := !(decide (z < 0))) 2 (by simp [b0]) ?_
    by_cases b32 : 32 ≤ z
    · exact t_Y (b := decide (32 ≤ z)) 9 (by simp [b32]) (e_r2 (.bool false) (by simp [show ¬ z ≤ 31 by omega]))
    exact t_N (b := decide (32 ≤ z)) 0 (by simp [b32]) (t_v (args := #[pktV ⟨k, s, h, 0, t⟩]) (fun u _ => bare_any ⟨k, s, h, 0, t⟩ u) (e_r2 (.bool (bareB h 0 t)) (by unfold bareB; simp [show 0 ≤ z by omega, show z ≤ 31 by omega])))
  refine t_N (b := decide (k = 3)) 0 (by simpa using k3) ?_
  by_cases k4 : k = 4
  · rw [pr_block (by omega)]
    refine t_Y (b := decide (k = 4)) 1 (by simpa using k4) ?_
    by_cases b0 : z < 0
    · exact t_N (b := !(decide (z < 0))) 9 (by simp [b0]) (e_r2 (.bool false) (by simp [show ¬ 0 ≤ z by omega]))
    refine t_Y (b := !(decide (z < 0))) 2 (by simp [b0]) ?_
    by_cases b32 : 32 ≤ z
    · exact t_Y (b := decide (32 ≤ z)) 9 (by simp [b32]) (e_r2 (.bool false) (by simp [show ¬ z ≤ 31 by omega]))
    exact t_N (b := decide (32 ≤ z)) 0 (by simp [b32]) (t_v (args := #[pktV ⟨k, s, h, 0, t⟩]) (fun u _ => bare_any ⟨k, s, h, 0, t⟩ u) (e_r2 (.bool (bareB h 0 t)) (by unfold bareB; simp [show 0 ≤ z by omega, show z ≤ 31 by omega])))
  refine t_N (b := decide (k = 4)) 0 (by simpa using k4) ?_
  by_cases k5 : k = 5
  · rw [pr_block (by omega)]
    refine t_Y (b := decide (k = 5)) 1 (by simpa using k5) ?_
    by_cases b0 : z < 0
    · exact t_N (b := !(decide (z < 0))) 9 (by simp [b0]) (e_r2 (.bool false) (by simp [show ¬ 0 ≤ z by omega]))
    refine t_Y (b := !(decide (z < 0))) 2 (by simp [b0]) ?_
    by_cases b32 : 32 ≤ z
    · exact t_Y (b := decide (32 ≤ z)) 9 (by simp [b32]) (e_r2 (.bool false) (by simp [show ¬ z ≤ 31 by omega]))
    exact t_N (b := decide (32 ≤ z)) 0 (by simp [b32]) (t_v (args := #[pktV ⟨k, s, h, 0, t⟩]) (fun u _ => bare_any ⟨k, s, h, 0, t⟩ u) (e_r2 (.bool (bareB h 0 t)) (by unfold bareB; simp [show 0 ≤ z by omega, show z ≤ 31 by omega])))
  refine t_N (b := decide (k = 5)) 0 (by simpa using k5) ?_
  by_cases k7 : k = 7
  · rw [pr_block (by omega)]
    refine t_Y (b := decide (k = 7)) 0 (by simpa using k7) ?_
    by_cases b0 : z < 0
    · exact t_N (b := !(decide (z < 0))) 9 (by simp [b0]) (e_r2 (.bool false) (by simp [show ¬ 0 ≤ z by omega]))
    refine t_Y (b := !(decide (z < 0))) 2 (by simp [b0]) ?_
    by_cases b32 : 32 ≤ z
    · exact t_Y (b := decide (32 ≤ z)) 9 (by simp [b32]) (e_r2 (.bool false) (by simp [show ¬ z ≤ 31 by omega]))
    exact t_N (b := decide (32 ≤ z)) 0 (by simp [b32]) (t_v (args := #[pktV ⟨k, s, h, 0, t⟩]) (fun u _ => bare_any ⟨k, s, h, 0, t⟩ u) (e_r2 (.bool (bareB h 0 t)) (by unfold bareB; simp [show 0 ≤ z by omega, show z ≤ 31 by omega])))
  refine t_N (b := decide (k = 7)) 0 (by simpa using k7) ?_
  by_cases k8 : k = 8
  · exact t_Y (b := decide (k = 8)) 9 (by simpa using k8) (t_v (args := #[pktV ⟨k, s, h, z, t⟩]) (fun u _ => bare_any ⟨k, s, h, z, t⟩ u) (e_r2 (.bool (bareB h z t)) (by rw [pr_bare (by omega) (by omega)])))
  refine t_N (b := decide (k = 8)) 0 (by simpa using k8) ?_
  by_cases k9 : k = 9
  · exact t_Y (b := decide (k = 9)) 9 (by simpa using k9) (t_v (args := #[pktV ⟨k, s, h, z, t⟩]) (fun u _ => bare_any ⟨k, s, h, z, t⟩ u) (e_r2 (.bool (bareB h z t)) (by rw [pr_bare (by omega) (by omega)])))
  refine t_N (b := decide (k = 9)) 0 (by simpa using k9) ?_
  by_cases k10 : k = 10
  · exact t_Y (b := decide (k = 10)) 9 (by simpa using k10) (t_v (args := #[pktV ⟨k, s, h, z, t⟩]) (fun u _ => bare_any ⟨k, s, h, z, t⟩ u) (e_r2 (.bool (bareB h z t)) (by rw [pr_bare (by omega) (by omega)])))
  refine t_N (b := decide (k = 10)) 0 (by simpa using k10) ?_
  by_cases k11 : k = 11
  · exact t_Y (b := decide (k = 11)) 9 (by simpa using k11) (t_v (args := #[pktV ⟨k, s, h, z, t⟩]) (fun u _ => bare_any ⟨k, s, h, z, t⟩ u) (e_r2 (.bool (bareB h z t)) (by rw [pr_bare (by omega) (by omega)])))
  refine t_N (b := decide (k = 11)) 0 (by simpa using k11) ?_
  by_cases k12 : k = 12
  · exact t_Y (b := decide (k = 12)) 9 (by simpa using k12) (t_v (args := #[pktV ⟨k, s, h, z, t⟩]) (fun u _ => bare_any ⟨k, s, h, z, t⟩ u) (e_r2 (.bool (bareB h z t)) (by rw [pr_bare (by omega) (by omega)])))
  refine t_N (b := decide (k = 12)) 0 (by simpa using k12) ?_
  by_cases k13 : k = 13
  · exact t_Y (b := decide (k = 13)) 9 (by simpa using k13) (t_v (args := #[pktV ⟨k, s, h, z, t⟩]) (fun u _ => bare_any ⟨k, s, h, z, t⟩ u) (e_r2 (.bool (bareB h z t)) (by rw [pr_bare (by omega) (by omega)])))
  exact t_N (b := decide (k = 13)) 9 (by simpa using k13) (e_r2 (.bool false) (by rw [pr_none (by omega)]))
end Go.Proofs.YtkjikigimmchlaaGreatDoor
namespace Go.Proofs.YtkjikigimmchlaaGreatDoor
open Go.RowKit PX
set_option maxRecDepth 100000
def Pkt.fieldsL (p : Pkt) : List UInt8 := (if p.k = 1 then p.h.body else []) ++ ((if blockK p.k then [UInt8.ofNat p.b.toNat] else []) ++ p.d.data.toList)
theorem Pkt.body_fields (p : Pkt) : p.body = UInt8.ofNat p.k.toNat :: (be 8 p.s.toNat ++ p.fieldsL) := by
  rw [body_front]
  rfl
theorem pfields_any (x : Pkt) (w : World) (hw : x.wide) (hr : x.right = true) : Calls Tryz.prog 164 #[pktV x] w fun e w' => e = .returned (.string (txt x.fieldsL)) ∧ Below w.heap.size w w' := by
  obtain ⟨⟨k0, k1⟩, r1, r2, ⟨b0, b1⟩, r3, r4, r5⟩ := Pkt.right_parts hr
  obtain ⟨k, s, h, z, t⟩ := x
  dsimp only at k0 k1 r1 b0 b1 r4 r5
  have hz : strOfNums [IntKind.u8.wrap z] = txt [UInt8.ofNat z.toNat] := head1 z (by omega) (by omega)
  have zt : t.size ≤ 8 := by
    cases e : dataK k
    · have := r5 e; omega
    · have := r4 e; omega
  have hsz : ¬ (((strOfNums [IntKind.u8.wrap z]).size + t.size : Nat) : Int) > IntKind.i64.max := by
    rw [hz]
    have h1 := one_size (UInt8.ofNat z.toNat)
    rw [h1]
    have : IntKind.i64.max = 9223372036854775807 := by decide
    rw [this]
    omega
  refine run_v ?_
  by_cases g1 : k = 1
  · have e : Pkt.fieldsL ⟨k, s, h, z, t⟩ = h.body := by
      subst g1
      unfold Pkt.fieldsL
      rw [if_pos rfl, block_of_one, size_zero (r5 (by decide))]
      simp
    rw [e]
    exact t_Y (b := decide (k = 1)) 0 (by simpa using g1) (t_v (args := #[helV h]) (fun u _ => hencode_yes h u hw.2 (r1 g1)) (t_lit 9 (e_r2 (.string h.bytes) rfl)))
  refine t_N (b := decide (k = 1)) 0 (by simpa using g1) ?_
  have e : blockK k = true → txt [UInt8.ofNat z.toNat] ++ t = txt (Pkt.fieldsL ⟨k, s, h, z, t⟩) := fun hb => by
    unfold Pkt.fieldsL
    rw [if_neg g1, if_pos hb, txt_end]
    rfl
  by_cases g2 : k = 2
  · exact t_Y (b := decide (k = 2)) 4 (by simpa using g2) (t_ck hsz (e_r2 (.string (strOfNums [IntKind.u8.wrap z] ++ t)) (by rw [hz, e (by rw [g2]; decide)])))
  refine t_N (b := decide (k = 2)) 0 (by simpa using g2) ?_
  by_cases g6 : k = 6
  · exact t_Y (b := decide (k = 6)) 4 (by simpa using g6) (t_ck hsz (e_r2 (.string (strOfNums [IntKind.u8.wrap z] ++ t)) (by rw [hz, e (by rw [g6]; decide)])))
  refine t_N (b := decide (k = 6)) 0 (by simpa using g6) ?_
  by_cases g3 : k = 3
  · exact t_Y (b := decide (k = 3)) 4 (by simpa using g3) (t_ck hsz (e_r2 (.string (strOfNums [IntKind.u8.wrap z] ++ t)) (by rw [hz, e (by rw [g3]; decide)])))
  refine t_N (b := decide (k = 3)) 0 (by simpa using g3) ?_
  by_cases g4 : k = 4
  · exact t_Y (b := decide (k = 4)) 4 (by simpa using g4) (t_ck hsz (e_r2 (.string (strOfNums [IntKind.u8.wrap z] ++ t)) (by rw [hz, e (by rw [g4]; decide)])))
  refine t_N (b := decide (k = 4)) 0 (by simpa using g4) ?_
  by_cases g5 : k = 5
  · exact t_Y (b := decide (k = 5)) 4 (by simpa using g5) (t_ck hsz (e_r2 (.string (strOfNums [IntKind.u8.wrap z] ++ t)) (by rw [hz, e (by rw [g5]; decide)])))
  refine t_N (b := decide (k = 5)) 0 (by simpa using g5) ?_
  by_cases g7 : k = 7
  · exact t_Y (b := decide (k = 7)) 4 (by simpa using g7) (t_ck hsz (e_r2 (.string (strOfNums [IntKind.u8.wrap z] ++ t)) (by rw [hz, e (by rw [g7]; decide)])))
  refine t_N (b := decide (k = 7)) 0 (by simpa using g7) ?_
  have e0 : Pkt.fieldsL ⟨k, s, h, z, t⟩ = [] := by
    have : k = 8 ∨ k = 9 ∨ k = 10 ∨ k = 11 ∨ k = 12 ∨ k = 13 := by omega
    rcases this with rfl | rfl | rfl | rfl | rfl | rfl <;> (unfold Pkt.fieldsL; rw [size_zero (r5 (by decide))]; simp [blockK])
  rw [e0]
  exact t_lit 9 (e_r2 (.string ⟨#[]⟩) rfl)
end Go.Proofs.YtkjikigimmchlaaGreatDoor
namespace Go.Proofs.YtkjikigimmchlaaGreatDoor
open Go.RowKit PX
set_option maxRecDepth 100000
theorem pencode_any (x : Pkt) (w : World) (hw : x.wide) : Calls Tryz.prog 110 #[pktV x] w fun e w' => e = .returned (.tuple #[.string x.encT, .int .i64 x.encE]) ∧ Below w.heap.size w w' := by
  refine run_v (t_v (args := #[pktV x]) (fun u _ => pright_any x u hw.2.2.2.2.2) ?_)
  unfold Pkt.encT Pkt.encE
  cases hr : x.right
  · rw [if_neg (by simp), if_neg (by simp)]
    exact t_lit 9 (e_r2 (.tuple #[.string ⟨#[]⟩, .int .i64 1]) rfl)
  · rw [if_pos rfl, if_pos rfl]
    have hz := body_few x hr
    obtain ⟨⟨k0, k1⟩, _⟩ := Pkt.right_parts hr
    have hu := head1 x.k (by omega) (by omega)
    have zu : (strOfNums [IntKind.u8.wrap x.k]).size = 1 := by rw [hu]; exact one_size _
    have zf : (txt x.fieldsL).size ≤ 60 := by
      have := x.body_fields
      rw [this] at hz
      rw [txt_size]
      simp at hz
      omega
    have e2 : strOfNums [IntKind.u8.wrap x.k] ++ (⟨(be 8 x.s.toNat).toArray⟩ : ByteArray) ++ txt x.fieldsL = txt x.body := by
      rw [hu, be8_txt, txt_two, txt_two, x.body_fields]
      rfl
    have h3 := fun w => seal_any (txt x.body) w (by rw [txt_size]; omega)
    rw [txt_data] at h3
    refine t_lit 9 (t_v (args := #[.int .u64 x.s]) (fun u _ => put64_any x.s u hw.1.1 hw.1.2) (t_v (args := #[pktV x]) (fun u _ => pfields_any x u hw hr) ?_))
    refine t_cat (strOfNums [IntKind.u8.wrap x.k]) ⟨(be 8 x.s.toNat).toArray⟩ (by simp [zu, be8_size]) (t_cat (strOfNums [IntKind.u8.wrap x.k] ++ ⟨(be 8 x.s.toNat).toArray⟩) (txt x.fieldsL) (by simp only [ByteArray.size_append, zu, be8_size]; omega) ?_)
    exact t_v (args := #[.string (strOfNums [IntKind.u8.wrap x.k] ++ ⟨(be 8 x.s.toNat).toArray⟩ ++ txt x.fieldsL)]) (fun u _ => by rw [e2]; exact h3 u) (e_r2 (.tuple #[.string (txt (sealed x.body)), .int .i64 0]) rfl)
end Go.Proofs.YtkjikigimmchlaaGreatDoor
namespace Go.Proofs.YtkjikigimmchlaaGreatDoor
open Go.RowKit PX
set_option maxRecDepth 100000
section
variable {T : TypeId} {b : Nat} {wB w : World} {n : Nod} {l : List Ou} {a : Adr} {v : Value} {N q : Nat}
theorem wreply (hT : WT T) (hB : wB.heap.size ≤ w.heap.size) (hl : l.length ≤ 1000) (id e : Int) (d : ByteArray) (hx : BoxO w b T (wkC n a v)) (hk : WK wB n a v l w) : Calls Tryz.prog 48 #[.pointer (some ⟨b, 0, none⟩), .int .i64 id, .int .i64 e, .string d] w (GivesW T b wB v (n, l ++ [n.reply id e d]) (.tuple #[]) w) := by
  unfold WT at hT
  simp only [List.mem_cons, List.not_mem_nil, or_false] at hT
  rcases hT with rfl|rfl|rfl|rfl <;>
  exact runW (args := [.int .i64 id, .int .i64 e, .string d]) (by kernel_rfl) st_wk hx hk (t_wpush (n.reply id e d) n a hB (From.refl _ _) (fun u hu => hu) (by omega) fun r A c ho => e_w a _ (fun u hu => hu) ho)
theorem wsend (hT : WT T) (hB : wB.heap.size ≤ w.heap.size) (hl : l.length ≤ 1000) (p : Pkt) (hs : B64 n.ses) (hh : p.h.wide) (hx : BoxO w b T (wkC n a v)) (hk : WK wB n a v l w) : Calls Tryz.prog 75 #[.pointer (some ⟨b, 0, none⟩), pktV p] w (GivesW T b wB v (n, l ++ [n.send p]) (.tuple #[]) w) := by
  unfold WT at hT
  simp only [List.mem_cons, List.not_mem_nil, or_false] at hT
  rcases hT with rfl|rfl|rfl|rfl <;>
  exact runW (args := [pktV p]) (by kernel_rfl) st_wk hx hk (t_v (fun u _ => pencode_any { p with s := n.ses } u ⟨hs, hh⟩) (t_wpush (n.send p) n a hB (From.refl _ _) (fun u hu => hu) (by omega) fun r A c ho => e_w a _ (fun u hu => hu) ho))
theorem wcommit (hT : WT T) (hF : Fit n.t.s n.t.c n.t.f) {s : Sup} (hw : s.wide) {y : Bool} (hy : (n.commit s).2 = y) (hx : BoxO w b T (wkC n a v)) (hk : WK wB n a v l w) : Calls Tryz.prog 82 #[.pointer (some ⟨b, 0, none⟩), supV s] w (GivesW T b wB v ((n.commit s).1, l) (.bool y) w) := by
  subst hy
  have hT2 := hT
  unfold WT at hT
  simp only [List.mem_cons, List.not_mem_nil, or_false] at hT
  rcases hT with rfl|rfl|rfl|rfl <;>
  exact runW (args := [supV s]) (by kernel_rfl) st_wk hx hk (t_s (fun u hu => zcommit_any a.A a.B a.k a.m n.t.s n.t.c n.t.f n.t.x n.t.b n.t.m s u hu.1.t hF hw) fun A k B m => t_w _ a n (n.commit s |>.1, l) (From.refl _ _) (fun u hu => hu.1.2) (fun u b hu _ hx => wkeep hT2 (n.t.commit s) A B k m hx hu.1.1 hu.1.2 hu.2) fun a' A c ho => e_w a' _ (fun u hu => hu) ho)
def Nod.take (n : Nod) (p : Bool) : Nod × Bool :=
  let m := n.commit { n.t.b with r := p }
  if m.2 = true then ({ m.1 with pri := p }, true) else (m.1, false)
end
end Go.Proofs.YtkjikigimmchlaaGreatDoor
namespace Go.Proofs.YtkjikigimmchlaaGreatDoor
open Go.RowKit PX
set_option maxRecDepth 100000
section
variable {T : TypeId} {b : Nat} {wB w : World} {n : Nod} {l : List Ou} {a : Adr} {v : Value} {N q : Nat}
theorem wput (hT : WT T) (hF : Fit n.t.s n.t.c n.t.f) (i : Int) (d : ByteArray) {y : Bool} (hy : (n.keep (n.t.put i d)).2 = y) (hx : BoxO w b T (wkC n a v)) (hk : WK wB n a v l w) : Calls Tryz.prog 79 #[.pointer (some ⟨b, 0, none⟩), .int .i64 i, .string d] w (GivesW T b wB v ((n.keep (n.t.put i d)).1, l) (.bool y) w) := by
  subst hy
  have hT2 := hT
  unfold WT at hT
  simp only [List.mem_cons, List.not_mem_nil, or_false] at hT
  rcases hT with rfl|rfl|rfl|rfl <;>
  exact runW (args := [.int .i64 i, .string d]) (by kernel_rfl) st_wk hx hk (t_s (fun u hu => zput_any a.A a.B a.k a.m n.t.s n.t.c n.t.f n.t.x n.t.b n.t.m i d u hu.1.t hF) fun A k B m => t_w _ a n ((n.keep (n.t.put i d)).1, l) (From.refl _ _) (fun u hu => hu.1.2) (fun u b hu _ hx => wkeep hT2 (n.t.put i d) A B k m hx hu.1.1 hu.1.2 hu.2) fun a' A c ho => e_w a' _ (fun u hu => hu) ho)
theorem wwipe (hT : WT T) (hF : Fit n.t.s n.t.c n.t.f) (hm : n.t.m < 4294967296) (i : Int) {y : Bool} (hy : (n.wipe i).2 = y) (hx : BoxO w b T (wkC n a v)) (hk : WK wB n a v l w) : Calls Tryz.prog 77 #[.pointer (some ⟨b, 0, none⟩), .int .i64 i] w (GivesW T b wB v ((n.wipe i).1, l) (.bool y) w) := by
  subst hy
  have hT2 := hT
  unfold WT at hT
  simp only [List.mem_cons, List.not_mem_nil, or_false] at hT
  rcases hT with rfl|rfl|rfl|rfl <;>
  exact runW (args := [.int .i64 i]) (by kernel_rfl) st_wk hx hk (t_s (fun u hu => zwipe_any a.A a.B a.k a.m n.t.s n.t.c n.t.f n.t.x n.t.b n.t.m i u hu.1.t hF hm) fun A k B m => t_w _ a n ((n.wipe i).1, l) (From.refl _ _) (fun u hu => hu.1.2) (fun u b hu _ hx => wkeep hT2 (n.t.wipe i) A B k m hx hu.1.1 hu.1.2 hu.2) fun a' A c ho => e_w a' _ (fun u hu => hu) ho)
theorem wmark (hT : WT T) (hF : Fit n.t.s n.t.c n.t.f) (hm : n.t.m < 4294967296) (i : Int) {y : Bool} (hy : (n.keep (n.t.mark i)).2 = y) (hx : BoxO w b T (wkC n a v)) (hk : WK wB n a v l w) : Calls Tryz.prog 119 #[.pointer (some ⟨b, 0, none⟩), .int .i64 i] w (GivesW T b wB v ((n.keep (n.t.mark i)).1, l) (.bool y) w) := by
  subst hy
  have hT2 := hT
  unfold WT at hT
  simp only [List.mem_cons, List.not_mem_nil, or_false] at hT
  rcases hT with rfl|rfl|rfl|rfl <;>
  exact runW (args := [.int .i64 i]) (by kernel_rfl) st_wk hx hk (t_s (fun u hu => zmark_any a.A a.B a.k a.m n.t.s n.t.c n.t.f n.t.x n.t.b n.t.m i u hu.1.t hF hm) fun A k B m => t_w _ a n ((n.keep (n.t.mark i)).1, l) (From.refl _ _) (fun u hu => hu.1.2) (fun u b hu _ hx => wkeep hT2 (n.t.mark i) A B k m hx hu.1.1 hu.1.2 hu.2) fun a' A c ho => e_w a' _ (fun u hu => hu) ho)
theorem wjoin (hT : WT T) (hF : Fit n.t.s n.t.c n.t.f) (hm : n.t.m < 4294967296) (k : Nat) (hk2 : k < 4294967296) {y : Bool} (hy : (n.keep (n.t.join k)).2 = y) (hx : BoxO w b T (wkC n a v)) (hk : WK wB n a v l w) : Calls Tryz.prog 117 #[.pointer (some ⟨b, 0, none⟩), .int .u32 (k : Nat)] w (GivesW T b wB v ((n.keep (n.t.join k)).1, l) (.bool y) w) := by
  subst hy
  have hT2 := hT
  unfold WT at hT
  simp only [List.mem_cons, List.not_mem_nil, or_false] at hT
  rcases hT with rfl|rfl|rfl|rfl <;>
  exact runW (args := [.int .u32 (k : Nat)]) (by kernel_rfl) st_wk hx hk (t_s (fun u hu => zjoin_any a.A a.B a.k a.m n.t.s n.t.c n.t.f n.t.x n.t.b n.t.m k u hu.1.t hF hm hk2) fun A k2 B m => t_w _ a n ((n.keep (n.t.join k)).1, l) (From.refl _ _) (fun u hu => hu.1.2) (fun u b hu _ hx => wkeep hT2 (n.t.join k) A B k2 m hx hu.1.1 hu.1.2 hu.2) fun a' A c ho => e_w a' _ (fun u hu => hu) ho)
theorem wclose (hT : WT T) (hB : wB.heap.size ≤ w.heap.size) (hl : l.length ≤ 1000) (hx : BoxO w b T (wkC n a v)) (hk : WK wB n a v l w) (_ : Nat := 37) : Calls Tryz.prog 17 #[.pointer (some ⟨b, 0, none⟩)] w (GivesW T b wB v (n, l ++ [n.close]) (.tuple #[]) w) := by
  unfold WT at hT
  simp only [List.mem_cons, List.not_mem_nil, or_false] at hT
  rcases hT with rfl|rfl|rfl|rfl <;>
  exact runW (args := []) (by kernel_rfl) st_wk hx hk (t_wpush n.close n a hB (From.refl _ _) (fun u hu => hu) (by omega) fun r A c ho => e_w a _ (fun u hu => hu) ho)
theorem t_at {bo : List Nat} {F : Value → S → World → Prop} {K : World → Prop} {t : Tree} {f : FuncId} {args : List Value} {A : Option Addr} {c : Nat} (T : TypeId) (n : Nod) (a : Adr) (r : Nod × List Ou) (x : Value) (ho : From w (.slice none 0 0) (.slice A l.length c)) (hr : ∀ u, K u → NM u n a ∧ Rw w (.slice A l.length c) l u)
    (hc : ∀ u b, w.heap.size ≤ u.heap.size → WK w n a (.slice A l.length c) l u → BoxO u b T (wkC n a (.slice A l.length c)) → Calls Tryz.prog f (.pointer (some ⟨b, 0, none⟩) :: args).toArray u (GivesW T b w (.slice A l.length c) r x u))
    (h : ∀ a' A c, From w (.slice none 0 0) (.slice A r.2.length c) → OK ⟨Tryz.prog, tyL, w, bo, []⟩ F (t.nc x (wkC r.1 a' (.slice A r.2.length c))) fun u => NM u r.1 a' ∧ Rw w (.slice A r.2.length c) r.2 u) (hT : tyL T = true := by kernel_rfl) (hd : t.hd = .cgrow f T (wkC n a (.slice A l.length c)) args := by kernel_rfl) : OK ⟨Tryz.prog, tyL, w, bo, []⟩ F t K :=
  t_w (v0 := .slice none 0 0) T a n r ho (fun u hu => (hr u hu).2) (fun u b hu hz hx => hc u b hz (hr u hu) hx) h hT hd
end
end Go.Proofs.YtkjikigimmchlaaGreatDoor
