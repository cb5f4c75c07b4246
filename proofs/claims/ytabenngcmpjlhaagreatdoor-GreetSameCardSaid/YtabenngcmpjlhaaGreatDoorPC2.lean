/- Packets: the bytes of the fields, by the code, carried out plainly; for every packet. No other condition but the widths. -/
import Derived.Test.YtabenngcmpjlhaaGreatDoorPKR
import Derived.Test.YtabenngcmpjlhaaGreatDoorNI
namespace Go.Proofs.YtabenngcmpjlhaaGreatDoor
open Go.RowKit PX
set_option maxRecDepth 100000
def bareB (h : Hel) (z : Int) (t : ByteArray) : Bool := h.none && (decide (z = 0) && decide (t.size = 0))
theorem eqP_bare (k s : Int) (h : Hel) (z : Int) (t : ByteArray) : eqP ⟨k, s, h, z, t⟩ ⟨k, s, Hel.zero, 0, ⟨#[]⟩⟩ = bareB h z t := by
  unfold eqP bareB
  rw [eqH_none, show (⟨#[]⟩ : ByteArray).toList = [] from by rw [ByteArray.toList_eq], nil_size]
  simp [Bool.beq_eq_decide_eq]
theorem eql_pktS (a b : Operand) (x y : Pkt) (w : World) : (do Go.eqGuard .eql 93 a b (pktV x) (pktV y); Go.binOp .eql 93 (pktV x) (pktV y) : Sem Value).run Tryz.prog w = .ok (.bool (eqP x y)) w := by
  simp [go_sem, eql_pkt]
theorem bare_any (x : Pkt) (w : World) : Calls Tryz.prog 198 #[pktV x] w fun e w' => e = .returned (.bool (bareB x.h x.b x.d)) ∧ Below w.heap.size w w' := by
  refine run_v ?_
  refine t_sem (do Go.eqGuard .eql 93 (.tmp 1) (.tmp 1) (pktV x) (pktV ⟨x.k, x.s, Hel.zero, 0, ⟨#[]⟩⟩); Go.binOp .eql 93 (pktV x) (pktV ⟨x.k, x.s, Hel.zero, 0, ⟨#[]⟩⟩)) (v := .bool (eqP x ⟨x.k, x.s, Hel.zero, 0, ⟨#[]⟩⟩)) (fun u _ _ => eql_pktS _ _ x _ u) ?_
  exact e_r2 (.bool (eqP x ⟨x.k, x.s, Hel.zero, 0, ⟨#[]⟩⟩)) (by rw [eqP_bare])
theorem bareB_zero (z : Int) (t : ByteArray) : bareB Hel.zero z t = (decide (z = 0) && decide (t.size = 0)) := by
  unfold bareB
  rw [show Hel.zero.none = true from by decide]
  simp
theorem bareB_none (h : Hel) : bareB h 0 ⟨#[]⟩ = h.none := by
  unfold bareB
  rw [show (⟨#[]⟩ : ByteArray).size = 0 from rfl]
  simp
theorem pr_data {k s z : Int} {h : Hel} {t : ByteArray} (hk : k = 2 ∨ k = 6) : Pkt.right ⟨k, s, h, z, t⟩ = (h.none && ((decide (0 ≤ z) && decide (z ≤ 31)) && decide (t.size = 8))) := by
  rcases hk with rfl | rfl <;> simp [Pkt.right, blockK, dataK]
theorem pr_block {k s z : Int} {h : Hel} {t : ByteArray} (hk : k = 3 ∨ k = 4 ∨ k = 5 ∨ k = 7) : Pkt.right ⟨k, s, h, z, t⟩ = (h.none && ((decide (0 ≤ z) && decide (z ≤ 31)) && decide (t.size = 0))) := by
  rcases hk with rfl | rfl | rfl | rfl <;> simp [Pkt.right, blockK, dataK]
theorem pr_bare {k s z : Int} {h : Hel} {t : ByteArray} (h8 : 8 ≤ k) (h13 : k ≤ 13) : Pkt.right ⟨k, s, h, z, t⟩ = bareB h z t := by
  have : k = 8 ∨ k = 9 ∨ k = 10 ∨ k = 11 ∨ k = 12 ∨ k = 13 := by omega
  rcases this with rfl | rfl | rfl | rfl | rfl | rfl <;> (by_cases h0 : z = 0 <;> by_cases h8 : t.size = 0 <;> simp [Pkt.right, blockK, dataK, bareB, h0, h8])
theorem pr_hello {s z : Int} {h : Hel} {t : ByteArray} : Pkt.right ⟨1, s, h, z, t⟩ = (h.right && bareB Hel.zero z t) := by
  rw [bareB_zero]
  by_cases h0 : z = 0 <;> by_cases h8 : t.size = 0 <;> simp [Pkt.right, blockK, dataK, h0, h8]
theorem pr_none {k s z : Int} {h : Hel} {t : ByteArray} (hk : k < 1 ∨ 13 < k) : Pkt.right ⟨k, s, h, z, t⟩ = false := by
  unfold Pkt.right
  rcases hk with h | h
  · simp [show ¬ (1 ≤ k) from by omega]
  · simp [show ¬ (k ≤ 13) from by omega]
theorem pright_any (p : Pkt) (w : World) (hm : p.h.m < 4294967296) : Calls Tryz.prog 149 #[pktV p] w fun e w' => e = .returned (.bool p.right) ∧ Below w.heap.size w w' := by
  obtain ⟨k, s, h, z, t⟩ := p
  refine run_v ?_
  by_cases k1 : k = 1
  · subst k1
    rw [pr_hello]
    refine t_Y (b := decide ((1 : Int) = 1)) 0 (by decide) (t_v (args := #[helV h]) (fun u _ => hright_any h u hm) ?_)
    cases hr : h.right with
    | false => exact t_lit 9 (e_r2 (.bool false) (by simp))
    | true => exact t_lit 9 (t_v (args := #[pktV ⟨1, s, Hel.zero, z, t⟩]) (fun u _ => bare_any ⟨1, s, Hel.zero, z, t⟩ u) (t_lit 9 (e_r2 (.bool (bareB Hel.zero z t)) (by simp))))
  refine t_N (b := decide (k = 1)) 0 (by simpa using k1) ?_
  by_cases k2 : k = 2
  · rw [pr_data (by omega)]
    refine t_Y (b := decide (k = 2)) 1 (by simpa using k2) ?_
    by_cases h8 : t.size = 8
    rotate_left
    · exact t_Y (b := !((t.size : Int) == 8)) 9 (by simp; omega) (e_r2 (.bool false) (by simp [h8]))
    refine t_N (b := !((t.size : Int) == 8)) 0 (by simp; omega) ?_
    by_cases b0 : z < 0
    · exact t_N (b := !(decide (z < 0))) 9 (by simp [b0]) (e_r2 (.bool false) (by simp [show ¬ 0 ≤ z by omega]))
    refine t_Y (b := !(decide (z < 0))) 2 (by simp [b0]) ?_
    by_cases b32 : 32 ≤ z
    · exact t_Y (b := decide (32 ≤ z)) 9 (by simp [b32]) (e_r2 (.bool false) (by simp [show ¬ z ≤ 31 by omega]))
    exact t_N (b := decide (32 ≤ z)) 0 (by simp [b32]) (t_v (args := #[pktV ⟨k, s, h, 0, ⟨#[]⟩⟩]) (fun u _ => bare_any ⟨k, s, h, 0, ⟨#[]⟩⟩ u) (e_r2 (.bool (bareB h 0 ⟨#[]⟩)) (by rw [bareB_none]; simp [h8, show 0 ≤ z by omega, show z ≤ 31 by omega])))
  refine t_N (b := decide (k = 2)) 0 (by simpa using k2) ?_
  by_cases k6 : k = 6
  · rw [pr_data (by omega)]
    refine t_Y (b := decide (k = 6)) 0 (by simpa using k6) ?_
    by_cases h8 : t.size = 8
    rotate_left
    · exact t_Y (b := !((t.size : Int) == 8)) 9 (by simp; omega) (e_r2 (.bool false) (by simp [h8]))
    refine t_N (b := !((t.size : Int) == 8)) 0 (by simp; omega) ?_
    by_cases b0 : z < 0
    · exact t_N (b := !(decide (z < 0))) 9 (by simp [b0]) (e_r2 (.bool false) (by simp [show ¬ 0 ≤ z by omega]))
    refine t_Y (b := !(decide (z < 0))) 2 (by simp [b0]) ?_
    by_cases b32 : 32 ≤ z
    · exact t_Y (b := decide (32 ≤ z)) 9 (by simp [b32]) (e_r2 (.bool false) (by simp [show ¬ z ≤ 31 by omega]))
    exact t_N (b := decide (32 ≤ z)) 0 (by simp [b32]) (t_v (args := #[pktV ⟨k, s, h, 0, ⟨#[]⟩⟩]) (fun u _ => bare_any ⟨k, s, h, 0, ⟨#[]⟩⟩ u) (e_r2 (.bool (bareB h 0 ⟨#[]⟩)) (by rw [bareB_none]; simp [h8, show 0 ≤ z by omega, show z ≤ 31 by omega])))
  refine t_N (b := decide (k = 6)) 0 (by simpa using k6) ?_
  by_cases k3 : k = 3
  · rw [pr_block (by omega)]
    refine t_Y (b := decide (k = 3)) 1 (by simpa using k3) ?_
    by_cases b0 : z < 0
    · exact t_N (b := !(decide (z < 0))) 9 (by simp [b0]) (e_r2 (.bool false) (by simp [show ¬ 0 ≤ z by omega]))
    refine t_Y (b := !(decide (z < 0))) 2 (by simp [b0]) ?_
    by_cases b32 : 32 ≤ z
    · exact t_Y (b := decide (32 ≤ z)) 9 (by simp [b32]) (e_r2 (.bool false) (by simp [show ¬ z ≤ 31 by omega]))
    exact t_N (b := decide (32 ≤ z)) 0 (by simp [b32]) (t_v (args := #[pktV ⟨k, s, h, 0, t⟩]) (fun u _ => bare_any ⟨k, s, h, 0, t⟩ u) (e_r2 (.bool (bareB h 0 t)) (by unfold bareB; simp [show 0 ≤ z by omega, show z ≤ 31 by omega])))
  refine t_N (b := decide (k = 3)) 0 (by simpa using k3) ?_
  by_cases k4 : k = 4
  · rw [pr_block (by omega)]
    refine t_Y (b := decide (k = 4)) 1 (by simpa using k4) ?_
    by_cases b0 : z < 0
    · exact t_N (b := !(decide (z < 0))) 9 (by simp [b0]) (e_r2 (.bool false) (by simp [show ¬ 0 ≤ z by omega]))
    refine t_Y (b := !(decide (z < 0))) 2 (by simp [b0]) ?_
    by_cases b32 : 32 ≤ z
    · exact t_Y (b := decide (32 ≤ z)) 9 (by simp [b32]) (e_r2 (.bool false) (by simp [show ¬ z ≤ 31 by omega]))
    exact t_N (b := decide (32 ≤ z)) 0 (by simp [b32]) (t_v (args := #[pktV ⟨k, s, h, 0, t⟩]) (fun u _ => bare_any ⟨k, s, h, 0, t⟩ u) (e_r2 (.bool (bareB h 0 t)) (by unfold bareB; simp [show 0 ≤ z by omega, show z ≤ 31 by omega])))
  refine t_N (b := decide (k = 4)) 0 (by simpa using k4) ?_
  by_cases k5 : k = 5
  · rw [pr_block (by omega)]
    refine t_Y (b := decide (k = 5)) 1 (by simpa using k5) ?_
    by_cases b0 : z < 0
    · exact t_N (b := !(decide (z < 0))) 9 (by simp [b0]) (e_r2 (.bool false) (by simp [show ¬ 0 ≤ z by omega]))
    refine t_Y (b := !(decide (z < 0))) 2 (by simp [b0]) ?_
    by_cases b32 : 32 ≤ z
    · exact t_Y (b := decide (32 ≤ z)) 9 (by simp [b32]) (e_r2 (.bool false) (by simp [show ¬ z ≤ 31 by omega]))
    exact t_N (b := decide (32 ≤ z)) 0 (by simp [b32]) (t_v (args := #[pktV ⟨k, s, h, 0, t⟩]) (fun u _ => bare_any ⟨k, s, h, 0, t⟩ u) (e_r2 (.bool (bareB h 0 t)) (by unfold bareB; simp [show 0 ≤ z by omega, show z ≤ 31 by omega])))
  refine t_N (b := decide (k = 5)) 0 (by simpa using k5) ?_
  by_cases k7 : k = 7
  · rw [pr_block (by omega)]
    refine t_Y (b := decide (k = 7)) 0 (by simpa using k7) ?_
    by_cases b0 : z < 0
    · exact t_N (b := !(decide (z < 0))) 9 (by simp [b0]) (e_r2 (.bool false) (by simp [show ¬ 0 ≤ z by omega]))
    refine t_Y (b := !(decide (z < 0))) 2 (by simp [b0]) ?_
    by_cases b32 : 32 ≤ z
    · exact t_Y (b := decide (32 ≤ z)) 9 (by simp [b32]) (e_r2 (.bool false) (by simp [show ¬ z ≤ 31 by omega]))
    exact t_N (b := decide (32 ≤ z)) 0 (by simp [b32]) (t_v (args := #[pktV ⟨k, s, h, 0, t⟩]) (fun u _ => bare_any ⟨k, s, h, 0, t⟩ u) (e_r2 (.bool (bareB h 0 t)) (by unfold bareB; simp [show 0 ≤ z by omega, show z ≤ 31 by omega])))
  refine t_N (b := decide (k = 7)) 0 (by simpa using k7) ?_
  by_cases k8 : k = 8
  · exact t_Y (b := decide (k = 8)) 9 (by simpa using k8) (t_v (args := #[pktV ⟨k, s, h, z, t⟩]) (fun u _ => bare_any ⟨k, s, h, z, t⟩ u) (e_r2 (.bool (bareB h z t)) (by rw [pr_bare (by omega) (by omega)])))
  refine t_N (b := decide (k = 8)) 0 (by simpa using k8) ?_
  by_cases k9 : k = 9
  · exact t_Y (b := decide (k = 9)) 9 (by simpa using k9) (t_v (args := #[pktV ⟨k, s, h, z, t⟩]) (fun u _ => bare_any ⟨k, s, h, z, t⟩ u) (e_r2 (.bool (bareB h z t)) (by rw [pr_bare (by omega) (by omega)])))
  refine t_N (b := decide (k = 9)) 0 (by simpa using k9) ?_
  by_cases k10 : k = 10
  · exact t_Y (b := decide (k = 10)) 9 (by simpa using k10) (t_v (args := #[pktV ⟨k, s, h, z, t⟩]) (fun u _ => bare_any ⟨k, s, h, z, t⟩ u) (e_r2 (.bool (bareB h z t)) (by rw [pr_bare (by omega) (by omega)])))
  refine t_N (b := decide (k = 10)) 0 (by simpa using k10) ?_
  by_cases k11 : k = 11
  · exact t_Y (b := decide (k = 11)) 9 (by simpa using k11) (t_v (args := #[pktV ⟨k, s, h, z, t⟩]) (fun u _ => bare_any ⟨k, s, h, z, t⟩ u) (e_r2 (.bool (bareB h z t)) (by rw [pr_bare (by omega) (by omega)])))
  refine t_N (b := decide (k = 11)) 0 (by simpa using k11) ?_
  by_cases k12 : k = 12
  · exact t_Y (b := decide (k = 12)) 9 (by simpa using k12) (t_v (args := #[pktV ⟨k, s, h, z, t⟩]) (fun u _ => bare_any ⟨k, s, h, z, t⟩ u) (e_r2 (.bool (bareB h z t)) (by rw [pr_bare (by omega) (by omega)])))
  refine t_N (b := decide (k = 12)) 0 (by simpa using k12) ?_
  by_cases k13 : k = 13
  · exact t_Y (b := decide (k = 13)) 9 (by simpa using k13) (t_v (args := #[pktV ⟨k, s, h, z, t⟩]) (fun u _ => bare_any ⟨k, s, h, z, t⟩ u) (e_r2 (.bool (bareB h z t)) (by rw [pr_bare (by omega) (by omega)])))
  exact t_N (b := decide (k = 13)) 9 (by simpa using k13) (e_r2 (.bool false) (by rw [pr_none (by omega)]))
end Go.Proofs.YtabenngcmpjlhaaGreatDoor
namespace Go.Proofs.YtabenngcmpjlhaaGreatDoor
open Go.RowKit PX
set_option maxRecDepth 100000
def Pkt.fieldsL (p : Pkt) : List UInt8 := (if p.k = 1 then p.h.body else []) ++ ((if blockK p.k then [UInt8.ofNat p.b.toNat] else []) ++ p.d.data.toList)
theorem Pkt.body_fields (p : Pkt) : p.body = UInt8.ofNat p.k.toNat :: (be 8 p.s.toNat ++ p.fieldsL) := by
  rw [body_front]
  rfl
theorem pfields_any (x : Pkt) (w : World) (hw : x.wide) (hr : x.right = true) : Calls Tryz.prog 152 #[pktV x] w fun e w' => e = .returned (.string (txt x.fieldsL)) ∧ Below w.heap.size w w' := by
  obtain ⟨⟨k0, k1⟩, r1, r2, ⟨b0, b1⟩, r3, r4, r5⟩ := Pkt.right_parts hr
  obtain ⟨k, s, h, z, t⟩ := x
  dsimp only at k0 k1 r1 b0 b1 r4 r5
  have hz : strOfNums [IntKind.u8.wrap z] = txt [UInt8.ofNat z.toNat] := head1 z (by omega) (by omega)
  have zt : t.size ≤ 8 := by
    cases e : dataK k
    · have := r5 e; omega
    · have := r4 e; omega
  have hsz : ¬ (((txt [UInt8.ofNat z.toNat]).size + t.size : Nat) : Int) > IntKind.i64.max := by
    have h1 := one_size (UInt8.ofNat z.toNat)
    rw [h1]
    have : IntKind.i64.max = 9223372036854775807 := by decide
    rw [this]
    omega
  refine run_v ?_
  by_cases g1 : k = 1
  · have e : Pkt.fieldsL ⟨k, s, h, z, t⟩ = h.body := by
      subst g1
      unfold Pkt.fieldsL
      rw [if_pos rfl, block_of_one, size_zero (r5 (by decide))]
      simp
    rw [e]
    exact t_Y (b := decide (k = 1)) 0 (by simpa using g1) (t_v (args := #[helV h]) (fun u _ => hencode_yes h u hw.2 (r1 g1)) (t_lit 9 (e_r2 (.string h.bytes) rfl)))
  refine t_N (b := decide (k = 1)) 0 (by simpa using g1) ?_
  have e : blockK k = true → txt [UInt8.ofNat z.toNat] ++ t = txt (Pkt.fieldsL ⟨k, s, h, z, t⟩) := fun hb => by
    unfold Pkt.fieldsL
    rw [if_neg g1, if_pos hb, txt_end]
    rfl
  by_cases g2 : k = 2
  · refine t_Y (b := decide (k = 2)) 1 (by simpa using g2) (t_fresh 5 [.int .u8 (IntKind.u8.wrap z)] fun r hr => ?_)
    refine t_sem (convert 192 9 (.slice (some ⟨r, 0, none⟩) 1 1)) (v := .string (txt [UInt8.ofNat z.toNat])) (fun u hu _ => conv1 ⟨_, hu.2⟩ hz) ?_
    exact t_ck hsz (e_r2 (.string (txt [UInt8.ofNat z.toNat] ++ t)) (by rw [e (by rw [g2]; decide)]))
  refine t_N (b := decide (k = 2)) 0 (by simpa using g2) ?_
  by_cases g6 : k = 6
  · refine t_Y (b := decide (k = 6)) 1 (by simpa using g6) (t_fresh 5 [.int .u8 (IntKind.u8.wrap z)] fun r hr => ?_)
    refine t_sem (convert 192 9 (.slice (some ⟨r, 0, none⟩) 1 1)) (v := .string (txt [UInt8.ofNat z.toNat])) (fun u hu _ => conv1 ⟨_, hu.2⟩ hz) ?_
    exact t_ck hsz (e_r2 (.string (txt [UInt8.ofNat z.toNat] ++ t)) (by rw [e (by rw [g6]; decide)]))
  refine t_N (b := decide (k = 6)) 0 (by simpa using g6) ?_
  by_cases g3 : k = 3
  · refine t_Y (b := decide (k = 3)) 1 (by simpa using g3) (t_fresh 5 [.int .u8 (IntKind.u8.wrap z)] fun r hr => ?_)
    refine t_sem (convert 192 9 (.slice (some ⟨r, 0, none⟩) 1 1)) (v := .string (txt [UInt8.ofNat z.toNat])) (fun u hu _ => conv1 ⟨_, hu.2⟩ hz) ?_
    exact t_ck hsz (e_r2 (.string (txt [UInt8.ofNat z.toNat] ++ t)) (by rw [e (by rw [g3]; decide)]))
  refine t_N (b := decide (k = 3)) 0 (by simpa using g3) ?_
  by_cases g4 : k = 4
  · refine t_Y (b := decide (k = 4)) 1 (by simpa using g4) (t_fresh 5 [.int .u8 (IntKind.u8.wrap z)] fun r hr => ?_)
    refine t_sem (convert 192 9 (.slice (some ⟨r, 0, none⟩) 1 1)) (v := .string (txt [UInt8.ofNat z.toNat])) (fun u hu _ => conv1 ⟨_, hu.2⟩ hz) ?_
    exact t_ck hsz (e_r2 (.string (txt [UInt8.ofNat z.toNat] ++ t)) (by rw [e (by rw [g4]; decide)]))
  refine t_N (b := decide (k = 4)) 0 (by simpa using g4) ?_
  by_cases g5 : k = 5
  · refine t_Y (b := decide (k = 5)) 1 (by simpa using g5) (t_fresh 5 [.int .u8 (IntKind.u8.wrap z)] fun r hr => ?_)
    refine t_sem (convert 192 9 (.slice (some ⟨r, 0, none⟩) 1 1)) (v := .string (txt [UInt8.ofNat z.toNat])) (fun u hu _ => conv1 ⟨_, hu.2⟩ hz) ?_
    exact t_ck hsz (e_r2 (.string (txt [UInt8.ofNat z.toNat] ++ t)) (by rw [e (by rw [g5]; decide)]))
  refine t_N (b := decide (k = 5)) 0 (by simpa using g5) ?_
  by_cases g7 : k = 7
  · refine t_Y (b := decide (k = 7)) 0 (by simpa using g7) (t_fresh 5 [.int .u8 (IntKind.u8.wrap z)] fun r hr => ?_)
    refine t_sem (convert 192 9 (.slice (some ⟨r, 0, none⟩) 1 1)) (v := .string (txt [UInt8.ofNat z.toNat])) (fun u hu _ => conv1 ⟨_, hu.2⟩ hz) ?_
    exact t_ck hsz (e_r2 (.string (txt [UInt8.ofNat z.toNat] ++ t)) (by rw [e (by rw [g7]; decide)]))
  refine t_N (b := decide (k = 7)) 0 (by simpa using g7) ?_
  have e0 : Pkt.fieldsL ⟨k, s, h, z, t⟩ = [] := by
    have : k = 8 ∨ k = 9 ∨ k = 10 ∨ k = 11 ∨ k = 12 ∨ k = 13 := by omega
    rcases this with rfl | rfl | rfl | rfl | rfl | rfl <;> (unfold Pkt.fieldsL; rw [size_zero (r5 (by decide))]; simp [blockK])
  rw [e0]
  exact t_lit 9 (e_r2 (.string ⟨#[]⟩) rfl)
end Go.Proofs.YtabenngcmpjlhaaGreatDoor
