/- Packets: the bytes of the fields, by the code, carried out plainly; for every packet. No other condition but the widths. -/
import Derived.Test.YtbmpdmomagkkmaaGreatDoorPC1
import Derived.Test.YtbmpdmomagkkmaaGreatDoorNI
namespace Go.Proofs.YtbmpdmomagkkmaaGreatDoor

open Go.RowKit PX

set_option maxRecDepth 100000

def Pkt.fieldsL (p : Pkt) : List UInt8 := (if p.k = 1 then p.h.body else []) ++ ((if blockK p.k then [UInt8.ofNat p.b.toNat] else []) ++ p.d.data.toList)

theorem Pkt.body_fields (p : Pkt) : p.body = UInt8.ofNat p.k.toNat :: (be 8 p.s.toNat ++ p.fieldsL) := by
  rw [body_front]
  rfl

theorem pfields_any (x : Pkt) (w : World) (hw : x.wide) (hr : x.right = true) : Calls Tryz.prog 144 #[pktV x] w fun e w' => e = .returned (.string (txt x.fieldsL)) ∧ Below w.heap.size w w' := by
  obtain ⟨⟨k0, k1⟩, r1, r2, ⟨b0, b1⟩, r3, r4, r5⟩ := Pkt.right_parts hr
  obtain ⟨k, s, h, z, t⟩ := x
  dsimp only at k0 k1 r1 b0 b1 r4 r5
  have hz : strOfNums [IntKind.u8.wrap z] = txt [UInt8.ofNat z.toNat] := head1 z (by omega) (by omega)
  have zt : t.size ≤ 8 := by
    cases e : dataK k
    · have := r5 e; omega
    · have := r4 e; omega
  have hsz : ¬ (((txt [UInt8.ofNat z.toNat]).size + t.size : Nat) : Int) > IntKind.i64.max := by
    have h1 := one_size (UInt8.ofNat z.toNat)
    rw [h1]
    have : IntKind.i64.max = 9223372036854775807 := by decide
    rw [this]
    omega
  refine run_v ?_
  by_cases g1 : k = 1
  · have e : Pkt.fieldsL ⟨k, s, h, z, t⟩ = h.body := by
      subst g1
      unfold Pkt.fieldsL
      rw [if_pos rfl, block_of_one, size_zero (r5 (by decide))]
      simp
    rw [e]
    exact t_Y (b := decide (k = 1)) 0 (by simpa using g1) (t_v (args := #[helV h]) (fun u _ => hencode_yes h u hw.2 (r1 g1)) (t_lit 9 (e_r2 (.string h.bytes) rfl)))
  refine t_N (b := decide (k = 1)) 0 (by simpa using g1) ?_
  have e : blockK k = true → txt [UInt8.ofNat z.toNat] ++ t = txt (Pkt.fieldsL ⟨k, s, h, z, t⟩) := fun hb => by
    unfold Pkt.fieldsL
    rw [if_neg g1, if_pos hb, txt_end]
    rfl
  by_cases g2 : k = 2
  · refine t_Y (b := decide (k = 2)) 1 (by simpa using g2) (t_fresh 5 [.int .u8 (IntKind.u8.wrap z)] fun r hr => ?_)
    refine t_sem (convert 179 9 (.slice (some ⟨r, 0, none⟩) 1 1)) (v := .string (txt [UInt8.ofNat z.toNat])) (fun u hu _ => conv1 ⟨_, hu.2⟩ hz) ?_
    exact t_ck hsz (e_r2 (.string (txt [UInt8.ofNat z.toNat] ++ t)) (by rw [e (by rw [g2]; decide)]))
  refine t_N (b := decide (k = 2)) 0 (by simpa using g2) ?_
  by_cases g6 : k = 6
  · refine t_Y (b := decide (k = 6)) 1 (by simpa using g6) (t_fresh 5 [.int .u8 (IntKind.u8.wrap z)] fun r hr => ?_)
    refine t_sem (convert 179 9 (.slice (some ⟨r, 0, none⟩) 1 1)) (v := .string (txt [UInt8.ofNat z.toNat])) (fun u hu _ => conv1 ⟨_, hu.2⟩ hz) ?_
    exact t_ck hsz (e_r2 (.string (txt [UInt8.ofNat z.toNat] ++ t)) (by rw [e (by rw [g6]; decide)]))
  refine t_N (b := decide (k = 6)) 0 (by simpa using g6) ?_
  by_cases g3 : k = 3
  · refine t_Y (b := decide (k = 3)) 1 (by simpa using g3) (t_fresh 5 [.int .u8 (IntKind.u8.wrap z)] fun r hr => ?_)
    refine t_sem (convert 179 9 (.slice (some ⟨r, 0, none⟩) 1 1)) (v := .string (txt [UInt8.ofNat z.toNat])) (fun u hu _ => conv1 ⟨_, hu.2⟩ hz) ?_
    exact t_ck hsz (e_r2 (.string (txt [UInt8.ofNat z.toNat] ++ t)) (by rw [e (by rw [g3]; decide)]))
  refine t_N (b := decide (k = 3)) 0 (by simpa using g3) ?_
  by_cases g4 : k = 4
  · refine t_Y (b := decide (k = 4)) 1 (by simpa using g4) (t_fresh 5 [.int .u8 (IntKind.u8.wrap z)] fun r hr => ?_)
    refine t_sem (convert 179 9 (.slice (some ⟨r, 0, none⟩) 1 1)) (v := .string (txt [UInt8.ofNat z.toNat])) (fun u hu _ => conv1 ⟨_, hu.2⟩ hz) ?_
    exact t_ck hsz (e_r2 (.string (txt [UInt8.ofNat z.toNat] ++ t)) (by rw [e (by rw [g4]; decide)]))
  refine t_N (b := decide (k = 4)) 0 (by simpa using g4) ?_
  by_cases g5 : k = 5
  · refine t_Y (b := decide (k = 5)) 1 (by simpa using g5) (t_fresh 5 [.int .u8 (IntKind.u8.wrap z)] fun r hr => ?_)
    refine t_sem (convert 179 9 (.slice (some ⟨r, 0, none⟩) 1 1)) (v := .string (txt [UInt8.ofNat z.toNat])) (fun u hu _ => conv1 ⟨_, hu.2⟩ hz) ?_
    exact t_ck hsz (e_r2 (.string (txt [UInt8.ofNat z.toNat] ++ t)) (by rw [e (by rw [g5]; decide)]))
  refine t_N (b := decide (k = 5)) 0 (by simpa using g5) ?_
  by_cases g7 : k = 7
  · refine t_Y (b := decide (k = 7)) 0 (by simpa using g7) (t_fresh 5 [.int .u8 (IntKind.u8.wrap z)] fun r hr => ?_)
    refine t_sem (convert 179 9 (.slice (some ⟨r, 0, none⟩) 1 1)) (v := .string (txt [UInt8.ofNat z.toNat])) (fun u hu _ => conv1 ⟨_, hu.2⟩ hz) ?_
    exact t_ck hsz (e_r2 (.string (txt [UInt8.ofNat z.toNat] ++ t)) (by rw [e (by rw [g7]; decide)]))
  refine t_N (b := decide (k = 7)) 0 (by simpa using g7) ?_
  have e0 : Pkt.fieldsL ⟨k, s, h, z, t⟩ = [] := by
    have : k = 8 ∨ k = 9 ∨ k = 10 ∨ k = 11 ∨ k = 12 ∨ k = 13 := by omega
    rcases this with rfl | rfl | rfl | rfl | rfl | rfl <;> (unfold Pkt.fieldsL; rw [size_zero (r5 (by decide))]; simp [blockK])
  rw [e0]
  exact t_lit 9 (e_r2 (.string ⟨#[]⟩) rfl)

end Go.Proofs.YtbmpdmomagkkmaaGreatDoor
