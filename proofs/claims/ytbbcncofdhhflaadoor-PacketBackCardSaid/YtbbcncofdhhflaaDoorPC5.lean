/- Packets: what bytes fill a packet with, by the code's way; it tells as much as the document's. Blocks of fourteen cells. No condition. -/
import Derived.Test.YtbbcncofdhhflaaDoorPC3
import Derived.Test.YtbbcncofdhhflaaDoorPC4
import Derived.Test.YtbbcncofdhhflaaDoorPF
namespace Go.Proofs.YtbbcncofdhhflaaDoor
open Go.RowKit

/-- What bytes fill a packet with. -/
def cpkt (l : List UInt8) : Pkt :=
  if ((l.getD 0 0).toNat : Int) = 1 then ⟨((l.getD 0 0).toNat : Int), num8 l 1, (hdec (txt (l.drop 9))).1, 0, ⟨#[]⟩⟩
  else if 9 < l.length then ⟨((l.getD 0 0).toNat : Int), num8 l 1, Hel.zero, ((l.getD 9 0).toNat : Int), txt (l.drop 10)⟩
  else ⟨((l.getD 0 0).toNat : Int), num8 l 1, Hel.zero, 0, ⟨#[]⟩⟩

theorem cpkt_wide (l : List UInt8) : (cpkt l).wide := by
  unfold cpkt
  by_cases h1 : ((l.getD 0 0).toNat : Int) = 1
  · rw [if_pos h1]; exact ⟨num8_range _ _, hdec_wide2 _⟩
  · rw [if_neg h1]
    by_cases h2 : 9 < l.length
    · rw [if_pos h2]; exact ⟨num8_range _ _, Hel.zero_wide⟩
    · rw [if_neg h2]; exact ⟨num8_range _ _, Hel.zero_wide⟩

theorem drop_short {l : List UInt8} {n : Nat} (h : ¬ n < l.length) : txt (l.drop n) = ⟨#[]⟩ := by
  rw [List.drop_of_length_le (by omega)]
  rfl

/-- Where the document's packet may be, the code's is the same. -/
theorem cpkt_of {l : List UInt8} (hr : (pktOf l).right = true) : cpkt l = pktOf l := by
  obtain ⟨_, _, _, _, _, _, r5⟩ := Pkt.right_parts hr
  unfold cpkt
  unfold pktOf at *
  dsimp only at *
  by_cases h1 : ((l.getD 0 0).toNat : Int) = 1
  · rw [if_pos h1, if_pos h1]
  · rw [if_neg h1] at r5 ⊢
    rw [if_neg h1]
    by_cases h2 : 9 < l.length
    · rw [if_pos h2]
      cases hb : blockK ((l.getD 0 0).toNat : Int)
      · rw [hb] at r5
        rw [show (false && decide (9 < l.length)) = false from rfl, if_neg (by simp)] at r5
        have hd : dataK ((l.getD 0 0).toNat : Int) = false := by
          cases q : dataK ((l.getD 0 0).toNat : Int) with
          | false => rfl
          | true => rw [data_block q] at hb; cases hb
        have := r5 hd
        dsimp only at this
        rw [txt_size, List.length_drop] at this
        omega
      · rw [show (true && decide (9 < l.length)) = true from by rw [decide_eq_true h2]; rfl, if_pos rfl]
    · rw [if_neg h2, if_neg (by rw [decide_eq_false h2]; simp), drop_short h2]

theorem openE_nil : openE ⟨#[]⟩ ≠ 0 := by
  unfold openE
  rw [if_pos (by decide)]
  decide

theorem cpkt_yes {s : ByteArray} (h0 : openE s = 0) (he : (cpkt (openT s).data.toList).encT = s) : decP s = (cpkt (openT s).data.toList, 0) := by
  cases hr : (cpkt (openT s).data.toList).right
  · unfold Pkt.encT at he
    rw [hr, if_neg (by simp)] at he
    rw [← he] at h0
    exact absurd h0 openE_nil
  · have := decP_encT (cpkt_wide (openT s).data.toList) hr
    rw [he] at this
    exact this

theorem cpkt_no {s : ByteArray} (h0 : openE s = 0) (he : ¬ (cpkt (openT s).data.toList).encT = s) : decP s = (Pkt.zero, 2) := by
  have e0 : decP s = pdec (openT s).data.toList := by
    unfold decP
    rw [if_pos h0]
  rw [e0]
  refine pdec_zero fun e => he ?_
  have hd : (decP s).2 = 0 := by rw [e0]; exact e
  obtain ⟨h1, _, h3⟩ := encT_decP hd
  have e1 : (decP s).1 = pktOf (openT s).data.toList := by
    rw [e0]
    unfold pdec at e ⊢
    by_cases hf : pformed (openT s).data.toList = true
    · rw [if_pos hf]
    · rw [if_neg hf] at e
      cases e
  rw [e1] at h1 h3
  rw [cpkt_of h1]
  exact h3

/-- A hello that isn't formed makes no packet. -/
theorem decP_nohel {s : ByteArray} (h0 : openE s = 0) (h1 : (((openT s).data.toList.getD 0 0).toNat : Int) = 1) (h2 : (hdec (txt ((openT s).data.toList.drop 9))).2 ≠ 0) : decP s = (Pkt.zero, 2) := by
  unfold decP
  rw [if_pos h0]
  refine pdec_zero fun e => ?_
  obtain ⟨r1, _, _⟩ := body_pdec e
  have e1 : (pdec (openT s).data.toList).1 = pktOf (openT s).data.toList := by
    unfold pdec at e ⊢
    by_cases hf : pformed (openT s).data.toList = true
    · rw [if_pos hf]
    · rw [if_neg hf] at e
      cases e
  rw [e1] at r1
  have hp : (pktOf (openT s).data.toList).k = 1 ∧ (pktOf (openT s).data.toList).h = Hel.zero := by
    unfold pktOf
    dsimp only
    rw [if_pos h1]
    exact ⟨h1, hdec_zero _ h2⟩
  unfold Pkt.right at r1
  rw [hp.1, hp.2, if_pos rfl, show Hel.zero.right = false from by decide] at r1
  simp at r1

theorem hdec_number (x : ByteArray) (h : (hdec x).2 ≠ 0) : (hdec x).2 = 2 := by
  unfold hdec at *
  by_cases hf : hformed x.data.toList = true
  · rw [if_pos hf] at h; exact absurd rfl h
  · rw [if_neg hf]

theorem Own.fourteen {w : World} {b : Nat} (h : Own w b 14) : ∃ u0 u1 u2 u3 u4 u5 u6 u7 u8 u9 u10 u11 u12 u13, Box w b [u0, u1, u2, u3, u4, u5, u6, u7, u8, u9, u10, u11, u12, u13] := by
  obtain ⟨vs, hl, hx⟩ := h
  match vs, hl with
  | [u0, u1, u2, u3, u4, u5, u6, u7, u8, u9, u10, u11, u12, u13], _ => exact ⟨_, _, _, _, _, _, _, _, _, _, _, _, _, _, hx⟩

theorem Box.fourteen {w : World} {b : Nat} {u0 u1 u2 u3 u4 u5 u6 u7 u8 u9 u10 u11 u12 u13 : Value} (h : Box w b [u0, u1, u2, u3, u4, u5, u6, u7, u8, u9, u10, u11, u12, u13]) (v0 v1 v2 v3 v4 v5 v6 v7 v8 v9 v10 v11 v12 v13 : Value) : Box ((((((((((((((w.setCell ⟨b, 0, none⟩ v0).setCell ⟨b, 1, none⟩ v1).setCell ⟨b, 2, none⟩ v2).setCell ⟨b, 3, none⟩ v3).setCell ⟨b, 4, none⟩ v4).setCell ⟨b, 5, none⟩ v5).setCell ⟨b, 6, none⟩ v6).setCell ⟨b, 7, none⟩ v7).setCell ⟨b, 8, none⟩ v8).setCell ⟨b, 9, none⟩ v9).setCell ⟨b, 10, none⟩ v10).setCell ⟨b, 11, none⟩ v11).setCell ⟨b, 12, none⟩ v12).setCell ⟨b, 13, none⟩ v13) b [v0, v1, v2, v3, v4, v5, v6, v7, v8, v9, v10, v11, v12, v13] :=
  (((((((((((((h.set 0 v0).set 1 v1).set 2 v2).set 3 v3).set 4 v4).set 5 v5).set 6 v6).set 7 v7).set 8 v8).set 9 v9).set 10 v10).set 11 v11).set 12 v12).set 13 v13

section
variable {P : Program} {ops : Array Oper} {Q : Exit → Act → World → Prop} {md : Region.Mode}

theorem stored14 {W0 w : World} {L : List (Nat × List Value)} {M : List (Nat × Nat)} {b fuel : Nat} {listed : Array Bool} {a : Act} {u0 u1 u2 u3 u4 u5 u6 u7 u8 u9 u10 u11 u12 u13 v0 v1 v2 v3 v4 v5 v6 v7 v8 v9 v10 v11 v12 v13 : Value} (h : Held W0 L M w) (hb : ∃ n, (b, n) ∈ M) (hx : Box w b [u0, u1, u2, u3, u4, u5, u6, u7, u8, u9, u10, u11, u12, u13])
    (H : ∀ v, Held W0 L M v → Box v b [v0, v1, v2, v3, v4, v5, v6, v7, v8, v9, v10, v11, v12, v13] → wpAnyH P md ops Q (Held W0 L M) fuel listed a v) : wpAnyH P md ops Q (Held W0 L M) fuel listed a ((((((((((((((w.setCell ⟨b, 0, none⟩ v0).setCell ⟨b, 1, none⟩ v1).setCell ⟨b, 2, none⟩ v2).setCell ⟨b, 3, none⟩ v3).setCell ⟨b, 4, none⟩ v4).setCell ⟨b, 5, none⟩ v5).setCell ⟨b, 6, none⟩ v6).setCell ⟨b, 7, none⟩ v7).setCell ⟨b, 8, none⟩ v8).setCell ⟨b, 9, none⟩ v9).setCell ⟨b, 10, none⟩ v10).setCell ⟨b, 11, none⟩ v11).setCell ⟨b, 12, none⟩ v12).setCell ⟨b, 13, none⟩ v13) :=
  H _ (h.set14 hb v0 v1 v2 v3 v4 v5 v6 v7 v8 v9 v10 v11 v12 v13) (hx.fourteen v0 v1 v2 v3 v4 v5 v6 v7 v8 v9 v10 v11 v12 v13)
end
end Go.Proofs.YtbbcncofdhhflaaDoor
