/- Packets: parse put together, by the code; for every text of up to three thousand bytes. No other condition. -/
import Derived.Test.YtbbcncofdhhflaaDoorPC6
namespace Go.Proofs.YtbbcncofdhhflaaDoor
open Go.RowKit

theorem num_at (t : ByteArray) (h9 : 9 ≤ t.size) (w : World) : Calls Tryd.prog 43 #[.string (t.extract 1 9)] w fun e w' => e = .returned (.tuple #[.int .u64 (num8 t.data.toList 1), .bool true]) ∧ Below w.heap.size w w' := by
  have := get64_b (t.extract 1 9) w (extract8 t 1 (by omega))
  rw [extract_num8 t 1] at this
  exact this

theorem ctail_txt (t : ByteArray) (k : Nat) : t.extract k t.size = txt (t.data.toList.drop k) := by
  have e : (t.extract k t.size).data.toList = t.data.toList.drop k := by
    obtain ⟨⟨l⟩⟩ := t
    simp [List.extract, ByteArray.size]
    exact List.take_of_length_le (by simp)
  rw [← e, txt_of]

/-- Where fill answers a packet. -/
theorem ppa_pkt (s : ByteArray) (hs : (s.size : Int) ≤ 3000) (h0 : openE s = 0) (h9 : 9 ≤ (openT s).size) (hf : ∀ w, Calls Tryd.prog 44 #[.agg #[.int .i64 (((openT s).data.toList.getD 0 0).toNat : Int), .int .u64 (num8 (openT s).data.toList 1), .int .i64 0, .int .u64 0, .int .u64 0, .int .u64 0, .int .u64 0, .bool false, .bool false, .bool false, .bool false, .int .u32 0, .int .i64 0, .string ⟨#[]⟩], .string ((openT s).extract 9 (openT s).size)] w fun e w' => e = .returned (.tuple #[pktV (cpkt (openT s).data.toList), .nilIface]) ∧ Below w.heap.size w w') :
    ∃ v, PErr v (decP s).2 ∧ ∀ w, Calls Tryd.prog 28 #[.string s] w fun e w' => e = .returned (.tuple #[pktV (decP s).1, v]) ∧ Below w.heap.size w w' := by
  have ho := fun w => open_any s w hs
  rw [h0] at ho
  have hts := openT_size s
  have hg := num_at (openT s) h9
  have hk : (((openT s)[0]'(by omega)).toNat : Int) = (((openT s).data.toList.getD 0 0).toNat : Int) := by rw [at_txt (openT s) 0 (by omega)]
  have hkr : 0 ≤ (((openT s).data.toList.getD 0 0).toNat : Int) ∧ (((openT s).data.toList.getD 0 0).toNat : Int) < 256 := ⟨by omega, by have := ((openT s).data.toList.getD 0 0).toNat_lt; omega⟩
  have he := fun w => pencode_any (cpkt (openT s).data.toList) w (cpkt_wide _)
  by_cases hq : (cpkt (openT s).data.toList).encT = s
  · have hc : ((cpkt (openT s).data.toList).encT.toList == s.toList) = true := by rw [hq]; simp
    rw [cpkt_yes h0 hq]
    refine ⟨.nilIface, Or.inl ⟨rfl, rfl⟩, fun w => ?_⟩
    clear hq
    generalize cpkt (openT s).data.toList = x at *
    generalize x.encT = own at *
    generalize x.encE = eo at *
    obtain ⟨k2, l2, ⟨n, c, b, o, p, i, r, d, q, m⟩, z, y⟩ := x
    exact ppa_ok s (openT s) _ _ w ho h9 hg hk hkr _ rfl (by omega) k2 l2 n c b o p i r d q m z y own eo hf he hc
  · have hc : ((cpkt (openT s).data.toList).encT.toList == s.toList) = false := by
      rw [beq_eq_false_iff_ne, ByteArray.toList_eq, ByteArray.toList_eq]
      intro e
      exact hq (by rw [← txt_of (cpkt (openT s).data.toList).encT, e, txt_of])
    rw [cpkt_no h0 hq]
    refine ⟨.iface 65 (.agg #[.string ⟨#[107, 105, 110, 100, 32, 111, 114, 32, 102, 105, 101, 108, 100, 115]⟩, .iface 32 (.int .i64 2)]), Or.inr ⟨_, rfl⟩, fun w => ?_⟩
    clear hq
    generalize cpkt (openT s).data.toList = x at *
    generalize x.encT = own at *
    generalize x.encE = eo at *
    obtain ⟨k2, l2, ⟨n, c, b, o, p, i, r, d, q, m⟩, z, y⟩ := x
    exact ppa_diff s (openT s) _ _ w ho h9 hg hk hkr _ rfl (by omega) k2 l2 n c b o p i r d q m z y own eo hf he hc

theorem pparse_any (s : ByteArray) (hs : (s.size : Int) ≤ 3000) :
    ∃ v, PErr v (decP s).2 ∧ ∀ w, Calls Tryd.prog 28 #[.string s] w fun e w' => e = .returned (.tuple #[pktV (decP s).1, v]) ∧ Below w.heap.size w w' := by
  have ho := fun w => open_any s w hs
  have hts := openT_size s
  by_cases h0 : openE s = 0
  · by_cases h9 : 9 ≤ (openT s).size
    · have htl := ctail_txt (openT s) 9
      by_cases h1 : (((openT s).data.toList.getD 0 0).toNat : Int) = 1
      · have hd := fun w => hdecode_any ((openT s).extract 9 (openT s).size) w
        by_cases hh : (hdec ((openT s).extract 9 (openT s).size)).2 = 0
        · refine ppa_pkt s hs h0 h9 fun w => ?_
          have ec : cpkt (openT s).data.toList = ⟨1, num8 (openT s).data.toList 1, (hdec ((openT s).extract 9 (openT s).size)).1, 0, ⟨#[]⟩⟩ := by
            unfold cpkt
            rw [if_pos h1, ← htl, h1]
          rw [hh] at hd
          rw [ec, h1]
          generalize (hdec ((openT s).extract 9 (openT s).size)).1 = x at *
          obtain ⟨n, c, b, o, p, i, r, d, q, m⟩ := x
          exact pfl_hel _ _ n c b o p i r d q m w hd
        · have e2 := hdec_number _ hh
          rw [decP_nohel h0 h1 (by rw [← htl]; exact hh)]
          refine ⟨.iface 65 (.agg #[.string ⟨#[104, 101, 108, 108, 111]⟩, .iface 32 (.int .i64 2)]), Or.inr ⟨_, rfl⟩, fun w => ?_⟩
          rw [h0] at ho
          rw [e2] at hd
          have hg := num_at (openT s) h9
          have hk : (((openT s)[0]'(by omega)).toNat : Int) = 1 := by rw [at_txt (openT s) 0 (by omega)]; exact h1
          generalize (hdec ((openT s).extract 9 (openT s).size)).1 = x at *
          obtain ⟨n, c, b, o, p, i, r, d, q, m⟩ := x
          exact ppa_bad s (openT s) _ _ w ho h9 hg hk (by omega) _ rfl (by omega) _ _ (fun w => pfl_bad _ _ n c b o p i r d q m 2 w hd (by decide))
      · refine ppa_pkt s hs h0 h9 fun w => ?_
        by_cases h10 : 9 < (openT s).size
        · have ec : cpkt (openT s).data.toList = ⟨(((openT s).data.toList.getD 0 0).toNat : Int), num8 (openT s).data.toList 1, Hel.zero, (((openT s).data.toList.getD 9 0).toNat : Int), txt ((openT s).data.toList.drop 10)⟩ := by
            unfold cpkt
            rw [if_neg h1, if_pos (show 9 < (openT s).data.toList.length from h10)]
          rw [ec]
          have hp : 0 < ((openT s).extract 9 (openT s).size).size := by simp; omega
          refine pfl_two _ _ _ _ (((openT s).data.toList.getD 9 0).toNat : Int) w h1 hp (by simp; omega) ⟨by omega, by have := ((openT s).data.toList.getD 9 0).toNat_lt; omega⟩ ?_ ?_
          · rw [at_txt ((openT s).extract 9 (openT s).size) 0 hp, htl, txt_data]
            congr 2
            rw [List.getD_eq_getElem?_getD, List.getD_eq_getElem?_getD, List.getElem?_drop]
          · rw [ctail_txt ((openT s).extract 9 (openT s).size) 1, htl, txt_data, List.drop_drop]
        · have ec : cpkt (openT s).data.toList = ⟨(((openT s).data.toList.getD 0 0).toNat : Int), num8 (openT s).data.toList 1, Hel.zero, 0, ⟨#[]⟩⟩ := by
            unfold cpkt
            rw [if_neg h1, if_neg (show ¬ 9 < (openT s).data.toList.length from h10)]
          rw [ec]
          exact pfl_nil _ _ _ w h1 (by simp; omega)
    · have e1 : decP s = (Pkt.zero, 2) := by
        unfold decP pdec pformed
        rw [if_pos h0, decide_eq_false (show ¬ 9 ≤ (openT s).data.toList.length from h9)]
        rfl
      rw [e1]
      refine ⟨.iface 65 (.agg #[.string ⟨#[108, 101, 110, 103, 116, 104]⟩, .iface 32 (.int .i64 2)]), Or.inr ⟨_, rfl⟩, fun w => ?_⟩
      rw [h0] at ho
      exact ppa_short s (openT s) w ho (by omega)
  · have e1 : decP s = (Pkt.zero, openE s) := by
      unfold decP
      rw [if_neg h0]
    rw [e1]
    exact ⟨.iface 65 (.agg #[.string ⟨#[115, 101, 97, 108]⟩, .iface 32 (.int .i64 (openE s))]), Or.inr ⟨_, rfl⟩, fun w => ppa_open s (openT s) (openE s) w ho (bne_iff_ne.2 h0)⟩
end Go.Proofs.YtbbcncofdhhflaaDoor
