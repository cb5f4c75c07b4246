/- Rows of mints put one behind the other, as the library does it. No condition but that they lie in memory. -/
import Derived.Lib.AppendZeros
import Derived.Test.YtabenngcmpjlhaaGreatWK
import Derived.Test.YtabenngcmpjlhaaGreatX2
namespace Go.Proofs.YtabenngcmpjlhaaGreat
open Go.RowKit
theorem app_ms {ops : Array Oper} {rest : List Oper} {o : Oper} {a : Go.Act} {Q : Exit → Go.Act → World → Prop} (hgd : o.guard = none) (s x : Operand)
    (ho : o.op = .call { callee := .builtin .append, args := #[s, x], argTypes := #[46, 46] }) (w : World) (base : Nat) (hbase : base ≤ w.heap.size) (v : Value) (l0 : List Mnt) (hs : a.eval s = v)
    (hown : w.ownsRow base 67 3 v l0.length (cellsM l0)) (A : Option Addr) (n : Nat) (l : List Mnt) (hA : A = none → n = 0) (hx : a.eval x = .slice A l.length n) (hc : Ms w w.heap.size A l) (hl : l0.length + l.length ≤ 1000000)
    (h : ∀ v' w', w'.ownsRow base 67 3 v' (l0 ++ l).length (cellsM (l0 ++ l)) → w.grownBy w' v.ownBlock → wpList Tryz.prog ops Q rest (a.put o.dst v') w') :
    wpList Tryz.prog ops Q (o :: rest) a w := by
  obtain ⟨i0, hi, hz0, hz1, hz2⟩ := info_parts info32
  cases A with
  | none =>
    have hl0 : l = [] := by
      cases l with
      | nil => rfl
      | cons y t => obtain ⟨a', ha', _⟩ := hc 0 y rfl; cases ha'
    subst hl0
    rw [hA rfl] at hx
    rw [List.append_nil] at h
    exact wpList_append_own_none hgd s x 46 ho base 67 i0 3 Tryz.underlying46 hi v _ _ hs hown hx (h _ _ hown ⟨rfl, rfl, rfl, Nat.le_refl _, fun _ _ _ => rfl⟩)
  | some ad =>
    refine wpList_append_own _ hgd s x 46 ho base 67 i0 (.agg #[.int .u64 0, .int .u64 0, .int .i64 0]) 3 24 Tryz.underlying46 hi hz0 hz1 hz2 rfl (by decide) v _ _ hs hown ad l.length n (cellsM l) hx (cellsM_length l) (ms_cells hc)
      (cellsM_one l) (by unfold maxLen; omega) (by omega) hbase fun v' w' hown' hgrow _ => ?_
    rw [← cellsM_append, ← List.length_append] at hown'
    exact h v' w' hown' hgrow
set_option maxRecDepth 100000 in
set_option maxHeartbeats 1000000 in
theorem growM_any (n : Nat) (w : World) (h0 : 0 < n) (h1 : n ≤ 1000000) :
    Calls Tryz.prog 81 #[.slice none 0 0, .int .i64 n] w fun e w' => ∃ v, e = .returned v ∧ w'.ownsRow w.heap.size 67 3 v 0 [] ∧ Below w.heap.size w w' := by
  obtain ⟨i0, hi, hz0, hz1, hz2⟩ := info_parts info32
  have hr := fun ty w => Lib.run_append_nil_zeros (P := Tryz.prog) w 46 3 ty 67 i0 (.agg #[.int .u64 0, .int .u64 0, .int .i64 0]) .i64 .i64 Tryz.underlying46 Tryz.underlying3 hi hz0 n h0 (by rw [hz1]; decide) (by omega) (by rw [hz2]; omega)
  go_enter Tryz.func81, Tryz.ntmps81
  go_wp2_with (at_builtin; refine Lib.wpList_append_run _ rfl _ _ 46 3 rfl (.slice none 0 0) (.int .i64 n) rfl rfl _ _ (hr _ _) ?_)
  have hn := grownCap_ge w n 0 67
  have hm := grownCap_le_maxLen w n 0 67 (by unfold maxLen; omega)
  go_ret
  refine ⟨_, rfl, ⟨by simp, .inr ⟨w.heap.size, grownCap w n 0 67, _, rfl, Nat.le_refl _, heap_alloc_new w _, Nat.zero_le _, hm, ?_, by simp⟩⟩, below1.drew⟩
  rw [Array.size_append, size_zeroCells, size_zeroCells]
  show n * 3 + (grownCap w n 0 67 - n) * 3 = grownCap w n 0 67 * 3
  omega
def twoM (l1 l2 : List Mnt) : Nat → List Mnt
  | 0 => []
  | 1 => l1
  | _ => l1 ++ l2
set_option maxRecDepth 100000 in
set_option maxHeartbeats 2000000 in
theorem concatM_any (b : Nat) (A1 A2 : Option Addr) (n1 n2 : Nat) (l1 l2 : List Mnt) (w : World) (hb : b < w.heap.size) (hv1 : w.cell? ⟨b, 0, none⟩ = some (.slice A1 l1.length n1)) (hv2 : w.cell? ⟨b, 1, none⟩ = some (.slice A2 l2.length n2))
    (h1 : Ms w w.heap.size A1 l1) (h2 : Ms w w.heap.size A2 l2) (ha1 : A1 = none → n1 = 0) (ha2 : A2 = none → n2 = 0) (hl : l1.length + l2.length ≤ 1000000) (h0 : 0 < l1.length + l2.length) :
    Calls Tryz.prog 50 #[.slice (some ⟨b, 0, none⟩) 2 2] w fun e w' => ∃ v, e = .returned v ∧ w'.ownsRow w.heap.size 67 3 v (l1 ++ l2).length (cellsM (l1 ++ l2)) ∧ Below w.heap.size w w' := by
  have hgr := growM_any (l1.length + l2.length) w h0 hl
  rw [Int.natCast_add] at hgr
  have H1 := Lib.hid h1; clear h1
  have H2 := Lib.hid h2; clear h2
  have HA1 := Lib.hid ha1; clear ha1
  have HA2 := Lib.hid ha2; clear ha2
  have HV1 := Lib.hid hv1
  have HV2 := Lib.hid hv2
  have HGR := Lib.hid hgr; clear hgr
  go_enter Tryz.func50, Tryz.ntmps50
  go_wp2
  go_loop [3, 5, 11] (fun z _ i => ∃ k : Nat, k ≤ 2 ∧ i = .int .i64 k ∧ z = .int .i64 (((twoM l1 l2 k).length : Nat) : Int)) (fun _ _ i => 2 - (intOf i).toNat)
  case atStart => exact ⟨0, by omega, rfl, rfl⟩
  case round =>
    obtain ⟨k, hk, rfl, rfl⟩ := hrel
    match k, hk with
    | 0, _ =>
      simp only [twoM, List.length_nil]
      go_wp2
      go_round
      case rel => exact ⟨1, by omega, rfl, by go_num⟩
      case measure => simp [intOf]
    | 1, _ =>
      simp only [twoM]
      go_wp2
      go_round
      case rel => exact ⟨2, by omega, rfl, by simp⟩
      case measure => simp [intOf]
    | 2, _ =>
      simp only [twoM, List.length_append, Int.natCast_add]
      go_wp2_with fail
      refine HGR.out.mono ?_
      rintro e w1 ⟨v, rfl, hown, hb1⟩
      have HO := Lib.hid hown; clear hown
      have HB := Lib.hid hb1; clear hb1
      clear hv1 hv2
      go_wp2
      go_loopw [6, 8, 27] (fun v _ i wr => ∃ k : Nat, k ≤ 2 ∧ i = .int .i64 k ∧ Hid (wr.ownsRow w.heap.size 67 3 v (twoM l1 l2 k).length (cellsM (twoM l1 l2 k))) ∧ Hid (Below w.heap.size w wr)) (fun _ _ i _ => 2 - (intOf i).toNat)
      case atStart => exact ⟨0, by omega, rfl, HO.out, HB.out⟩
      case round =>
        obtain ⟨k, hk, rfl, HO1, HB1⟩ := hrel
        have hv1 := (HB1.out.cell (p := ⟨b, 0, none⟩) hb).trans HV1.out
        have hv2 := (HB1.out.cell (p := ⟨b, 1, none⟩) hb).trans HV2.out
        match k, hk with
        | 0, _ =>
          go_wp2_with (at_builtin; refine app_ms rfl _ _ rfl _ w.heap.size ?c1 _ [] rfl ?c2 A1 n1 l1 ?c3 rfl ?c4 ?c5 ?_)
          case c1 => exact HB1.out.size
          case c2 => exact HO1.out
          case c3 => exact HA1.out
          case c4 => exact H1.out.up HB1.out
          case c5 => simp; omega
          intro v' w4 hown hgrow
          have hb4 := HB1.out.grown hgrow HB1.out.size (own_low HO1.out)
          have HO' := Lib.hid hown; clear hown
          have HB' := Lib.hid hb4; clear hb4
          clear hgrow
          go_wp2
          go_roundw
          case rel => exact ⟨1, by omega, rfl, HO'.out, HB'.out⟩
          case measure => simp [intOf]
        | 1, _ =>
          go_wp2_with (at_builtin; refine app_ms rfl _ _ rfl _ w.heap.size ?c1 _ l1 rfl ?c2 A2 n2 l2 ?c3 rfl ?c4 ?c5 ?_)
          case c1 => exact HB1.out.size
          case c2 => exact HO1.out
          case c3 => exact HA2.out
          case c4 => exact H2.out.up HB1.out
          case c5 => omega
          intro v' w4 hown hgrow
          have hb4 := HB1.out.grown hgrow HB1.out.size (own_low HO1.out)
          replace hown : w4.ownsRow w.heap.size 67 3 v' (l1 ++ l2).length (cellsM (l1 ++ l2)) := by simpa using hown
          have HO' := Lib.hid hown; clear hown
          have HB' := Lib.hid hb4; clear hb4
          clear hgrow
          go_wp2
          go_roundw
          case rel => exact ⟨2, by omega, rfl, HO'.out, HB'.out⟩
          case measure => simp [intOf]
        | 2, _ =>
          go_wp2
          go_ret
          exact ⟨_, rfl, HO1.out, HB1.out⟩
end Go.Proofs.YtabenngcmpjlhaaGreat
