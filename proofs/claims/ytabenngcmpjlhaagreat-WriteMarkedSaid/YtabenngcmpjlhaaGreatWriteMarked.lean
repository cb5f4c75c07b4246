/- For every number of blocks, every row of up to 60 events (of texts of up to 300 bytes and up to 100 keeps; beyond that the law says nothing), either side, every id and block, and every fuse: whatever was laid is marked on that disk, wherever its fuse ended it, and an answer OK stands behind data that are sure; the call returns true and leaves its arguments as they were. No other condition. -/
import Derived.ProofKit
import Derived.Test.YtabenngcmpjlhaaGreatWL
import Derived.Test.YtabenngcmpjlhaaGreatCO17
namespace Go.Proofs.YtabenngcmpjlhaaGreat
open Go.ChangeShapes Go.WideShapes Go.ChangeAt Go.RowKit
open Go.ChangeMaps (open_string shut_string)
theorem writeMarked_own : ownKnob Tryz.prog.godebug = none := by kernel_rfl
set_option maxRecDepth 100000 in
theorem writeMarked_lifted (os : Go.Os) (started : os.Started) (H : Type) (enc : TypeId × Value → H) :
    ReturnsInHanded {} Tryz.checked os 3 .any (Rows.writeMarkedSpec.pre6 enc Tryz.prog Tryz.f3 Rows.writeMarkedRow.domain false) (Rows.writeMarkedSpec.post enc Tryz.prog Tryz.f3 false true false false) := by
  refine returnsInHanded_of_change (C := Tryz.checked) writeMarked_own started (by kernel_rfl) Tryz.func3
    (ChangeSpec.witness6 (enc := enc) (C := Tryz.checked) false ⟨#[], #[.agg #[.int .u8 0, .slice none 0 0, .bool false], .agg #[.int .i64 0, .int .i64 0], .int .u8 0], []⟩ 8 (by kernel_rfl) (by kernel_rfl) (by kernel_rfl) (by kernel_rfl)) ?_
  intro W base args ds gs before hval0 hW _ _
  have hval : ∀ (j : Nat) t v, Tryz.f3.params[j]? = some t → args[j]? = some v → Value.okWide Tryz.prog W .any base t v := hval0
  have hW' := hW
  obtain ⟨p, q, hA0, hV, rfl, _, _⟩ := hW
  have hA : DataW.TrodAll enc Tryz.prog W 0 (fun _ => true) true Tryz.f3.params.toList args.toList ds p := hA0
  rw [Tryz.params3] at hA hval
  obtain ⟨v0, vs0, d0, ds0, p0, q0, ha0, rfl, rfl, h0, r0⟩ := trodAll_cons hA
  obtain ⟨v1, vs1, d1, ds1, p1, q1, ha1, rfl, rfl, h1, r1⟩ := trodAll_cons r0
  obtain ⟨v2, vs2, d2, ds2, p2, q2, ha2, rfl, rfl, h2, r2⟩ := trodAll_cons r1
  obtain ⟨rfl, rfl, rfl⟩ := trodAll_nil r2
  subst ha1
  subst ha2
  obtain rfl : args = #[v0, v1, v2] := by cases args; simp_all
  obtain ⟨rfl, rfl⟩ := trodVars_none hV
  obtain ⟨bx, Ax, kx, lx, sx, rfl, hbx, hcx, hex, hwx⟩ := eopen_case17 (hval 0 24 v0 rfl rfl) h0
  obtain ⟨ti, tj, rfl⟩ := eopen_two (hval 1 25 v1 rfl rfl) h1
  obtain ⟨c, rfl, rfl, rfl, wc⟩ := open_int Tryz.underlying5 (hval 2 5 v2 rfl rfl) h2
  have bc := bounds_u8 wc
  clear hA0 hval0
  refine (marked_law bx Ax kx lx sx ti tj c W ⟨hbx, hcx, hwx, hex⟩ (by omega)).mono fun e W' ⟨he, hw⟩ => ?_
  subst he
  exact ⟨_, rfl, law_post (by kernel_rfl) (by kernel_rfl) rfl (by kernel_rfl) Tryz.underlying4 hW' rfl hw⟩
theorem writeMarked_k1 : laidOutB Tryz.pinned.checked.prog = true := by kernel_rfl
theorem writeMarked_k2 : mapsRowed Tryz.pinned.checked.prog = true := by kernel_rfl
theorem writeMarked_k3 : (Rows.writeMarkedRow.inPlace == Tryz.pinned.checked.prog.inPlace 3) = true := by kernel_rfl
theorem writeMarked_k4 : (Rows.writeMarkedRow.unfollowed == Tryz.pinned.checked.prog.unfollowed 3) = true := by kernel_rfl
theorem writeMarked_k5 : (Rows.writeMarkedRow.recurses == Tryz.pinned.checked.prog.recurses 3) = true := by kernel_rfl
theorem writeMarked_k6 : (Rows.writeMarkedRow.named == Tryz.pinned.checked.prog.varsNamed 3) = true := by kernel_rfl
theorem writeMarked_closed : joinedFacts Tryz.pinned.checked.prog 3 Tryz.f3 Rows.writeMarkedSpec Rows.writeMarkedRow = true := by
  unfold joinedFacts
  rw [writeMarked_k1, writeMarked_k2, writeMarked_k3, writeMarked_k4, writeMarked_k5, writeMarked_k6]
  kernel_rfl
theorem writeMarked_holds : Rows.WriteMarkedSaid :=
  OpenClaim.holds_of_wide 3 Tryz.f3 rfl rfl rfl rfl rfl rfl rfl ⟨rfl, rfl, rfl, rfl, rfl⟩ rfl rfl rfl rfl rfl (by kernel_rfl) Tryz.func3 writeMarked_closed
    (of_decide_eq_true (by kernel_rfl)) (by unfold Func.isWrapper; first | (rw [if_pos (by decide +kernel)]; kernel_rfl) | (rw [if_neg (by decide +kernel)]; exact ⟨rfl, rfl⟩))
    (fun os started H enc _ => writeMarked_lifted os started H enc)
end Go.Proofs.YtabenngcmpjlhaaGreat
