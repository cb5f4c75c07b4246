/- For every number of blocks, every row of up to 60 events (of texts of up to 300 bytes and up to 100 keeps; beyond that the law says nothing), either side, every id and block, and every text of up to 100 bytes (beyond that the law says nothing): alone a node mints at its first write since its session, of its first draw, and not again; the call returns true and leaves its arguments as they were. No other condition. -/
import Derived.ProofKit
import Derived.Test.YtabenngcmpjlhaaGreatWL
import Derived.Test.YtabenngcmpjlhaaGreatCO17
namespace Go.Proofs.YtabenngcmpjlhaaGreat
open Go.ChangeShapes Go.WideShapes Go.ChangeAt Go.RowKit
open Go.ChangeMaps (open_string shut_string)
theorem writeMints_own : ownKnob Tryz.prog.godebug = none := by kernel_rfl
set_option maxRecDepth 100000 in
theorem writeMints_lifted (os : Go.Os) (started : os.Started) (H : Type) (enc : TypeId × Value → H) :
    ReturnsInHanded {} Tryz.checked os 4 .any (Rows.writeMintsSpec.pre6 enc Tryz.prog Tryz.f4 Rows.writeMintsRow.domain false) (Rows.writeMintsSpec.post enc Tryz.prog Tryz.f4 false true false false) := by
  refine returnsInHanded_of_change (C := Tryz.checked) writeMints_own started (by kernel_rfl) Tryz.func4
    (ChangeSpec.witness6 (enc := enc) (C := Tryz.checked) false ⟨#[], #[.agg #[.int .u8 0, .slice none 0 0, .bool false], .agg #[.int .i64 0, .int .i64 0], .string ⟨#[]⟩], []⟩ 8 (by kernel_rfl) (by kernel_rfl) (by kernel_rfl) (by kernel_rfl)) ?_
  intro W base args ds gs before hval0 hW _ _
  have hval : ∀ (j : Nat) t v, Tryz.f4.params[j]? = some t → args[j]? = some v → Value.okWide Tryz.prog W .any base t v := hval0
  have hW' := hW
  obtain ⟨p, q, hA0, hV, rfl, _, _⟩ := hW
  have hA : DataW.TrodAll enc Tryz.prog W 0 (fun _ => true) true Tryz.f4.params.toList args.toList ds p := hA0
  rw [Tryz.params4] at hA hval
  obtain ⟨v0, vs0, d0, ds0, p0, q0, ha0, rfl, rfl, h0, r0⟩ := trodAll_cons hA
  obtain ⟨v1, vs1, d1, ds1, p1, q1, ha1, rfl, rfl, h1, r1⟩ := trodAll_cons r0
  obtain ⟨v2, vs2, d2, ds2, p2, q2, ha2, rfl, rfl, h2, r2⟩ := trodAll_cons r1
  obtain ⟨rfl, rfl, rfl⟩ := trodAll_nil r2
  subst ha1
  subst ha2
  obtain rfl : args = #[v0, v1, v2] := by cases args; simp_all
  obtain ⟨rfl, rfl⟩ := trodVars_none hV
  obtain ⟨bx, Ax, kx, lx, sx, rfl, hbx, hcx, hex, hwx⟩ := eopen_case17 (hval 0 24 v0 rfl rfl) h0
  obtain ⟨ti, tj, rfl⟩ := eopen_two (hval 1 25 v1 rfl rfl) h1
  obtain ⟨c, rfl, rfl, rfl, wc⟩ := open_string Tryz.underlying9 (hval 2 9 v2 rfl rfl) h2
  clear hA0 hval0
  refine (mints_law bx Ax kx lx sx ti tj c W ⟨hbx, hcx, hwx, hex⟩).mono fun e W' ⟨he, hw⟩ => ?_
  subst he
  exact ⟨_, rfl, law_post (by kernel_rfl) (by kernel_rfl) rfl (by kernel_rfl) Tryz.underlying4 hW' rfl hw⟩
theorem writeMints_k1 : laidOutB Tryz.pinned.checked.prog = true := by kernel_rfl
theorem writeMints_k2 : mapsRowed Tryz.pinned.checked.prog = true := by kernel_rfl
theorem writeMints_k3 : (Rows.writeMintsRow.inPlace == Tryz.pinned.checked.prog.inPlace 4) = true := by kernel_rfl
theorem writeMints_k4 : (Rows.writeMintsRow.unfollowed == Tryz.pinned.checked.prog.unfollowed 4) = true := by kernel_rfl
theorem writeMints_k5 : (Rows.writeMintsRow.recurses == Tryz.pinned.checked.prog.recurses 4) = true := by kernel_rfl
theorem writeMints_k6 : (Rows.writeMintsRow.named == Tryz.pinned.checked.prog.varsNamed 4) = true := by kernel_rfl
theorem writeMints_closed : joinedFacts Tryz.pinned.checked.prog 4 Tryz.f4 Rows.writeMintsSpec Rows.writeMintsRow = true := by
  unfold joinedFacts
  rw [writeMints_k1, writeMints_k2, writeMints_k3, writeMints_k4, writeMints_k5, writeMints_k6]
  kernel_rfl
theorem writeMints_holds : Rows.WriteMintsSaid :=
  OpenClaim.holds_of_wide 4 Tryz.f4 rfl rfl rfl rfl rfl rfl rfl ⟨rfl, rfl, rfl, rfl, rfl⟩ rfl rfl rfl rfl rfl (by kernel_rfl) Tryz.func4 writeMints_closed
    (of_decide_eq_true (by kernel_rfl)) (by unfold Func.isWrapper; first | (rw [if_pos (by decide +kernel)]; kernel_rfl) | (rw [if_neg (by decide +kernel)]; exact ⟨rfl, rfl⟩))
    (fun os started H enc _ => writeMints_lifted os started H enc)
end Go.Proofs.YtabenngcmpjlhaaGreat
