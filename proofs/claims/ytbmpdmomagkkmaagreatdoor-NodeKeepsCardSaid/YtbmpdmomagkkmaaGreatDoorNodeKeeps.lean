/- For every number of blocks, every row of up to 60 events (of texts of up to 300 bytes and up to 100 keeps; beyond that the law says nothing), either side and every id: a node keeps its number, its draws and its mints, whatever becomes of its role; the call returns true and leaves its arguments as they were. Conditions: the package variables gemination/super.errShape and errors.errorType lie as their initialisers lay them (tied to the text by the card); the card speaks of the pruned copy that holds the packages that the roots load. -/
import Derived.Test.YtbmpdmomagkkmaaGreatDoorXO
import Derived.Test.YtbmpdmomagkkmaaGreatDoorCOpen
import Derived.Test.YtbmpdmomagkkmaaGreatDoorKO
import Derived.Test.YtbmpdmomagkkmaaGreatDoorTie
import Derived.Test.YtbmpdmomagkkmaaGreatDoorCards
import Derived.SevenTiedAt
namespace Go.Proofs.YtbmpdmomagkkmaaGreatDoor
open Go.ChangeShapes Go.WideShapes Go.ChangeAt Go.RowKit
open Go.ChangeMaps (open_string shut_string)

theorem nodeKeeps_own : ownKnob Tryz.prog.godebug = none := by kernel_rfl

set_option maxRecDepth 100000 in
theorem nodeKeeps_lifted (os : Go.Os) (started : os.Started) (H : Type) (enc : TypeId × Value → H) :
    ReturnsInHanded {} Tryz.checked os 7 .any (fun w args => (Rows.nodeKeepsSpec.pre enc Tryz.prog Tryz.f7 [] false w args ∧ laidMetH Tryz.prog laid1 w) ∧ sizedMet enc Tryz.prog Tryz.f7 (OpenSpec.ofChange Rows.nodeKeepsSpec) false w args)
      (Rows.nodeKeepsSpec.post enc Tryz.prog Tryz.f7 false true false false) := by
  refine returnsInHanded_of_change_and (C := Tryz.checked) (X := fun w _ => laidMetH Tryz.prog laid1 w) (fun _ _ _ hh h => h.of_heap hh) nodeKeeps_own started (by kernel_rfl) Tryz.func7
    (ChangeSpec.witness_shaped (enc := enc) (C := Tryz.checked) (os := os) (X := fun w _ => laidMetH Tryz.prog laid1 w) false (World.doorLaid Tryz.prog 40 os) #[.agg #[.int .u8 0, .slice none 0 0, .bool false], .int .i64 0] 8 rfl (World.shaped_of_RefB (by kernel_rfl) (by kernel_rfl)) (by kernel_rfl) (by kernel_rfl) (by kernel_rfl) (door_met os _)) ?_
  intro W base args ds gs before hval0 hW _ _ hL _
  have hval : ∀ (j : Nat) t v, Tryz.f7.params[j]? = some t → args[j]? = some v → Value.okWide Tryz.prog W .any base t v := hval0
  have hW' := hW
  obtain ⟨p, q, hA0, hV, rfl, _, _⟩ := hW
  have hA : DataW.TrodAll enc Tryz.prog W 0 (fun _ => true) true Tryz.f7.params.toList args.toList ds p := hA0
  rw [Tryz.params7] at hA hval
  obtain ⟨v0, vs0, d0, ds0, p0, q0, ha0, rfl, rfl, h0, r0⟩ := trodAll_cons hA
  obtain ⟨v1, vs1, d1, ds1, p1, q1, ha1, rfl, rfl, h1, r1⟩ := trodAll_cons r0
  obtain ⟨rfl, rfl, rfl⟩ := trodAll_nil r1
  subst ha1
  obtain rfl : args = #[v0, v1] := by cases args; simp_all
  obtain ⟨rfl, rfl⟩ := trodVars_none hV
  obtain ⟨bx, Ax, kx, lx, sx, rfl, hbx, hcx, hex, hwx⟩ := eopen_case (hval 0 24 v0 rfl rfl) h0
  obtain ⟨b, rfl, rfl, rfl, wb⟩ := open_int Tryz.underlying3 (hval 1 3 v1 rfl rfl) h1
  have bb := bounds_i64 wb
  obtain ⟨ga, hg⟩ := glob_of hL
  clear hA0 hval0
  refine (keeps_law bx Ax kx lx sx b ga W ⟨hbx, hcx, hwx, hex⟩ hg).mono fun e W' ⟨he, hw⟩ => ?_
  subst he
  exact ⟨_, rfl, law_post (by kernel_rfl) (by kernel_rfl) rfl (by kernel_rfl) Tryz.underlying4 hW' rfl hw⟩

theorem nodeKeeps_k1 : laidOutB Tryz.pinned.checked.prog = true := by kernel_rfl

theorem nodeKeeps_k2 : mapsRowed Tryz.pinned.checked.prog = true := by kernel_rfl

theorem nodeKeeps_k3 : (Rows.nodeKeepsRow.inPlace == Tryz.pinned.checked.prog.inPlace 7) = true := by kernel_rfl

theorem nodeKeeps_k4 : (Rows.nodeKeepsRow.unfollowed == Tryz.pinned.checked.prog.unfollowed 7) = true := by kernel_rfl

theorem nodeKeeps_k5 : (Rows.nodeKeepsRow.recurses == Tryz.pinned.checked.prog.recurses 7) = true := by kernel_rfl

theorem nodeKeeps_k6 : (Rows.nodeKeepsRow.named == Tryz.pinned.checked.prog.varsNamed 7) = true := by kernel_rfl

theorem nodeKeeps_closed : joinedFacts Tryz.pinned.checked.prog 7 Tryz.f7 Rows.nodeKeepsSpec Rows.nodeKeepsRow = true := by
  unfold joinedFacts
  rw [nodeKeeps_k1, nodeKeeps_k2, nodeKeeps_k3, nodeKeeps_k4, nodeKeeps_k5, nodeKeeps_k6]
  kernel_rfl

theorem nodeKeeps_row : Rows.NodeKeepsSaid :=
  OpenClaim.holds_of_wide 7 Tryz.f7 rfl rfl rfl rfl rfl rfl rfl ⟨rfl, rfl, rfl, rfl, rfl⟩ rfl rfl rfl rfl rfl (by kernel_rfl) Tryz.func7 nodeKeeps_closed
    (of_decide_eq_true (by kernel_rfl)) (by unfold Func.isWrapper; first | (rw [if_pos (by decide +kernel)]; kernel_rfl) | (rw [if_neg (by decide +kernel)]; exact ⟨rfl, rfl⟩))
    (fun os started H enc _ => nodeKeeps_lifted os started H enc)

theorem nodeKeeps_holds : Rows.NodeKeepsCardSaid :=
  Claim7.holds_tied_plain_at .later [] [.handle, .sentinel] true (true, "fac14d2d4b594b97c6412da75a4a249821f998ced097e4b2d8659f5861c7baff") true
    nodeKeeps_row (fun _ h => by cases h) (by kernel_rfl) (fun _ h => by cases h) nodeKeeps_row_tie rfl ⟨rfl, rfl⟩ (by kernel_rfl) rfl
    (fun f fn hf hfn => by
      obtain rfl : f = 7 := Option.some.inj ((show Tryz.prog.funcNamed "gemination/geminationlaw16.NodeKeeps" = some 7 by kernel_rfl).symm.trans hf) |>.symm
      obtain rfl : fn = Tryz.f7 := (Option.some.inj (Tryz.func7.symm.trans hfn)).symm
      exact ⟨by kernel_rfl, fun j t ht => by
        rw [Tryz.params7] at ht
        have hm : t ∈ [24, 3] := by simpa using Array.mem_of_getElem? ht
        have hall : ([24, 3].all fun u => !Tryz.prog.wantsStandIn u) = true := by kernel_rfl
        exact (show Tryz.prog.wantsStandIn t = false by simpa using List.all_eq_true.1 hall t hm)⟩)
    (by kernel_rfl)
end Go.Proofs.YtbmpdmomagkkmaaGreatDoor
