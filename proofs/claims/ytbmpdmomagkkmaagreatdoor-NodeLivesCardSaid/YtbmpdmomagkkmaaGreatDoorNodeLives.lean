/- For every two cases (numbers of blocks, rows of up to 60 events of texts of up to 300 bytes and up to 100 keeps, and sides; beyond that the law says nothing) and up to 50 keeps: any node that goes down, and comes up, is the document's answer, two nodes are told the same as the document tells it, and whoever goes down comes up, alone, and no primary; the call returns true and leaves its arguments as they were. Conditions: the package variables gemination/super.errShape and errors.errorType lie as their initialisers lay them (tied to the text by the card); the card speaks of the pruned copy that holds the packages that the roots load. -/
import Derived.Test.YtbmpdmomagkkmaaGreatDoorXN
import Derived.Test.YtbmpdmomagkkmaaGreatDoorCOpen
import Derived.Test.YtbmpdmomagkkmaaGreatDoorKO
import Derived.Test.YtbmpdmomagkkmaaGreatDoorTie
import Derived.Test.YtbmpdmomagkkmaaGreatDoorCards
import Derived.SevenTiedAt
namespace Go.Proofs.YtbmpdmomagkkmaaGreatDoor
open Go.ChangeShapes Go.WideShapes Go.ChangeAt Go.RowKit
open Go.ChangeMaps (open_string shut_string)

theorem nodeLives_own : ownKnob Tryz.prog.godebug = none := by kernel_rfl

set_option maxRecDepth 100000 in
theorem nodeLives_lifted (os : Go.Os) (started : os.Started) (H : Type) (enc : TypeId × Value → H) :
    ReturnsInHanded {} Tryz.checked os 5 .any (fun w args => (Rows.nodeLivesSpec.pre enc Tryz.prog Tryz.f5 [] false w args ∧ laidMetH Tryz.prog laid1 w) ∧ sizedMet enc Tryz.prog Tryz.f5 (OpenSpec.ofChange Rows.nodeLivesSpec) false w args)
      (Rows.nodeLivesSpec.post enc Tryz.prog Tryz.f5 false true false false) := by
  refine returnsInHanded_of_change_and (C := Tryz.checked) (X := fun w _ => laidMetH Tryz.prog laid1 w) (fun _ _ _ hh h => h.of_heap hh) nodeLives_own started (by kernel_rfl) Tryz.func5
    (ChangeSpec.witness_shaped (enc := enc) (C := Tryz.checked) (os := os) (X := fun w _ => laidMetH Tryz.prog laid1 w) false (World.doorLaid Tryz.prog 40 os) #[.agg #[.int .u8 0, .slice none 0 0, .bool false], .agg #[.int .u8 0, .slice none 0 0, .bool false], .slice none 0 0] 8 rfl (World.shaped_of_RefB (by kernel_rfl) (by kernel_rfl)) (by kernel_rfl) (by kernel_rfl) (by kernel_rfl) (door_met os _)) ?_
  intro W base args ds gs before hval0 hW _ _ hL _
  have hval : ∀ (j : Nat) t v, Tryz.f5.params[j]? = some t → args[j]? = some v → Value.okWide Tryz.prog W .any base t v := hval0
  have hW' := hW
  obtain ⟨p, q, hA0, hV, rfl, _, _⟩ := hW
  have hA : DataW.TrodAll enc Tryz.prog W 0 (fun _ => true) true Tryz.f5.params.toList args.toList ds p := hA0
  rw [Tryz.params5] at hA hval
  obtain ⟨v0, vs0, d0, ds0, p0, q0, ha0, rfl, rfl, h0, r0⟩ := trodAll_cons hA
  obtain ⟨v1, vs1, d1, ds1, p1, q1, ha1, rfl, rfl, h1, r1⟩ := trodAll_cons r0
  obtain ⟨v2, vs2, d2, ds2, p2, q2, ha2, rfl, rfl, h2, r2⟩ := trodAll_cons r1
  obtain ⟨rfl, rfl, rfl⟩ := trodAll_nil r2
  subst ha1
  subst ha2
  obtain rfl : args = #[v0, v1, v2] := by cases args; simp_all
  obtain ⟨rfl, rfl⟩ := trodVars_none hV
  obtain ⟨bx, Ax, kx, lx, sx, rfl, hbx, hcx, hex, hwx⟩ := eopen_case (hval 0 24 v0 rfl rfl) h0
  obtain ⟨b_y, Ay, ky, ly, sy, rfl, hby, hcy, hey, hwy⟩ := eopen_case (hval 1 24 v1 rfl rfl) h1
  obtain ⟨Ak, kk, lk, rfl, hk⟩ := open_bools38 (hval 2 57 v2 rfl rfl) h2
  obtain ⟨ga, hg⟩ := glob_of hL
  clear hA0 hval0
  refine (lives_law bx Ax kx lx sx b_y Ay ky ly sy Ak kk lk ga W ⟨hbx, hcx, hwx, hex⟩ ⟨hby, hcy, hwy, hey⟩ hk hg).mono fun e W' ⟨he, hw⟩ => ?_
  subst he
  exact ⟨_, rfl, law_post (by kernel_rfl) (by kernel_rfl) rfl (by kernel_rfl) Tryz.underlying4 hW' rfl hw⟩

theorem nodeLives_k1 : laidOutB Tryz.pinned.checked.prog = true := by kernel_rfl

theorem nodeLives_k2 : mapsRowed Tryz.pinned.checked.prog = true := by kernel_rfl

theorem nodeLives_k3 : (Rows.nodeLivesRow.inPlace == Tryz.pinned.checked.prog.inPlace 5) = true := by kernel_rfl

theorem nodeLives_k4 : (Rows.nodeLivesRow.unfollowed == Tryz.pinned.checked.prog.unfollowed 5) = true := by kernel_rfl

theorem nodeLives_k5 : (Rows.nodeLivesRow.recurses == Tryz.pinned.checked.prog.recurses 5) = true := by kernel_rfl

theorem nodeLives_k6 : (Rows.nodeLivesRow.named == Tryz.pinned.checked.prog.varsNamed 5) = true := by kernel_rfl

theorem nodeLives_closed : joinedFacts Tryz.pinned.checked.prog 5 Tryz.f5 Rows.nodeLivesSpec Rows.nodeLivesRow = true := by
  unfold joinedFacts
  rw [nodeLives_k1, nodeLives_k2, nodeLives_k3, nodeLives_k4, nodeLives_k5, nodeLives_k6]
  kernel_rfl

theorem nodeLives_row : Rows.NodeLivesSaid :=
  OpenClaim.holds_of_wide 5 Tryz.f5 rfl rfl rfl rfl rfl rfl rfl ⟨rfl, rfl, rfl, rfl, rfl⟩ rfl rfl rfl rfl rfl (by kernel_rfl) Tryz.func5 nodeLives_closed
    (of_decide_eq_true (by kernel_rfl)) (by unfold Func.isWrapper; first | (rw [if_pos (by decide +kernel)]; kernel_rfl) | (rw [if_neg (by decide +kernel)]; exact ⟨rfl, rfl⟩))
    (fun os started H enc _ => nodeLives_lifted os started H enc)

theorem nodeLives_holds : Rows.NodeLivesCardSaid :=
  Claim7.holds_tied_plain_at .later [] [.handle, .sentinel] true (true, "fac14d2d4b594b97c6412da75a4a249821f998ced097e4b2d8659f5861c7baff") true
    nodeLives_row (fun _ h => by cases h) (by kernel_rfl) (fun _ h => by cases h) nodeLives_row_tie rfl ⟨rfl, rfl⟩ (by kernel_rfl) rfl
    (fun f fn hf hfn => by
      obtain rfl : f = 5 := Option.some.inj ((show Tryz.prog.funcNamed "gemination/geminationlaw16.NodeLives" = some 5 by kernel_rfl).symm.trans hf) |>.symm
      obtain rfl : fn = Tryz.f5 := (Option.some.inj (Tryz.func5.symm.trans hfn)).symm
      exact ⟨by kernel_rfl, fun j t ht => by
        rw [Tryz.params5] at ht
        have hm : t ∈ [24, 24, 57] := by simpa using Array.mem_of_getElem? ht
        have hall : ([24, 24, 57].all fun u => !Tryz.prog.wantsStandIn u) = true := by kernel_rfl
        exact (show Tryz.prog.wantsStandIn t = false by simpa using List.all_eq_true.1 hall t hm)⟩)
    (by kernel_rfl)
end Go.Proofs.YtbmpdmomagkkmaaGreatDoor
