/- For every number of blocks, every row of up to 60 events (of texts of up to 300 bytes and up to 100 keeps; beyond that the law says nothing), either side and every text of up to 500 bytes (of longer ones the law says nothing): bytes that are no packet, or of another session, change nothing but that the session may be closed; the call returns true and leaves its arguments as they were. Conditions: the package variables math/bits.deBruijn32tab and errors.errorType lie as their initialisers lay them (tied to the text by the card); the card speaks of the pruned copy that holds the packages that the roots load. -/
import Derived.Test.YtkjikigimmchlaaGreatDoorTie
import Derived.Test.YtkjikigimmchlaaGreatDoorCards
import Derived.SevenTiedAt
import Derived.Test.YtkjikigimmchlaaGreatDoorPL
import Derived.Test.YtkjikigimmchlaaGreatDoorCO20
import Derived.Test.YtkjikigimmchlaaGreatDoorTE
namespace Go.Proofs.YtkjikigimmchlaaGreatDoor
open Go.ChangeShapes Go.WideShapes Go.ChangeAt Go.RowKit
open Go.ChangeMaps (open_string shut_string)
theorem peerJunk_own : ownKnob Tryz.prog.godebug = none := by kernel_rfl
set_option maxRecDepth 100000 in
theorem peerJunk_lifted (os : Go.Os) (started : os.Started) (H : Type) (enc : TypeId × Value → H) :
    ReturnsInHanded {} Tryz.checked os 3 .any (fun w args => (Rows.peerJunkSpec.pre enc Tryz.prog Tryz.f3 [] false w args ∧ laidMetH Tryz.prog laidE w) ∧ sizedMet enc Tryz.prog Tryz.f3 (OpenSpec.ofChange Rows.peerJunkSpec) false w args)
      (Rows.peerJunkSpec.post enc Tryz.prog Tryz.f3 false true false false) := by
  refine returnsInHanded_of_change_and (C := Tryz.checked) (X := fun w _ => laidMetH Tryz.prog laidE w) (fun _ _ _ hh h => h.of_heap hh) peerJunk_own started (by kernel_rfl) Tryz.func3
    (ChangeSpec.witness_shaped (enc := enc) (C := Tryz.checked) (os := os) (X := fun w _ => laidMetH Tryz.prog laidE w) false (World.doorLaid Tryz.prog 21 os) #[.agg #[.int .u8 0, .slice none 0 0, .bool false], .string ⟨#[]⟩] 8 rfl (World.shaped_of_RefB (by kernel_rfl) (by kernel_rfl)) (by kernel_rfl) (by kernel_rfl) (by kernel_rfl) (door_metE os _)) ?_
  intro W base args ds gs before hval0 hW _ _ hL _
  have hval : ∀ (j : Nat) t v, Tryz.f3.params[j]? = some t → args[j]? = some v → Value.okWide Tryz.prog W .any base t v := hval0
  have hW' := hW
  obtain ⟨p, q, hA0, hV, rfl, _, _⟩ := hW
  have hA : DataW.TrodAll enc Tryz.prog W 0 (fun _ => true) true Tryz.f3.params.toList args.toList ds p := hA0
  rw [Tryz.params3] at hA hval
  obtain ⟨v0, vs0, d0, ds0, p0, q0, ha0, rfl, rfl, h0, r0⟩ := trodAll_cons hA
  obtain ⟨v1, vs1, d1, ds1, p1, q1, ha1, rfl, rfl, h1, r1⟩ := trodAll_cons r0
  obtain ⟨rfl, rfl, rfl⟩ := trodAll_nil r1
  subst ha1
  obtain rfl : args = #[v0, v1] := by cases args; simp_all
  obtain ⟨rfl, rfl⟩ := trodVars_none hV
  obtain ⟨bx, Ax, kx, lx, sx, rfl, hbx, hcx, hex, hwx⟩ := eopen_case20 (hval 0 24 v0 rfl rfl) h0
  obtain ⟨b, rfl, rfl, rfl, wb⟩ := open_string Tryz.underlying9 (hval 1 9 v1 rfl rfl) h1
  have hT := tab_ofE hL
  have hE := etyp_ofE hL
  clear hA0 hval0
  refine (junk_law bx Ax kx lx sx b W ⟨hbx, hcx, hwx, hex⟩ hT hE).mono fun e W' ⟨he, hw⟩ => ?_
  subst he
  exact ⟨_, rfl, law_post (by kernel_rfl) (by kernel_rfl) rfl (by kernel_rfl) Tryz.underlying4 hW' rfl hw⟩
theorem peerJunk_k1 : laidOutB Tryz.pinned.checked.prog = true := by kernel_rfl
theorem peerJunk_k2 : mapsRowed Tryz.pinned.checked.prog = true := by kernel_rfl
theorem peerJunk_k3 : (Rows.peerJunkRow.inPlace == Tryz.pinned.checked.prog.inPlace 3) = true := by kernel_rfl
theorem peerJunk_k4 : (Rows.peerJunkRow.unfollowed == Tryz.pinned.checked.prog.unfollowed 3) = true := by kernel_rfl
theorem peerJunk_k5 : (Rows.peerJunkRow.recurses == Tryz.pinned.checked.prog.recurses 3) = true := by kernel_rfl
theorem peerJunk_k6 : (Rows.peerJunkRow.named == Tryz.pinned.checked.prog.varsNamed 3) = true := by kernel_rfl
theorem peerJunk_closed : joinedFacts Tryz.pinned.checked.prog 3 Tryz.f3 Rows.peerJunkSpec Rows.peerJunkRow = true := by
  unfold joinedFacts
  rw [peerJunk_k1, peerJunk_k2, peerJunk_k3, peerJunk_k4, peerJunk_k5, peerJunk_k6]
  kernel_rfl
theorem peerJunk_row : Rows.PeerJunkSaid :=
  OpenClaim.holds_of_wide 3 Tryz.f3 rfl rfl rfl rfl rfl rfl rfl ⟨rfl, rfl, rfl, rfl, rfl⟩ rfl rfl rfl rfl rfl (by kernel_rfl) Tryz.func3 peerJunk_closed
    (of_decide_eq_true (by kernel_rfl)) (by unfold Func.isWrapper; first | (rw [if_pos (by decide +kernel)]; kernel_rfl) | (rw [if_neg (by decide +kernel)]; exact ⟨rfl, rfl⟩))
    (fun os started H enc _ => peerJunk_lifted os started H enc)
theorem peerJunk_holds : Rows.PeerJunkCardSaid :=
  Claim7.holds_tied_plain_at .later [] [.data, .handle] true (true, "79e36695b4f654d0469fa4bd33a808d35a68516383b2acd3366666117255a4e5") true
    peerJunk_row (fun _ h => by cases h) (by kernel_rfl) (fun _ h => by cases h) peerJunk_row_tie rfl ⟨rfl, rfl⟩ (by kernel_rfl) rfl
    (fun f fn hf hfn => by
      obtain rfl : f = 3 := Option.some.inj ((show Tryz.prog.funcNamed "gemination/geminationlaw20.PeerJunk" = some 3 by kernel_rfl).symm.trans hf) |>.symm
      obtain rfl : fn = Tryz.f3 := (Option.some.inj (Tryz.func3.symm.trans hfn)).symm
      exact ⟨by kernel_rfl, fun j t ht => by
        rw [Tryz.params3] at ht
        have hm : t ∈ [24, 9] := by simpa using Array.mem_of_getElem? ht
        have hall : ([24, 9].all fun u => !Tryz.prog.wantsStandIn u) = true := by kernel_rfl
        exact (show Tryz.prog.wantsStandIn t = false by simpa using List.all_eq_true.1 hall t hm)⟩)
    (by kernel_rfl)
end Go.Proofs.YtkjikigimmchlaaGreatDoor
