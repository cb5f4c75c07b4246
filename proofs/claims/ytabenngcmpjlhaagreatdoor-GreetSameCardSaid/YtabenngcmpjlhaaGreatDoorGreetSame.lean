/- For every number of blocks, every row of up to 60 events (of texts of up to 300 bytes and up to 100 keeps; beyond that the law says nothing), either side and every session: who begins a session keeps what it had, but for its state; the call returns true and leaves its arguments as they were. Conditions: the package variable math/bits.deBruijn32tab lies as its initialiser lays it (tied to the text by the card); the card speaks of the pruned copy that holds the packages that the roots load. -/
import Derived.Test.YtabenngcmpjlhaaGreatDoorTie
import Derived.Test.YtabenngcmpjlhaaGreatDoorCards
import Derived.SevenTiedAt
import Derived.Test.YtabenngcmpjlhaaGreatDoorGP
import Derived.Test.YtabenngcmpjlhaaGreatDoorCO19
import Derived.Test.YtabenngcmpjlhaaGreatDoorTOpen
namespace Go.Proofs.YtabenngcmpjlhaaGreatDoor
open Go.ChangeShapes Go.WideShapes Go.ChangeAt Go.RowKit
open Go.ChangeMaps (open_string shut_string)
theorem greetSame_own : ownKnob Tryz.prog.godebug = none := by kernel_rfl
set_option maxRecDepth 100000 in
theorem greetSame_lifted (os : Go.Os) (started : os.Started) (H : Type) (enc : TypeId × Value → H) :
    ReturnsInHanded {} Tryz.checked os 9 .any (fun w args => (Rows.greetSameSpec.pre enc Tryz.prog Tryz.f9 [] false w args ∧ laidMetH Tryz.prog laidT w) ∧ sizedMet enc Tryz.prog Tryz.f9 (OpenSpec.ofChange Rows.greetSameSpec) false w args)
      (Rows.greetSameSpec.post enc Tryz.prog Tryz.f9 false true false false) := by
  refine returnsInHanded_of_change_and (C := Tryz.checked) (X := fun w _ => laidMetH Tryz.prog laidT w) (fun _ _ _ hh h => h.of_heap hh) greetSame_own started (by kernel_rfl) Tryz.func9
    (ChangeSpec.witness_shaped (enc := enc) (C := Tryz.checked) (os := os) (X := fun w _ => laidMetH Tryz.prog laidT w) false (World.doorLaid Tryz.prog 14 os) #[.agg #[.int .u8 0, .slice none 0 0, .bool false], .int .u64 0] 8 rfl (World.shaped_of_RefB (by kernel_rfl) (by kernel_rfl)) (by kernel_rfl) (by kernel_rfl) (by kernel_rfl) (door_metT os _)) ?_
  intro W base args ds gs before hval0 hW _ _ hL _
  have hval : ∀ (j : Nat) t v, Tryz.f9.params[j]? = some t → args[j]? = some v → Value.okWide Tryz.prog W .any base t v := hval0
  have hW' := hW
  obtain ⟨p, q, hA0, hV, rfl, _, _⟩ := hW
  have hA : DataW.TrodAll enc Tryz.prog W 0 (fun _ => true) true Tryz.f9.params.toList args.toList ds p := hA0
  rw [Tryz.params9] at hA hval
  obtain ⟨v0, vs0, d0, ds0, p0, q0, ha0, rfl, rfl, h0, r0⟩ := trodAll_cons hA
  obtain ⟨v1, vs1, d1, ds1, p1, q1, ha1, rfl, rfl, h1, r1⟩ := trodAll_cons r0
  obtain ⟨rfl, rfl, rfl⟩ := trodAll_nil r1
  subst ha1
  obtain rfl : args = #[v0, v1] := by cases args; simp_all
  obtain ⟨rfl, rfl⟩ := trodVars_none hV
  obtain ⟨bx, Ax, kx, lx, sx, rfl, hbx, hcx, hex, hwx⟩ := eopen_case19 (hval 0 70 v0 rfl rfl) h0
  obtain ⟨b, rfl, rfl, rfl, wb⟩ := open_int Tryz.underlying31 (hval 1 31 v1 rfl rfl) h1
  have bb := bounds_u64 wb
  have hT := tab_of hL
  clear hA0 hval0
  refine (same_law bx Ax kx lx sx b W ⟨hbx, hcx, hwx, hex⟩ hT ⟨bb.1, by omega⟩).mono fun e W' ⟨he, hw⟩ => ?_
  subst he
  exact ⟨_, rfl, law_post (by kernel_rfl) (by kernel_rfl) rfl (by kernel_rfl) Tryz.underlying4 hW' rfl hw⟩
theorem greetSame_k1 : laidOutB Tryz.pinned.checked.prog = true := by kernel_rfl
theorem greetSame_k2 : mapsRowed Tryz.pinned.checked.prog = true := by kernel_rfl
theorem greetSame_k3 : (Rows.greetSameRow.inPlace == Tryz.pinned.checked.prog.inPlace 9) = true := by kernel_rfl
theorem greetSame_k4 : (Rows.greetSameRow.unfollowed == Tryz.pinned.checked.prog.unfollowed 9) = true := by kernel_rfl
theorem greetSame_k5 : (Rows.greetSameRow.recurses == Tryz.pinned.checked.prog.recurses 9) = true := by kernel_rfl
theorem greetSame_k6 : (Rows.greetSameRow.named == Tryz.pinned.checked.prog.varsNamed 9) = true := by kernel_rfl
theorem greetSame_closed : joinedFacts Tryz.pinned.checked.prog 9 Tryz.f9 Rows.greetSameSpec Rows.greetSameRow = true := by
  unfold joinedFacts
  rw [greetSame_k1, greetSame_k2, greetSame_k3, greetSame_k4, greetSame_k5, greetSame_k6]
  kernel_rfl
theorem greetSame_row : Rows.GreetSameSaid :=
  OpenClaim.holds_of_wide 9 Tryz.f9 rfl rfl rfl rfl rfl rfl rfl ⟨rfl, rfl, rfl, rfl, rfl⟩ rfl rfl rfl rfl rfl (by kernel_rfl) Tryz.func9 greetSame_closed
    (of_decide_eq_true (by kernel_rfl)) (by unfold Func.isWrapper; first | (rw [if_pos (by decide +kernel)]; kernel_rfl) | (rw [if_neg (by decide +kernel)]; exact ⟨rfl, rfl⟩))
    (fun os started H enc _ => greetSame_lifted os started H enc)
theorem greetSame_holds : Rows.GreetSameCardSaid :=
  Claim7.holds_tied_plain_at .later [] [.data] true (true, "a411e7c0b4ee0c5075ac1f0f2dbd0075e582b5f379bdc06ca0c4eabe47a202a5") false
    greetSame_row (fun _ h => by cases h) (by kernel_rfl) (fun _ h => by cases h) greetSame_row_tie rfl ⟨rfl, rfl⟩ (by kernel_rfl) rfl
    (fun f fn hf hfn => by
      obtain rfl : f = 9 := Option.some.inj ((show Tryz.prog.funcNamed "gemination/geminationlaw19.GreetSame" = some 9 by kernel_rfl).symm.trans hf) |>.symm
      obtain rfl : fn = Tryz.f9 := (Option.some.inj (Tryz.func9.symm.trans hfn)).symm
      exact ⟨by kernel_rfl, fun j t ht => by
        rw [Tryz.params9] at ht
        have hm : t ∈ [70, 31] := by simpa using Array.mem_of_getElem? ht
        have hall : ([70, 31].all fun u => !Tryz.prog.wantsStandIn u) = true := by kernel_rfl
        exact (show Tryz.prog.wantsStandIn t = false by simpa using List.all_eq_true.1 hall t hm)⟩)
    (by kernel_rfl)
end Go.Proofs.YtabenngcmpjlhaaGreatDoor
