/- For every number of blocks, every row of up to 60 events (of texts of up to 300 bytes and up to 100 keeps; beyond that the law says nothing), either side and every session: how any node begins a session is the document's answer; the call returns true and leaves its arguments as they were. Conditions: the package variable math/bits.deBruijn32tab lies as its initialiser lays it (tied to the text by the card); the card speaks of the pruned copy that holds the packages that the roots load. -/
import Derived.Test.YtabenngcmpjlhaaGreatDoorTie
import Derived.Test.YtabenngcmpjlhaaGreatDoorCards
import Derived.SevenTiedAt
import Derived.Test.YtabenngcmpjlhaaGreatDoorGP
import Derived.Test.YtabenngcmpjlhaaGreatDoorCO19
import Derived.Test.YtabenngcmpjlhaaGreatDoorTOpen
namespace Go.Proofs.YtabenngcmpjlhaaGreatDoor
open Go.ChangeShapes Go.WideShapes Go.ChangeAt Go.RowKit
open Go.ChangeMaps (open_string shut_string)
theorem greetBegins_own : ownKnob Tryz.prog.godebug = none := by kernel_rfl
set_option maxRecDepth 100000 in
theorem greetBegins_lifted (os : Go.Os) (started : os.Started) (H : Type) (enc : TypeId × Value → H) :
    ReturnsInHanded {} Tryz.checked os 6 .any (fun w args => (Rows.greetBeginsSpec.pre enc Tryz.prog Tryz.f6 [] false w args ∧ laidMetH Tryz.prog laidT w) ∧ sizedMet enc Tryz.prog Tryz.f6 (OpenSpec.ofChange Rows.greetBeginsSpec) false w args)
      (Rows.greetBeginsSpec.post enc Tryz.prog Tryz.f6 false true false false) := by
  refine returnsInHanded_of_change_and (C := Tryz.checked) (X := fun w _ => laidMetH Tryz.prog laidT w) (fun _ _ _ hh h => h.of_heap hh) greetBegins_own started (by kernel_rfl) Tryz.func6
    (ChangeSpec.witness_shaped (enc := enc) (C := Tryz.checked) (os := os) (X := fun w _ => laidMetH Tryz.prog laidT w) false (World.doorLaid Tryz.prog 14 os) #[.agg #[.int .u8 0, .slice none 0 0, .bool false], .int .u64 0] 8 rfl (World.shaped_of_RefB (by kernel_rfl) (by kernel_rfl)) (by kernel_rfl) (by kernel_rfl) (by kernel_rfl) (door_metT os _)) ?_
  intro W base args ds gs before hval0 hW _ _ hL _
  have hval : ∀ (j : Nat) t v, Tryz.f6.params[j]? = some t → args[j]? = some v → Value.okWide Tryz.prog W .any base t v := hval0
  have hW' := hW
  obtain ⟨p, q, hA0, hV, rfl, _, _⟩ := hW
  have hA : DataW.TrodAll enc Tryz.prog W 0 (fun _ => true) true Tryz.f6.params.toList args.toList ds p := hA0
  rw [Tryz.params6] at hA hval
  obtain ⟨v0, vs0, d0, ds0, p0, q0, ha0, rfl, rfl, h0, r0⟩ := trodAll_cons hA
  obtain ⟨v1, vs1, d1, ds1, p1, q1, ha1, rfl, rfl, h1, r1⟩ := trodAll_cons r0
  obtain ⟨rfl, rfl, rfl⟩ := trodAll_nil r1
  subst ha1
  obtain rfl : args = #[v0, v1] := by cases args; simp_all
  obtain ⟨rfl, rfl⟩ := trodVars_none hV
  obtain ⟨bx, Ax, kx, lx, sx, rfl, hbx, hcx, hex, hwx⟩ := eopen_case19 (hval 0 70 v0 rfl rfl) h0
  obtain ⟨b, rfl, rfl, rfl, wb⟩ := open_int Tryz.underlying31 (hval 1 31 v1 rfl rfl) h1
  have bb := bounds_u64 wb
  have hT := tab_of hL
  clear hA0 hval0
  refine (begins_law bx Ax kx lx sx b W ⟨hbx, hcx, hwx, hex⟩ hT ⟨bb.1, by omega⟩).mono fun e W' ⟨he, hw⟩ => ?_
  subst he
  exact ⟨_, rfl, law_post (by kernel_rfl) (by kernel_rfl) rfl (by kernel_rfl) Tryz.underlying4 hW' rfl hw⟩
theorem greetBegins_k1 : laidOutB Tryz.pinned.checked.prog = true := by kernel_rfl
theorem greetBegins_k2 : mapsRowed Tryz.pinned.checked.prog = true := by kernel_rfl
theorem greetBegins_k3 : (Rows.greetBeginsRow.inPlace == Tryz.pinned.checked.prog.inPlace 6) = true := by kernel_rfl
theorem greetBegins_k4 : (Rows.greetBeginsRow.unfollowed == Tryz.pinned.checked.prog.unfollowed 6) = true := by kernel_rfl
theorem greetBegins_k5 : (Rows.greetBeginsRow.recurses == Tryz.pinned.checked.prog.recurses 6) = true := by kernel_rfl
theorem greetBegins_k6 : (Rows.greetBeginsRow.named == Tryz.pinned.checked.prog.varsNamed 6) = true := by kernel_rfl
theorem greetBegins_closed : joinedFacts Tryz.pinned.checked.prog 6 Tryz.f6 Rows.greetBeginsSpec Rows.greetBeginsRow = true := by
  unfold joinedFacts
  rw [greetBegins_k1, greetBegins_k2, greetBegins_k3, greetBegins_k4, greetBegins_k5, greetBegins_k6]
  kernel_rfl
theorem greetBegins_row : Rows.GreetBeginsSaid :=
  OpenClaim.holds_of_wide 6 Tryz.f6 rfl rfl rfl rfl rfl rfl rfl ⟨rfl, rfl, rfl, rfl, rfl⟩ rfl rfl rfl rfl rfl (by kernel_rfl) Tryz.func6 greetBegins_closed
    (of_decide_eq_true (by kernel_rfl)) (by unfold Func.isWrapper; first | (rw [if_pos (by decide +kernel)]; kernel_rfl) | (rw [if_neg (by decide +kernel)]; exact ⟨rfl, rfl⟩))
    (fun os started H enc _ => greetBegins_lifted os started H enc)
theorem greetBegins_holds : Rows.GreetBeginsCardSaid :=
  Claim7.holds_tied_plain_at .later [] [.data] true (true, "a411e7c0b4ee0c5075ac1f0f2dbd0075e582b5f379bdc06ca0c4eabe47a202a5") false
    greetBegins_row (fun _ h => by cases h) (by kernel_rfl) (fun _ h => by cases h) greetBegins_row_tie rfl ⟨rfl, rfl⟩ (by kernel_rfl) rfl
    (fun f fn hf hfn => by
      obtain rfl : f = 6 := Option.some.inj ((show Tryz.prog.funcNamed "gemination/geminationlaw19.GreetBegins" = some 6 by kernel_rfl).symm.trans hf) |>.symm
      obtain rfl : fn = Tryz.f6 := (Option.some.inj (Tryz.func6.symm.trans hfn)).symm
      exact ⟨by kernel_rfl, fun j t ht => by
        rw [Tryz.params6] at ht
        have hm : t ∈ [70, 31] := by simpa using Array.mem_of_getElem? ht
        have hall : ([70, 31].all fun u => !Tryz.prog.wantsStandIn u) = true := by kernel_rfl
        exact (show Tryz.prog.wantsStandIn t = false by simpa using List.all_eq_true.1 hall t hm)⟩)
    (by kernel_rfl)
end Go.Proofs.YtabenngcmpjlhaaGreatDoor
