/- For every mask, every list of numbers and every list of masks, what the program makes of them (a mask with some, without some, the union of any) is the document's answer, and the list that was handed in stays as it was; beyond 100 numbers, or 50 masks, the law says nothing; the call returns true and leaves its arguments as they were. Condition: the table of the library that the lowest bit is looked up in lies as its initialiser lays it: tied to the program's text. -/
import Derived.Test.YtfimmodiainlaaaDoorOpen
import Derived.Test.YtfimmodiainlaaaDoorTie
import Derived.Test.YtfimmodiainlaaaDoorCards
import Derived.SevenTiedAt
namespace Go.Proofs.YtfimmodiainlaaaDoor
open Go.ChangeShapes Go.WideShapes Go.ChangeAt Go.RowKit
open Go.ChangeMaps (open_string shut_string)

theorem maskMakes_own : ownKnob Tryd.prog.godebug = none := by kernel_rfl

set_option maxRecDepth 100000 in
theorem maskMakes_lifted (os : Os) (started : os.Started) (H : Type) (enc : TypeId × Value → H) :
    ReturnsInHanded {} Tryd.checked os 4 .any (fun w args => (Rows.maskMakesSpec.pre enc Tryd.prog Tryd.f4 [] false w args ∧ laidMetH Tryd.prog laid1 w) ∧ sizedMet enc Tryd.prog Tryd.f4 (OpenSpec.ofChange Rows.maskMakesSpec) false w args)
      (Rows.maskMakesSpec.post enc Tryd.prog Tryd.f4 false true false false) := by
  refine returnsInHanded_of_change_and (C := Tryd.checked) (X := fun w _ => laidMetH Tryd.prog laid1 w) (fun _ _ _ hh h => h.of_heap hh) maskMakes_own started (by kernel_rfl) Tryd.func4
    (ChangeSpec.witness_shaped (enc := enc) (C := Tryd.checked) (os := os) (X := fun w _ => laidMetH Tryd.prog laid1 w) false (World.doorLaid Tryd.prog 14 os) #[.int .u32 0, .slice none 0 0, .slice none 0 0] 8 rfl (World.shaped_of_RefB (by kernel_rfl) (by kernel_rfl)) (by kernel_rfl) (by kernel_rfl) (by kernel_rfl) (door_met os _)) ?_
  intro W base args ds gs before hval0 hW _ _ hL _
  have hval : ∀ (j : Nat) t v, Tryd.f4.params[j]? = some t → args[j]? = some v → Value.okWide Tryd.prog W .any base t v := hval0
  have hW' := hW
  obtain ⟨p, q, hA0, hV, rfl, _, _⟩ := hW
  have hA : DataW.TrodAll enc Tryd.prog W 0 (fun _ => true) true Tryd.f4.params.toList args.toList ds p := hA0
  rw [Tryd.params4] at hA hval
  obtain ⟨v0, vs0, d0, ds0, p0, q0, ha0, rfl, rfl, h0, r0⟩ := trodAll_cons hA
  obtain ⟨v1, vs1, d1, ds1, p1, q1, ha1, rfl, rfl, h1, r1⟩ := trodAll_cons r0
  obtain ⟨v2, vs2, d2, ds2, p2, q2, ha2, rfl, rfl, h2, r2⟩ := trodAll_cons r1
  obtain ⟨rfl, rfl, rfl⟩ := trodAll_nil r2
  subst ha1
  subst ha2
  obtain rfl : args = #[v0, v1, v2] := by cases args; simp_all
  obtain ⟨rfl, rfl⟩ := trodVars_none hV
  obtain ⟨a, rfl, rfl, rfl, wa⟩ := open_int Tryd.underlying22 (hval 0 22 v0 rfl rfl) h0
  have ba := bounds_u32 wa
  obtain ⟨b, cb, lb, rfl, nb, sb, wb⟩ := open_cs Tryd.underlying30 Tryd.underlying3 cells3 (hval 1 30 v1 rfl rfl) h1
  obtain ⟨c, cc, lc, rfl, nc, sc, wc⟩ := open_cs Tryd.underlying33 Tryd.underlying22 cells22 (hval 2 33 v2 rfl rfl) h2
  obtain ⟨ma, rfl⟩ := Int.eq_ofNat_of_zero_le ba.1
  obtain ⟨k, rfl, hk⟩ := open_u32s lc wc
  clear hA0 hval0
  refine (show Calls Tryd.prog 4 #[.int .u32 (ma : Int), .slice b lb.length cb, .slice c (k.map fun (x : Nat) => (x : Int)).length cc] W (Yes W) from by rw [List.length_map]; exact makes_law ma b c cb cc lb k W (by omega) (tab_of hL) nb sb sc hk).mono fun e W' ⟨he, hw⟩ => ?_
  subst he
  exact ⟨_, rfl, law_post (by kernel_rfl) (by kernel_rfl) rfl (by kernel_rfl) Tryd.underlying4 hW' rfl hw⟩

theorem maskMakes_row : Rows.MaskMakesSaid :=
  OpenClaim.holds_of_wide 4 Tryd.f4 rfl rfl rfl rfl rfl rfl rfl ⟨rfl, rfl, rfl, rfl, rfl⟩ rfl rfl rfl rfl rfl (by kernel_rfl) Tryd.func4 (by kernel_rfl)
    (of_decide_eq_true (by kernel_rfl)) (by unfold Func.isWrapper; first | (rw [if_pos (by decide +kernel)]; kernel_rfl) | (rw [if_neg (by decide +kernel)]; exact ⟨rfl, rfl⟩))
    (fun os started H enc _ => maskMakes_lifted os started H enc)

theorem maskMakes_holds : Rows.MaskMakesCardSaid :=
  Claim7.holds_tied_plain_at .later [] [.data] true (true, "5ec41c6569b464e9bcaf15c2386acc8fc19eed8e7aa0c4479cdab6ebe9800a7d") false
    maskMakes_row (fun _ h => by cases h) (by kernel_rfl) (fun _ h => by cases h) maskMakes_row_tie rfl ⟨rfl, rfl⟩ (by kernel_rfl) rfl
    (fun f fn hf hfn => by
      obtain rfl : f = 4 := Option.some.inj ((show Tryd.prog.funcNamed "gemination/geminationlaw03.MaskMakes" = some 4 by kernel_rfl).symm.trans hf) |>.symm
      obtain rfl : fn = Tryd.f4 := (Option.some.inj (Tryd.func4.symm.trans hfn)).symm
      exact ⟨by kernel_rfl, fun j t ht => by
        rw [Tryd.params4] at ht
        have hm : t ∈ [22, 30, 33] := by simpa using Array.mem_of_getElem? ht
        have hall : ([22, 30, 33].all fun u => !Tryd.prog.wantsStandIn u) = true := by kernel_rfl
        exact (show Tryd.prog.wantsStandIn t = false by simpa using List.all_eq_true.1 hall t hm)⟩)
    (by kernel_rfl)
end Go.Proofs.YtfimmodiainlaaaDoor
