/- For every disk that may be (of at most 70 sectors and 100 writes in the cache, each of at most 100 bytes: beyond that the law says nothing): its store is the document's answer, or refused for its reason, and whether any two stores are the same is told alike on both sides; the call returns true and leaves its arguments as they were. Conditions: the package variables gemination/super.errShape and errors.errorType lie as their initialisers lay them (tied to the text by the card); the card speaks of the pruned copy that holds the packages that the roots load. -/
import Derived.Test.YtjkgellkkjjnbaaGreatDoorZM
import Derived.Test.YtjkgellkkjjnbaaGreatDoorZOpen
import Derived.Test.YtjkgellkkjjnbaaGreatDoorKO
import Derived.Test.YtjkgellkkjjnbaaGreatDoorTie
import Derived.Test.YtjkgellkkjjnbaaGreatDoorCards
import Derived.SevenTiedAt
namespace Go.Proofs.YtjkgellkkjjnbaaGreatDoor
open Go.ChangeShapes Go.WideShapes Go.ChangeAt Go.RowKit
open Go.ChangeMaps (open_string shut_string)

theorem storeAttaches_own : ownKnob Tryz.prog.godebug = none := by kernel_rfl

set_option maxRecDepth 100000 in
theorem storeAttaches_lifted (os : Os) (started : os.Started) (H : Type) (enc : TypeId × Value → H) :
    ReturnsInHanded {} Tryz.checked os 3 .any (fun w args => (Rows.storeAttachesSpec.pre enc Tryz.prog Tryz.f3 [] false w args ∧ laidMetH Tryz.prog laid1 w) ∧ sizedMet enc Tryz.prog Tryz.f3 (OpenSpec.ofChange Rows.storeAttachesSpec) false w args)
      (Rows.storeAttachesSpec.post enc Tryz.prog Tryz.f3 false true false false) := by
  refine returnsInHanded_of_change_and (C := Tryz.checked) (X := fun w _ => laidMetH Tryz.prog laid1 w) (fun _ _ _ hh h => h.of_heap hh) storeAttaches_own started (by kernel_rfl) Tryz.func3
    (ChangeSpec.witness_shaped (enc := enc) (C := Tryz.checked) (os := os) (X := fun w _ => laidMetH Tryz.prog laid1 w) false (World.doorLaid Tryz.prog 35 os) #[.agg #[.slice none 0 0, .slice none 0 0, .int .i64 0, .bool false], .agg #[.slice none 0 0, .slice none 0 0, .int .i64 0, .bool false, .int .i64 0, .int .u64 0, .int .u64 0, .int .u64 0, .int .u64 0, .bool false, .bool false, .bool false, .int .u32 0], .agg #[.slice none 0 0, .slice none 0 0, .int .i64 0, .bool false, .int .i64 0, .int .u64 0, .int .u64 0, .int .u64 0, .int .u64 0, .bool false, .bool false, .bool false, .int .u32 0]] 8 rfl (World.shaped_of_RefB (by kernel_rfl) (by kernel_rfl)) (by kernel_rfl) (by kernel_rfl) (by kernel_rfl) (door_met os _)) ?_
  intro W base args ds gs before hval0 hW _ _ hL _
  have hval : ∀ (j : Nat) t v, Tryz.f3.params[j]? = some t → args[j]? = some v → Value.okWide Tryz.prog W .any base t v := hval0
  have hW' := hW
  obtain ⟨p, q, hA0, hV, rfl, _, _⟩ := hW
  have hA : DataW.TrodAll enc Tryz.prog W 0 (fun _ => true) true Tryz.f3.params.toList args.toList ds p := hA0
  rw [Tryz.params3] at hA hval
  obtain ⟨v0, vs0, d0, ds0, p0, q0, ha0, rfl, rfl, h0, r0⟩ := trodAll_cons hA
  obtain ⟨v1, vs1, d1, ds1, p1, q1, ha1, rfl, rfl, h1, r1⟩ := trodAll_cons r0
  obtain ⟨v2, vs2, d2, ds2, p2, q2, ha2, rfl, rfl, h2, r2⟩ := trodAll_cons r1
  obtain ⟨rfl, rfl, rfl⟩ := trodAll_nil r2
  subst ha1
  subst ha2
  obtain rfl : args = #[v0, v1, v2] := by cases args; simp_all
  obtain ⟨rfl, rfl⟩ := trodVars_none hV
  obtain ⟨A0, k0, s0, B0, l0, c0, f0, x0, rfl, hm0, hf0⟩ := open_disk (hval 0 25 v0 rfl rfl) h0
  obtain ⟨st, At, nt, Bt, mt, rfl, hmt⟩ := open_sto (hval 1 34 v1 rfl rfl) h1
  obtain ⟨su, Au, nu, Bu, mu, rfl, hmu⟩ := open_sto (hval 2 34 v2 rfl rfl) h2
  obtain ⟨ga, hg⟩ := glob_of hL
  clear hA0 hval0
  refine (zst_law A0 B0 k0 l0 s0 c0 f0 x0 st su At Bt nt mt Au Bu nu mu ga W hm0 hmt hmu hg hf0).mono fun e W' ⟨he, hw⟩ => ?_
  subst he
  exact ⟨_, rfl, law_post (by kernel_rfl) (by kernel_rfl) rfl (by kernel_rfl) Tryz.underlying4 hW' rfl hw⟩

theorem storeAttaches_row : Rows.StoreAttachesSaid :=
  OpenClaim.holds_of_wide 3 Tryz.f3 rfl rfl rfl rfl rfl rfl rfl ⟨rfl, rfl, rfl, rfl, rfl⟩ rfl rfl rfl rfl rfl (by kernel_rfl) Tryz.func3 (by kernel_rfl)
    (of_decide_eq_true (by kernel_rfl)) (by unfold Func.isWrapper; first | (rw [if_pos (by decide +kernel)]; kernel_rfl) | (rw [if_neg (by decide +kernel)]; exact ⟨rfl, rfl⟩))
    (fun os started H enc _ => storeAttaches_lifted os started H enc)

theorem storeAttaches_holds : Rows.StoreAttachesCardSaid :=
  Claim7.holds_tied_plain_at .later [] [.handle, .sentinel] true (true, "16b218ec04faca287ecd3bbfc111a561bb09e1774d8cbef8470ff78c2783cd84") true
    storeAttaches_row (fun _ h => by cases h) (by kernel_rfl) (fun _ h => by cases h) storeAttaches_row_tie rfl ⟨rfl, rfl⟩ (by kernel_rfl) rfl
    (fun f fn hf hfn => by
      obtain rfl : f = 3 := Option.some.inj ((show Tryz.prog.funcNamed "gemination/geminationlaw15.StoreAttaches" = some 3 by kernel_rfl).symm.trans hf) |>.symm
      obtain rfl : fn = Tryz.f3 := (Option.some.inj (Tryz.func3.symm.trans hfn)).symm
      exact ⟨by kernel_rfl, fun j t ht => by
        rw [Tryz.params3] at ht
        have hm : t ∈ [25, 34, 34] := by simpa using Array.mem_of_getElem? ht
        have hall : ([25, 34, 34].all fun u => !Tryz.prog.wantsStandIn u) = true := by kernel_rfl
        exact (show Tryz.prog.wantsStandIn t = false by simpa using List.all_eq_true.1 hall t hm)⟩)
    (by kernel_rfl)
end Go.Proofs.YtjkgellkkjjnbaaGreatDoor
