/- The law's own fixed fact: it answers true. No condition. -/
import Derived.Test.YtdclahjcbnfneaaX3
namespace Go.Proofs.Ytdclahjcbnfneaa
open Go.RowKit

theorem lit_bs (w : World) (l : List Bool) (cs : Array Value) (g : Nat) (hg : g = w.heap.size) (h : cs = (l.map Value.bool).toArray) : Bs (w.alloc (.cells cs 4)) (w.heap.size + 1) (some ⟨g, 0, none⟩) l := by
  subst hg; subst h
  have hr : Row (w.alloc (.cells (l.map Value.bool).toArray 4)) w.heap.size l := heap_alloc_new w _
  have := hr.bs (by simp)
  simpa using this

set_option maxHeartbeats 1000000 in
theorem alive_any (w : World) : Calls Try.prog 6 #[] w fun e w' => e = .returned (.bool true) ∧ Below w.heap.size w w' := by
  go_enter Try.func6, Try.ntmps6
  go_wp2_with fail
  refine (get64_yes _ _ (by decide)).mono ?_
  rintro e w1 ⟨rfl, n1, rfl⟩
  rw [show val (ByteArray.mk #[0, 0, 0, 0, 0, 0, 1, 0]).data.toList = 256 from by decide]
  go_wp2_with fail
  refine (get32_no _ _ (by decide)).mono ?_
  rintro e w1 ⟨rfl, n2, rfl⟩
  go_wp2_with fail
  refine (unflag_yes 5 3 _ (by omega) (by omega) (by omega) (by decide)).mono ?_
  rw [show unfl 3 (5 : Int).toNat = [true, false, true] from by decide]
  rintro e w1 ⟨A, c, rfl, hc, hm, hbs, hb1⟩
  have HBS := Lib.hid hbs; clear hbs
  go_wp2_with fail
  refine (unflag_more 8 3 _ (by omega) (by omega) (by omega) (by decide)).mono ?_
  rintro e wa ⟨rfl, rfl⟩
  go_wp2_with fail
  refine (put32_any 258 _ (by omega) (by omega)).mono ?_
  rintro e w2 ⟨rfl, hb2⟩
  rw [show be 4 (258 : Int).toNat = [0, 0, 1, 2] from by decide]
  go_wp2_with fail
  refine (put64_any 1 _ (by omega) (by omega)).mono ?_
  rintro e w3 ⟨rfl, hb3⟩
  rw [show be 8 (1 : Int).toNat = [0, 0, 0, 0, 0, 0, 0, 1] from by decide]
  go_wp2_with fail
  refine (flags_any _ 3 [true, false, true] _ _ (lit_bs _ _ _ _ rfl rfl) (by decide) (by unfold maxLen; omega)).mono ?_
  rintro e w4 ⟨rfl, rfl⟩
  rw [show fl (List.take 8 [true, false, true]) = 5 from by decide]
  go_wp2_with fail
  have s1 := hb1.size
  have s2 := hb2.size
  have s3 := hb3.size
  refine (same_yes _ _ _ 3 [true, false, true] _ (w3.heap.size + 1 + 1) ?_ ?_ (by decide)).mono ?_
  · have b2 := (HBS.out.below hb2 hb2.size).below hb3 hb3.size
    exact (b2.below (((Below.refl w3.heap.size w3).alloc (Nat.le_refl _) _).alloc (by simp) _) (by omega))
  · have := lit_bs (w3.alloc (.cells #[.bool true, .bool false, .bool true] 4)) [true, false, true] _ _ rfl rfl
    simpa using this
  rintro e w5 ⟨rfl, n5, rfl⟩
  go_wp2_with fail
  go_ret
  have s0 : w.heap.size ≤ wa.heap.size := s1
  have t1 : Below w.heap.size w wa := (below_drewN (Below.refl w.heap.size w) (n1 + n2)).trans hb1
  have t2 := (t1.trans (hb2.mono s0)).trans (hb3.mono (Nat.le_trans s0 s2))
  have s4 : w.heap.size ≤ w3.heap.size := Nat.le_trans s0 (Nat.le_trans s2 s3)
  exact ⟨rfl, below_drewN ((t2.alloc s4 _).alloc (by simp; omega) _) n5⟩
end Go.Proofs.Ytdclahjcbnfneaa
