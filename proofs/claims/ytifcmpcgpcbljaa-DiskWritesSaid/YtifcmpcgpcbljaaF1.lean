/- Disks: the walk of the law on fuses: it answers true, for every disk, number and list of writes. No other condition but that its lists lie in memory. -/
import Derived.Test.YtifcmpcgpcbljaaE8
namespace Go.Proofs.Ytifcmpcgpcbljaa
open Go.RowKit

theorem off_box {w : World} {b : Nat} {A B : Option Addr} {n1 n2 m1 m2 : Nat} {f : Int} {x : Bool} (h : Box w b [.slice A n1 n2, .slice B m1 m2, .int .i64 f, .bool x]) {p : Addr} {t : ByteArray} (hc : w.cell? p = some (.string t)) : p.block ≠ b := by
  intro e
  obtain ⟨ty, h⟩ := h
  subst e
  unfold World.cell? at hc
  rw [h] at hc
  dsimp only at hc
  split at hc
  · cases hc
  · match hj : p.off with
    | 0 => rw [hj] at hc; simp at hc
    | 1 => rw [hj] at hc; simp at hc
    | 2 => rw [hj] at hc; simp at hc
    | 3 => rw [hj] at hc; simp at hc
    | k + 4 => rw [hj] at hc; simp at hc

theorem cell_past4 {w : World} {b : Nat} {p : Addr} {v : Value} (hn : p.block ≠ b) (hc : w.cell? p = some v) (v0 v1 v2 v3 : Value) :
    ((((w.setCell ⟨b, 0, none⟩ v0).setCell ⟨b, 1, none⟩ v1).setCell ⟨b, 2, none⟩ v2).setCell ⟨b, 3, none⟩ v3).cell? p = some v := by
  have hp : ∀ j, (⟨b, j, none⟩ : Addr) ≠ p := fun j e => hn (by rw [← e])
  rw [World.cell?_setCell_other _ _ _ _ (hp 3), World.cell?_setCell_other _ _ _ _ (hp 2), World.cell?_setCell_other _ _ _ _ (hp 1), World.cell?_setCell_other _ _ _ _ (hp 0)]
  exact hc

/-- A disk stored into a block that holds one leaves the lists of any as they were. -/
theorem mem_past4 {w : World} {b : Nat} {A B A' B' : Option Addr} {n m n1 n2 m1 m2 : Nat} {s : List ByteArray} {c : List Wr} {f : Int} {x : Bool} (hb : Box w b [.slice A' n1 n2, .slice B' m1 m2, .int .i64 f, .bool x]) (h : Mem w A n B m s c) (v0 v1 v2 v3 : Value) :
    Mem ((((w.setCell ⟨b, 0, none⟩ v0).setCell ⟨b, 1, none⟩ v1).setCell ⟨b, 2, none⟩ v2).setCell ⟨b, 3, none⟩ v3) A n B m s c := by
  refine ⟨fun j t hj => ?_, fun j t hj => ?_, h.an, h.bn⟩
  · obtain ⟨a, ha, hl, hc⟩ := h.es j t hj
    exact ⟨a, ha, by simpa using hl, cell_past4 (off_box hb hc) hc v0 v1 v2 v3⟩
  · obtain ⟨a, ha, hl, hc, hd⟩ := h.ws j t hj
    have hne := off_box hb hd
    have hne1 : (a.add (j * 2)).block ≠ b := hne
    exact ⟨a, ha, by simpa using hl, cell_past4 hne1 hc v0 v1 v2 v3, cell_past4 hne hd v0 v1 v2 v3⟩

/-- What a write makes of a disk with a fuse: a disk, a number, and what the law asks of them. -/
theorem fuse_step (A B : Option Addr) (n m : Nat) (s : List ByteArray) (c : List Wr) (f : Int) (x : Bool) (i : Int) (d : ByteArray) (k N : Nat) (hN : N < 256) (hc : c.length ≤ 1000) (hk : k < N) (hf : x = false → f = (N : Int) - k) :
    ∃ c2 f2 x2 r k2, (∀ w, Mem w A n B m s c → Calls Try.prog 16 #[.agg #[.slice A s.length n, .slice B c.length m, .int .i64 f, .bool x], .int .i64 i, .string d] w (GivesD s c2 f2 x2 r w)) ∧
      k2 < N ∧ (x2 = false → f2 = (N : Int) - k2) ∧ ((r = 0 ∧ x2 = false ∧ c2.length = c.length + 1 ∧ k2 = k + 1) ∨ (r = 6 ∧ x2 = true ∧ c2.length = c.length ∧ k2 = k) ∨ (r ≠ 0 ∧ r ≠ 6 ∧ x2 = false ∧ c2.length = c.length ∧ k2 = k)) := by
  by_cases hr : reachE s.length i x = 0
  · obtain ⟨rfl, _, _⟩ := reach_zero hr
    have hf' := hf rfl
    by_cases hd : 64 < (d.size : Int)
    · exact ⟨c, f, false, 5, k, fun w hm => write_long A B n m s c f i false d w hm hr hd, hk, hf, .inr (.inr ⟨by omega, by omega, rfl, rfl, rfl⟩)⟩
    · by_cases h1 : f = 1
      · exact ⟨c, burnF f, true, 6, k, fun w hm => write_dies A B n m s c f i false d w hm hr hd (by omega) (by unfold burnD; rw [if_pos h1]), hk, (fun q => by cases q), .inr (.inl ⟨rfl, rfl, rfl, rfl⟩)⟩
      · refine ⟨c ++ [(i, d)], burnF f, false, 0, k + 1, fun w hm => write_any A B n m s c f i false d w hm hr hd (by omega) (by unfold burnD; rw [if_neg h1]) hc, by omega, fun _ => ?_, .inl ⟨rfl, rfl, by simp, rfl⟩⟩
        unfold burnF
        rw [if_pos (by omega)]
        omega
  · refine ⟨c, f, x, reachE s.length i x, k, fun w hm => write_stops A B n m s c f i x d w hm hr, hk, hf, ?_⟩
    cases x with
    | true => exact .inr (.inl ⟨rfl, rfl, rfl, rfl⟩)
    | false =>
      refine .inr (.inr ⟨hr, ?_, rfl, rfl, rfl⟩)
      unfold reachE
      rw [if_neg (by simp)]
      split
      · omega
      · split <;> omega

set_option maxHeartbeats 1000000 in
theorem fuses_great (A B W : Option Addr) (n m r : Nat) (s : List ByteArray) (c l : List Wr) (f N : Int) (x : Bool) (w : World) (hm : Mem w A n B m s c) (h : greatB s c = true) :
    Calls Try.prog 7 #[.agg #[.slice A s.length n, .slice B c.length m, .int .i64 f, .bool x], .int .u8 N, .slice W l.length r] w (Yes w) := by
  have BX := Lib.hid (Box.new w [.slice A s.length n, .slice B c.length m, .int .i64 f, .bool x] 25)
  have HM := Lib.hid hm; clear hm
  have HG := Lib.hid h; clear h
  go_enter Try.func7, Try.ntmps7
  go_wp2_with fail
  refine (alive_any _).mono ?_
  rintro e w1 ⟨rfl, hb1⟩
  have k1 := (BX.out.below hb1).cell
  have HB := Lib.hid (ext below1 hb1)
  clear hb1 BX
  go_wp2_with fail
  refine (great_any A B n m s c f x _ (HM.out.up HB.out).es (HM.out.up HB.out).ws).mono ?_
  rintro e w2 ⟨rfl, hb2⟩
  rw [HG.out]
  have HB2 := Lib.hid (ext HB.out hb2)
  clear hb2
  go_wp2_with fail
  go_ret
  exact ⟨rfl, HB2.out⟩

set_option maxHeartbeats 1000000 in
theorem fuses_stop (A B W : Option Addr) (n m r : Nat) (s : List ByteArray) (c l : List Wr) (f N : Int) (x : Bool) (w : World) (hm : Mem w A n B m s c) (h : greatB s c = false)
    (hs : rightB s c f = false ∨ (rightB s c f = true ∧ (x = true ∨ (x = false ∧ (50 < (l.length : Int) ∨ ((l.length : Int) ≤ 50 ∧ N = 0)))))) :
    Calls Try.prog 7 #[.agg #[.slice A s.length n, .slice B c.length m, .int .i64 f, .bool x], .int .u8 N, .slice W l.length r] w (Yes w) := by
  have BX := Lib.hid (Box.new w [.slice A s.length n, .slice B c.length m, .int .i64 f, .bool x] 25)
  have ML := Lib.hid (right_len h)
  have HM := Lib.hid hm; clear hm
  have HG := Lib.hid h; clear h
  have HS := Lib.hid hs; clear hs
  go_enter Try.func7, Try.ntmps7
  go_wp2_with fail
  refine (alive_any _).mono ?_
  rintro e w1 ⟨rfl, hb1⟩
  have k1 := (BX.out.below hb1).cell
  have b1 := Lib.hid (BX.out.below hb1)
  have HB := Lib.hid (ext below1 hb1)
  clear hb1 BX
  go_wp2_with fail
  refine (great_any A B n m s c f x _ (HM.out.up HB.out).es (HM.out.up HB.out).ws).mono ?_
  rintro e w2 ⟨rfl, hb2⟩
  rw [HG.out]
  have HB2 := Lib.hid (ext HB.out hb2)
  have b2 := Lib.hid (b1.out.below hb2)
  have k2 := b2.out.cell
  clear hb2 k1 b1
  go_wp2_with fail
  refine (rright_any A B n m s c f x _ (HM.out.up HB2.out).es (HM.out.up HB2.out).ws ML.out.2).mono ?_
  rintro e w3 ⟨rfl, hb3⟩
  have HB3 := Lib.hid (ext HB2.out hb3)
  have k3 := (b2.out.below hb3).cell
  clear hb3 k2 b2
  rcases HS.out with hr | ⟨hr, rfl | ⟨rfl, hl | ⟨hl, rfl⟩⟩⟩
  all_goals
    clear HS
    rw [hr]
    go_wp2_with fail
    go_ret
    exact ⟨rfl, HB3.out⟩
end Go.Proofs.Ytifcmpcgpcbljaa
