/- Vectors: what a mint and a retirement make, on both sides, for every vector and every generation. No other condition. -/
import Derived.Deep.RegionHeld3
import Derived.Test.YtabenngcmpjlhaaGreatKA
namespace Go.Proofs.YtabenngcmpjlhaaGreat
open Go.RowKit
theorem ne0 {g : Int} (h : ¬ g = 0) : (g == 0) = false := beq_eq_false_iff_ne.2 h
set_option maxHeartbeats 1000000 in
theorem mint_any (c b o p g : Int) (w : World) :
    Calls Tryz.prog 49 #[vecV c b o p, .int .u64 g] w fun e w' => e = .returned (.tuple #[vecV g (mintB c b g) (mintO c b o g) (mintP b o p g), .int .i64 (mintE g)]) ∧ Below w.heap.size w w' := by
  unfold mintB mintO mintP mintE
  by_cases hg : g = 0
  · subst hg
    go_enter Tryz.func49, Tryz.ntmps49
    go_wp2
    refine bodyPost_ret (v := .tuple #[vecV 0 0 0 0, .int .i64 14]) (by simp [results, Tryz.results49, go_sem]) rfl ⟨rfl, ?_⟩
    exact ext_alloc (ext_alloc (Below.refl _ _) _) _
  · simp only [if_neg hg]
    have hg2 := ne0 hg
    clear hg
    by_cases hb : b = 0
    · subst hb
      go_enter Tryz.func49, Tryz.ntmps49
      go_wp2
      refine bodyPost_ret (v := .tuple #[vecV g c o p, .int .i64 0]) (by simp [results, Tryz.results49, go_sem]) rfl ⟨rfl, ?_⟩
      exact ext_alloc (ext_alloc (Below.refl _ _) _) _
    · simp only [if_neg hb]
      have hb2 := ne0 hb
      clear hb
      go_enter Tryz.func49, Tryz.ntmps49
      go_wp2_with fail
      have hx1 := Lib.hid ((Box.new w [.int .u64 c, .int .u64 b, .int .u64 o, .int .u64 p] 35).alloc (.cells #[.int .u64 0, .int .u64 0, .int .u64 0, .int .u64 0] 35))
      have hx2 := Lib.hid (Box.new2 w (.cells #[.int .u64 c, .int .u64 b, .int .u64 o, .int .u64 p] 35) [.int .u64 0, .int .u64 0, .int .u64 0, .int .u64 0] 35)
      refine (elder_any o p c _).mono ?_
      rintro e w1 ⟨rfl, hb1⟩
      have HB := Lib.hid hb1
      have X1 := hx1.out.below hb1
      have X2 := hx2.out.below hb1
      clear hb1 hx1 hx2
      have c1 := X1.cell
      have c2 := X2.cell
      have f1 := X1.frozen
      have f2 := X2.frozen
      clear X1 X2
      go_wp2_with fail
      refine bodyPost_ret (v := .tuple #[vecV g b c o, .int .i64 0]) (by simp [results, Tryz.results49, go_sem, c2]) rfl ⟨rfl, ?_⟩
      exact below4 ((((ext below2 HB.out).setCell (p := ⟨w.heap.size, 2, none⟩) (Nat.le_refl _) _).setCell (p := ⟨w.heap.size, 3, none⟩) (Nat.le_refl _) _).setCell (p := ⟨w.heap.size, 0, none⟩) (Nat.le_refl _) _) (by omega) _ _ _ _
set_option maxHeartbeats 1000000 in
theorem rmint_any (c b o p g : Int) (w : World) :
    Calls Tryz.prog 138 #[vecV c b o p, .int .u64 g] w fun e w' => e = .returned (.tuple #[vecV g (mintB c b g) (mintO c b o g) (mintP b o p g), .int .i64 (mintE g)]) ∧ Below w.heap.size w w' := by
  unfold mintB mintO mintP mintE
  by_cases hg : g = 0
  · subst hg
    go_enter Tryz.func138, Tryz.ntmps138
    go_wp2
    refine bodyPost_ret (v := .tuple #[vecV 0 0 0 0, .int .i64 14]) (by simp [results, Tryz.results138, go_sem]) rfl ⟨rfl, ?_⟩
    exact ext_alloc (ext_alloc (Below.refl _ _) _) _
  · simp only [if_neg hg]
    have hg2 := ne0 hg
    clear hg
    by_cases hb : b = 0
    · subst hb
      go_enter Tryz.func138, Tryz.ntmps138
      go_wp2
      refine bodyPost_ret (v := .tuple #[vecV g c o p, .int .i64 0]) (by simp [results, Tryz.results138, go_sem]) rfl ⟨rfl, ?_⟩
      exact ext_alloc (ext_alloc (Below.refl _ _) _) _
    · simp only [if_neg hb]
      have hb2 := ne0 hb
      clear hb
      go_enter Tryz.func138, Tryz.ntmps138
      go_wp2
      refine bodyPost_ret (v := .tuple #[vecV g b c o, .int .i64 0]) (by simp [results, Tryz.results138, go_sem]) rfl ⟨rfl, ?_⟩
      exact ext_alloc (ext_alloc (Below.refl _ _) _) _
set_option maxHeartbeats 1000000 in
theorem rretire_any (c b o p : Int) (w : World) :
    Calls Tryz.prog 144 #[vecV c b o p] w fun e w' => e = .returned (vecV c 0 (retO b o) (retP b o p)) ∧ Below w.heap.size w w' := by
  unfold retO retP
  by_cases hb : b = 0
  · subst hb
    go_enter Tryz.func144, Tryz.ntmps144
    go_wp2
    refine bodyPost_ret (v := vecV c 0 o p) (by simp [results, Tryz.results144, go_sem]) rfl ⟨rfl, ?_⟩
    exact ext_alloc (ext_alloc (Below.refl _ _) _) _
  · simp only [if_neg hb]
    have hb2 := ne0 hb
    clear hb
    go_enter Tryz.func144, Tryz.ntmps144
    go_wp2
    refine bodyPost_ret (v := vecV c 0 b o) (by simp [results, Tryz.results144, go_sem]) rfl ⟨rfl, ?_⟩
    exact ext_alloc (ext_alloc (Below.refl _ _) _) _
end Go.Proofs.YtabenngcmpjlhaaGreat
namespace Go.Proofs.YtabenngcmpjlhaaGreat
open Go.RowKit
def idxF (g : Int) : List Int → Nat → Int
  | [], _ => -1
  | x :: t, k => if x = g then k else idxF g t (k + 1)
def placeI (c b o p g : Int) : Int := if g = 0 then -1 else idxF g [c, b, o, p] 0
theorem idxF_at {g : Int} {l : List Int} {k : Nat} (h : k < l.length) (hx : l[k] = g) : idxF g (l.drop k) k = k := by
  rw [List.drop_eq_getElem_cons h]; simp [idxF, hx]
theorem idxF_on {g : Int} {l : List Int} {k : Nat} (h : k < l.length) (hx : ¬ l[k] = g) : idxF g (l.drop k) k = idxF g (l.drop (k + 1)) (k + 1) := by
  rw [List.drop_eq_getElem_cons h]; simp [idxF, hx]
set_option maxHeartbeats 1000000 in
theorem rplace_any (c b o p g : Int) (w : World) :
    Calls Tryz.prog 193 #[vecV c b o p, .int .u64 g] w fun e w' => e = .returned (.int .i64 (placeI c b o p g)) ∧ Below w.heap.size w w' := by
  unfold placeI
  by_cases hg : g = 0
  · subst hg
    go_enter Tryz.func193, Tryz.ntmps193
    go_wp2
    go_loop [6] (fun i => ∃ k : Nat, k ≤ 4 ∧ i = .int .i64 k) (fun i => 4 - (intOf i).toNat)
    case atStart => exact ⟨0, by omega, rfl⟩
    case round =>
      obtain ⟨k, hk, rfl⟩ := hrel
      by_cases hlt : k < 4
      · go_wp2
        go_round
        case rel => exact ⟨k + 1, by omega, by go_num⟩
        case measure => simp [intOf]; omega
      · obtain rfl : k = 4 := by omega
        go_wp2
        go_ret
        exact ⟨rfl, below2⟩
  · rw [if_neg hg]
    have hz : idxF g [c, b, o, p] 0 = idxF g (([c, b, o, p] : List Int).drop 0) 0 := rfl
    have HZ := Lib.hid hz; clear hz
    go_enter Tryz.func193, Tryz.ntmps193
    go_wp2
    go_loop [6] (fun i => ∃ k : Nat, k ≤ 4 ∧ i = .int .i64 k ∧ Hid (idxF g [c, b, o, p] 0 = idxF g (([c, b, o, p] : List Int).drop k) k)) (fun i => 4 - (intOf i).toNat)
    case atStart => exact ⟨0, by omega, rfl, HZ⟩
    case round =>
      obtain ⟨k, hk, rfl, hp⟩ := hrel
      clear HZ
      by_cases hlt : k < 4
      · have ha := @idxF_at g [c, b, o, p] k hlt
        have ho := @idxF_on g [c, b, o, p] k hlt
        have HA := Lib.hid ha; clear ha
        have HO := Lib.hid ho; clear ho
        have hx : ∃ x, x = ([c, b, o, p] : List Int)[k] := ⟨_, rfl⟩
        obtain ⟨x, hx⟩ := hx
        rw [← hx] at HA HO
        have hc : ∀ w : World, (((w.alloc (.cells #[.int .u64 c, .int .u64 b, .int .u64 o, .int .u64 p] 35)).alloc (.cells #[.int .u64 c, .int .u64 b, .int .u64 o, .int .u64 p] 212)).cell? ⟨w.heap.size + 1, k, none⟩) = some (.int .u64 x) := by
          intro w
          rw [(Box.new2 w _ [.int .u64 c, .int .u64 b, .int .u64 o, .int .u64 p] 212).cell k]
          show (([c, b, o, p] : List Int).map (Value.int .u64))[k]? = _
          rw [List.getElem?_map, List.getElem?_eq_getElem hlt, hx]; rfl
        clear hx
        by_cases hq : x = g
        · subst hq
          go_wp2
          go_ret
          exact ⟨ret_int (by rw [hp.out, HA.out trivial]), below2⟩
        · have hn : Hid (¬ x = g) := hq
          have hq2 : (x == g) = false := beq_eq_false_iff_ne.2 hq
          clear hq
          go_wp2
          go_round
          case rel => exact ⟨k + 1, by omega, by go_num, by unfold Hid; rw [hp.out, HO.out hn.out]⟩
          case measure => simp [intOf]; omega
      · obtain rfl : k = 4 := by omega
        have hq : idxF g [c, b, o, p] 0 = -1 := hp.out
        have HQ := Lib.hid hq; clear hq hp
        go_wp2
        go_ret
        exact ⟨ret_int HQ.out.symm, below2⟩
end Go.Proofs.YtabenngcmpjlhaaGreat
namespace Go.Proofs.YtabenngcmpjlhaaGreat
open Go.RowKit
end Go.Proofs.YtabenngcmpjlhaaGreat
