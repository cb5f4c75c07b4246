/- Vectors: what a mint and a retirement make, on both sides, for every vector and every generation. No other condition. -/
import Derived.Deep.RegionHeld3
import Derived.Test.YtabenngcmpjlhaaGreatDoorKA
namespace Go.Proofs.YtabenngcmpjlhaaGreatDoor
open Go.RowKit
theorem ne0 {g : Int} (h : ¬ g = 0) : (g == 0) = false := beq_eq_false_iff_ne.2 h
set_option maxHeartbeats 1000000 in
theorem rmint_any (c b o p g : Int) (w : World) :
    Calls Tryz.prog 244 #[vecV c b o p, .int .u64 g] w fun e w' => e = .returned (.tuple #[vecV g (mintB c b g) (mintO c b o g) (mintP b o p g), .int .i64 (mintE g)]) ∧ Below w.heap.size w w' := by
  unfold mintB mintO mintP mintE
  by_cases hg : g = 0
  · subst hg
    go_enter Tryz.func244, Tryz.ntmps244
    go_wp2
    refine bodyPost_ret (v := .tuple #[vecV 0 0 0 0, .int .i64 14]) (by simp [results, Tryz.results244, go_sem]) rfl ⟨rfl, ?_⟩
    exact ext_alloc (ext_alloc (Below.refl _ _) _) _
  · simp only [if_neg hg]
    have hg2 := ne0 hg
    clear hg
    by_cases hb : b = 0
    · subst hb
      go_enter Tryz.func244, Tryz.ntmps244
      go_wp2
      refine bodyPost_ret (v := .tuple #[vecV g c o p, .int .i64 0]) (by simp [results, Tryz.results244, go_sem]) rfl ⟨rfl, ?_⟩
      exact ext_alloc (ext_alloc (Below.refl _ _) _) _
    · simp only [if_neg hb]
      have hb2 := ne0 hb
      clear hb
      go_enter Tryz.func244, Tryz.ntmps244
      go_wp2
      refine bodyPost_ret (v := .tuple #[vecV g b c o, .int .i64 0]) (by simp [results, Tryz.results244, go_sem]) rfl ⟨rfl, ?_⟩
      exact ext_alloc (ext_alloc (Below.refl _ _) _) _
set_option maxHeartbeats 1000000 in
theorem retire_any (c b o p : Int) (w : World) :
    Calls Tryz.prog 61 #[vecV c b o p] w fun e w' => e = .returned (vecV c 0 (retO b o) (retP b o p)) ∧ Below w.heap.size w w' := by
  unfold retO retP
  by_cases hb : b = 0
  · subst hb
    go_enter Tryz.func61, Tryz.ntmps61
    go_wp2
    refine bodyPost_ret (v := vecV c 0 o p) (by simp [results, Tryz.results61, go_sem]) rfl ⟨rfl, ?_⟩
    exact ext_alloc (ext_alloc (Below.refl _ _) _) _
  · simp only [if_neg hb]
    have hb2 := ne0 hb
    clear hb
    go_enter Tryz.func61, Tryz.ntmps61
    go_wp2_with fail
    have hx1 := Lib.hid ((Box.new w [.int .u64 c, .int .u64 b, .int .u64 o, .int .u64 p] 34).alloc (.cells #[.int .u64 0, .int .u64 0, .int .u64 0, .int .u64 0] 34))
    have hx2 := Lib.hid (Box.new2 w (.cells #[.int .u64 c, .int .u64 b, .int .u64 o, .int .u64 p] 34) [.int .u64 0, .int .u64 0, .int .u64 0, .int .u64 0] 34)
    refine (elder_any o p b _).mono ?_
    rintro e w1 ⟨rfl, hb1⟩
    have HB := Lib.hid hb1
    have X1 := hx1.out.below hb1
    have X2 := hx2.out.below hb1
    clear hb1 hx1 hx2
    have c1 := X1.cell
    have c2 := X2.cell
    have f1 := X1.frozen
    have f2 := X2.frozen
    clear X1 X2
    go_wp2_with fail
    refine bodyPost_ret (v := vecV c 0 b o) (by simp [results, Tryz.results61, go_sem, c2]) rfl ⟨rfl, ?_⟩
    exact below4 ((((ext below2 HB.out).setCell (p := ⟨w.heap.size, 2, none⟩) (Nat.le_refl _) _).setCell (p := ⟨w.heap.size, 3, none⟩) (Nat.le_refl _) _).setCell (p := ⟨w.heap.size, 1, none⟩) (Nat.le_refl _) _) (by omega) _ _ _ _
set_option maxHeartbeats 1000000 in
theorem rretire_any (c b o p : Int) (w : World) :
    Calls Tryz.prog 99 #[vecV c b o p] w fun e w' => e = .returned (vecV c 0 (retO b o) (retP b o p)) ∧ Below w.heap.size w w' := by
  unfold retO retP
  by_cases hb : b = 0
  · subst hb
    go_enter Tryz.func99, Tryz.ntmps99
    go_wp2
    refine bodyPost_ret (v := vecV c 0 o p) (by simp [results, Tryz.results99, go_sem]) rfl ⟨rfl, ?_⟩
    exact ext_alloc (ext_alloc (Below.refl _ _) _) _
  · simp only [if_neg hb]
    have hb2 := ne0 hb
    clear hb
    go_enter Tryz.func99, Tryz.ntmps99
    go_wp2
    refine bodyPost_ret (v := vecV c 0 b o) (by simp [results, Tryz.results99, go_sem]) rfl ⟨rfl, ?_⟩
    exact ext_alloc (ext_alloc (Below.refl _ _) _) _
end Go.Proofs.YtabenngcmpjlhaaGreatDoor
namespace Go.Proofs.YtabenngcmpjlhaaGreatDoor
open Go.RowKit
def idxF (g : Int) : List Int → Nat → Int
  | [], _ => -1
  | x :: t, k => if x = g then k else idxF g t (k + 1)
def placeI (c b o p g : Int) : Int := if g = 0 then -1 else idxF g [c, b, o, p] 0
theorem idxF_at {g : Int} {l : List Int} {k : Nat} (h : k < l.length) (hx : l[k] = g) : idxF g (l.drop k) k = k := by
  rw [List.drop_eq_getElem_cons h]; simp [idxF, hx]
theorem idxF_on {g : Int} {l : List Int} {k : Nat} (h : k < l.length) (hx : ¬ l[k] = g) : idxF g (l.drop k) k = idxF g (l.drop (k + 1)) (k + 1) := by
  rw [List.drop_eq_getElem_cons h]; simp [idxF, hx]
theorem idxF_end {g : Int} {l : List Int} : idxF g (l.drop l.length) l.length = -1 := by
  rw [List.drop_length]; rfl
set_option maxHeartbeats 1000000 in
theorem index_any (A : Option Addr) (c : Nat) (l : List Int) (g : Int) (w : World) (D : Nat) (h : Es (Value.int .u64) w D A l) (hm : l.length ≤ maxLen) :
    Calls Tryz.prog 242 #[.slice A l.length c, .int .u64 g] w fun e w' => e = .returned (.int .i64 (idxF g l 0)) ∧ w' = w := by
  unfold maxLen at hm
  have H1 := Lib.hid h; clear h
  have hz : idxF g l 0 = idxF g (l.drop 0) 0 := by rw [List.drop_zero]
  have HZ := Lib.hid hz; clear hz
  go_enter Tryz.func242, Tryz.ntmps242
  go_wp2
  go_loop [5, 8] (fun _ i => ∃ k : Nat, k ≤ l.length ∧ i = .int .i64 k ∧ Hid (idxF g l 0 = idxF g (l.drop k) k)) (fun _ i => l.length - (intOf i).toNat)
  case atStart => exact ⟨0, by omega, rfl, HZ⟩
  case round =>
    obtain ⟨k, hk, rfl, hp⟩ := hrel
    clear HZ
    by_cases hlt : k < l.length
    · obtain ⟨a1, rfl, hb1, hc1⟩ := H1.out k l[k] (List.getElem?_eq_getElem hlt)
      have ha := @idxF_at g l k hlt
      have ho := @idxF_on g l k hlt
      have HA := Lib.hid ha; clear ha
      have HO := Lib.hid ho; clear ho
      generalize l[k] = x at *
      by_cases hx : g = x
      · subst hx
        go_wp2
        go_ret
        exact ⟨ret_int (by rw [hp.out, HA.out trivial]), rfl⟩
      · have hq : (g == x) = false := beq_eq_false_iff_ne.2 hx
        have hn : Hid (¬ x = g) := fun e => hx e.symm
        clear hx
        go_wp2
        go_round
        case rel => exact ⟨k + 1, by omega, by go_num, by unfold Hid; rw [hp.out, HO.out hn.out]⟩
        case measure => simp [intOf]; omega
    · obtain rfl : k = l.length := by omega
      have hq := hp.out
      rw [idxF_end] at hq
      have HQ := Lib.hid hq; clear hq hp
      go_wp2
      go_ret
      exact ⟨ret_int HQ.out.symm, rfl⟩
set_option maxHeartbeats 1000000 in
theorem place_any (c b o p g : Int) (w : World) :
    Calls Tryz.prog 211 #[vecV c b o p, .int .u64 g] w fun e w' => e = .returned (.int .i64 (placeI c b o p g)) ∧ Below w.heap.size w w' := by
  unfold placeI
  by_cases hg : g = 0
  · subst hg
    go_enter Tryz.func211, Tryz.ntmps211
    go_wp2
    go_ret
    exact ⟨rfl, below1⟩
  · rw [if_neg hg]
    have hg2 := ne0 hg
    clear hg
    have hi := index_any (some ⟨w.heap.size + 1, 0, none⟩) 4 [c, b, o, p] g _ _ (es_new2 (Value.int .u64) w (.cells #[.int .u64 c, .int .u64 b, .int .u64 o, .int .u64 p] 34) [c, b, o, p] 31) (by simp [maxLen])
    generalize idxF g [c, b, o, p] 0 = r at *
    go_enter Tryz.func211, Tryz.ntmps211
    go_wp2_with fail
    refine hi.mono ?_
    rintro e w1 ⟨rfl, rfl⟩
    go_wp2_with fail
    go_ret
    exact ⟨rfl, below2⟩
set_option maxHeartbeats 1000000 in
theorem rplace_any (c b o p g : Int) (w : World) :
    Calls Tryz.prog 88 #[vecV c b o p, .int .u64 g] w fun e w' => e = .returned (.int .i64 (placeI c b o p g)) ∧ Below w.heap.size w w' := by
  unfold placeI
  by_cases hg : g = 0
  · subst hg
    go_enter Tryz.func88, Tryz.ntmps88
    go_wp2
    go_loop [6] (fun i => ∃ k : Nat, k ≤ 4 ∧ i = .int .i64 k) (fun i => 4 - (intOf i).toNat)
    case atStart => exact ⟨0, by omega, rfl⟩
    case round =>
      obtain ⟨k, hk, rfl⟩ := hrel
      by_cases hlt : k < 4
      · go_wp2
        go_round
        case rel => exact ⟨k + 1, by omega, by go_num⟩
        case measure => simp [intOf]; omega
      · obtain rfl : k = 4 := by omega
        go_wp2
        go_ret
        exact ⟨rfl, below2⟩
  · rw [if_neg hg]
    have hz : idxF g [c, b, o, p] 0 = idxF g (([c, b, o, p] : List Int).drop 0) 0 := rfl
    have HZ := Lib.hid hz; clear hz
    go_enter Tryz.func88, Tryz.ntmps88
    go_wp2
    go_loop [6] (fun i => ∃ k : Nat, k ≤ 4 ∧ i = .int .i64 k ∧ Hid (idxF g [c, b, o, p] 0 = idxF g (([c, b, o, p] : List Int).drop k) k)) (fun i => 4 - (intOf i).toNat)
    case atStart => exact ⟨0, by omega, rfl, HZ⟩
    case round =>
      obtain ⟨k, hk, rfl, hp⟩ := hrel
      clear HZ
      by_cases hlt : k < 4
      · have ha := @idxF_at g [c, b, o, p] k hlt
        have ho := @idxF_on g [c, b, o, p] k hlt
        have HA := Lib.hid ha; clear ha
        have HO := Lib.hid ho; clear ho
        have hx : ∃ x, x = ([c, b, o, p] : List Int)[k] := ⟨_, rfl⟩
        obtain ⟨x, hx⟩ := hx
        rw [← hx] at HA HO
        have hc : ∀ w : World, (((w.alloc (.cells #[.int .u64 c, .int .u64 b, .int .u64 o, .int .u64 p] 34)).alloc (.cells #[.int .u64 c, .int .u64 b, .int .u64 o, .int .u64 p] 186)).cell? ⟨w.heap.size + 1, k, none⟩) = some (.int .u64 x) := by
          intro w
          rw [(Box.new2 w _ [.int .u64 c, .int .u64 b, .int .u64 o, .int .u64 p] 186).cell k]
          show (([c, b, o, p] : List Int).map (Value.int .u64))[k]? = _
          rw [List.getElem?_map, List.getElem?_eq_getElem hlt, hx]; rfl
        clear hx
        by_cases hq : x = g
        · subst hq
          go_wp2
          go_ret
          exact ⟨ret_int (by rw [hp.out, HA.out trivial]), below2⟩
        · have hn : Hid (¬ x = g) := hq
          have hq2 : (x == g) = false := beq_eq_false_iff_ne.2 hq
          clear hq
          go_wp2
          go_round
          case rel => exact ⟨k + 1, by omega, by go_num, by unfold Hid; rw [hp.out, HO.out hn.out]⟩
          case measure => simp [intOf]; omega
      · obtain rfl : k = 4 := by omega
        have hq : idxF g [c, b, o, p] 0 = -1 := hp.out
        have HQ := Lib.hid hq; clear hq hp
        go_wp2
        go_ret
        exact ⟨ret_int HQ.out.symm, below2⟩
end Go.Proofs.YtabenngcmpjlhaaGreatDoor
namespace Go.Proofs.YtabenngcmpjlhaaGreatDoor
open Go.RowKit
def missB (c b o p g : Int) : Bool := decide (placeI c b o p g < 0)
def hasAll (c b o p : Int) (l : List Int) : Bool := !(l.any (missB c b o p))
set_option maxHeartbeats 400000 in
theorem miss_any (q : Nat) (c b o p g : Int) (w : World) (hx : Box w q [.int .u64 c, .int .u64 b, .int .u64 o, .int .u64 p]) :
    Calls Tryz.prog 210 #[.int .u64 g, .pointer (some ⟨q, 0, none⟩)] w fun e w' => e = .returned (.bool (missB c b o p g)) ∧ Below w.heap.size w w' := by
  unfold missB
  have hp := fun w => place_any c b o p g w
  generalize placeI c b o p g = r at *
  have k := hx.cell
  clear hx
  go_enter Tryz.func210, Tryz.ntmps210
  go_wp2_with fail
  refine (hp _).mono ?_
  rintro e w1 ⟨rfl, hb1⟩
  have HB := Lib.hid hb1; clear hb1
  go_wp2_with fail
  go_ret
  exact ⟨rfl, HB.out⟩
set_option maxHeartbeats 1000000 in
theorem idxMiss_any (A : Option Addr) (n : Nat) (l : List Int) (q : Nat) (c b o p : Int) (w : World) (h : Es (Value.int .u64) w w.heap.size A l) (hm : l.length ≤ maxLen) (hx : Box w q [.int .u64 c, .int .u64 b, .int .u64 o, .int .u64 p]) :
    Calls Tryz.prog 243 #[.slice A l.length n, .func (.func 210) #[] #[.pointer (some ⟨q, 0, none⟩)]] w fun e w' => (∃ i : Int, e = .returned (.int .i64 i) ∧ decide (0 ≤ i) = l.any (missB c b o p)) ∧ Below w.heap.size w w' := by
  unfold maxLen at hm
  have H1 := Lib.hid h; clear h
  have HC := Lib.hid hx; clear hx
  go_enter Tryz.func243, Tryz.ntmps243
  go_wp2
  go_loopw [5, 8] (fun _ i wr => ∃ k : Nat, k ≤ l.length ∧ i = .int .i64 k ∧ Hid ((l.take k).any (missB c b o p) = false) ∧ Hid (Below w.heap.size w wr)) (fun _ i _ => l.length - (intOf i).toNat)
  case atStart => exact ⟨0, by omega, rfl, by simp [Hid], Below.refl _ _⟩
  case round =>
    obtain ⟨k, hk, rfl, hp, HB⟩ := hrel
    by_cases hlt : k < l.length
    · obtain ⟨a1, rfl, hb1, hc1⟩ := (H1.out.below HB.out HB.out.size) k l[k] (List.getElem?_eq_getElem hlt)
      have hs := any_take (missB c b o p) l k hlt hp.out
      have hh := any_hit (missB c b o p) l k hlt
      have HS := Lib.hid hs; clear hs
      have HH := Lib.hid hh; clear hh
      have hq := miss_any q c b o p l[k] wr (HC.out.below HB.out)
      clear hp
      generalize l[k] = x at *
      cases hx : missB c b o p x with
      | true =>
        rw [hx] at hq
        go_wp2_with fail
        refine hq.mono ?_
        rintro e w2 ⟨rfl, hb2⟩
        have HB2 := Lib.hid hb2; clear hb2
        go_wp2_with fail
        go_ret
        exact ⟨⟨_, rfl, by rw [HH.out hx]; simp⟩, ext HB.out HB2.out⟩
      | false =>
        rw [hx] at hq
        go_wp2_with fail
        refine hq.mono ?_
        rintro e w2 ⟨rfl, hb2⟩
        have HB2 := Lib.hid hb2; clear hb2
        go_wp2_with fail
        go_roundw
        case rel => exact ⟨k + 1, by omega, by go_num, by unfold Hid; rw [HS.out, hx], ext HB.out HB2.out⟩
        case measure => simp [intOf]; omega
    · obtain rfl : k = l.length := by omega
      rw [List.take_length] at hp
      go_wp2
      go_ret
      exact ⟨⟨_, rfl, by rw [hp.out]; rfl⟩, HB.out⟩
set_option maxHeartbeats 400000 in
theorem conMiss_any (A : Option Addr) (n : Nat) (l : List Int) (q : Nat) (c b o p : Int) (w : World) (h : Es (Value.int .u64) w w.heap.size A l) (hm : l.length ≤ maxLen) (hx : Box w q [.int .u64 c, .int .u64 b, .int .u64 o, .int .u64 p]) :
    Calls Tryz.prog 212 #[.slice A l.length n, .func (.func 210) #[] #[.pointer (some ⟨q, 0, none⟩)]] w fun e w' => e = .returned (.bool (l.any (missB c b o p))) ∧ Below w.heap.size w w' := by
  have hi := idxMiss_any A n l q c b o p w h hm hx
  generalize l.any (missB c b o p) = v at *
  clear h hx
  go_enter Tryz.func212, Tryz.ntmps212
  go_wp2_with fail
  refine hi.mono ?_
  rintro e w1 ⟨⟨i, rfl, hq⟩, hbb⟩
  clear hi
  have HI := Lib.hid hq; clear hq
  have HB := Lib.hid hbb; clear hbb
  go_wp2_with fail
  go_ret
  exact ⟨ret_bool HI.out, HB.out⟩
set_option maxHeartbeats 400000 in
theorem vhas_any (A : Option Addr) (n : Nat) (l : List Int) (c b o p : Int) (w : World) (h : Es (Value.int .u64) w w.heap.size A l) (hm : l.length ≤ maxLen) :
    Calls Tryz.prog 166 #[vecV c b o p, .slice A l.length n] w fun e w' => e = .returned (.bool (hasAll c b o p l)) ∧ Below w.heap.size w w' := by
  unfold hasAll
  have hi := conMiss_any A n l w.heap.size c b o p _ (h.up below1) hm (Box.new w [.int .u64 c, .int .u64 b, .int .u64 o, .int .u64 p] 34)
  generalize l.any (missB c b o p) = v at *
  clear h
  go_enter Tryz.func166, Tryz.ntmps166
  go_wp2_with fail
  refine hi.mono ?_
  rintro e w1 ⟨rfl, hbb⟩
  clear hi
  have HB := Lib.hid hbb; clear hbb
  go_wp2_with fail
  go_ret
  exact ⟨rfl, ext below1 HB.out⟩
end Go.Proofs.YtabenngcmpjlhaaGreatDoor
