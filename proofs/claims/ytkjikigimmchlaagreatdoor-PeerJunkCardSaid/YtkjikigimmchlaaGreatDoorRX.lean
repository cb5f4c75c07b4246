/- Rule: the verdict of two hellos in plain numbers, and that both ways of deciding answer it; for every two hellos. No other condition. -/
import Derived.Deep.RegionHeld3
import Derived.Test.YtkjikigimmchlaaGreatDoorKA
import Derived.Test.YtkjikigimmchlaaGreatDoorPV
import Derived.Test.YtkjikigimmchlaaGreatDoorQ3
namespace Go.Proofs.YtkjikigimmchlaaGreatDoor
open Go.RowKit
theorem ne0 {g : Int} (h : ¬ g = 0) : (g == 0) = false := beq_eq_false_iff_ne.2 h
set_option maxHeartbeats 1000000 in
theorem rmint_any (c b o p g : Int) (w : World) :
    Calls Tryz.prog 194 #[vecV c b o p, .int .u64 g] w fun e w' => e = .returned (.tuple #[vecV g (mintB c b g) (mintO c b o g) (mintP b o p g), .int .i64 (mintE g)]) ∧ Below w.heap.size w w' := by
  unfold mintB mintO mintP mintE
  by_cases hg : g = 0
  · subst hg
    go_enter Tryz.func194, Tryz.ntmps194
    go_wp2
    refine bodyPost_ret (v := .tuple #[vecV 0 0 0 0, .int .i64 14]) (by simp [results, Tryz.results194, go_sem]) rfl ⟨rfl, ?_⟩
    exact ext_alloc (ext_alloc (Below.refl _ _) _) _
  · simp only [if_neg hg]
    have hg2 := ne0 hg
    clear hg
    by_cases hb : b = 0
    · subst hb
      go_enter Tryz.func194, Tryz.ntmps194
      go_wp2
      refine bodyPost_ret (v := .tuple #[vecV g c o p, .int .i64 0]) (by simp [results, Tryz.results194, go_sem]) rfl ⟨rfl, ?_⟩
      exact ext_alloc (ext_alloc (Below.refl _ _) _) _
    · simp only [if_neg hb]
      have hb2 := ne0 hb
      clear hb
      go_enter Tryz.func194, Tryz.ntmps194
      go_wp2
      refine bodyPost_ret (v := .tuple #[vecV g b c o, .int .i64 0]) (by simp [results, Tryz.results194, go_sem]) rfl ⟨rfl, ?_⟩
      exact ext_alloc (ext_alloc (Below.refl _ _) _) _
set_option maxHeartbeats 1000000 in
theorem retire_any (c b o p : Int) (w : World) :
    Calls Tryz.prog 81 #[vecV c b o p] w fun e w' => e = .returned (vecV c 0 (retO b o) (retP b o p)) ∧ Below w.heap.size w w' := by
  unfold retO retP
  by_cases hb : b = 0
  · subst hb
    go_enter Tryz.func81, Tryz.ntmps81
    go_wp2
    refine bodyPost_ret (v := vecV c 0 o p) (by simp [results, Tryz.results81, go_sem]) rfl ⟨rfl, ?_⟩
    exact ext_alloc (ext_alloc (Below.refl _ _) _) _
  · simp only [if_neg hb]
    have hb2 := ne0 hb
    clear hb
    go_enter Tryz.func81, Tryz.ntmps81
    go_wp2_with fail
    have hx1 := Lib.hid ((Box.new w [.int .u64 c, .int .u64 b, .int .u64 o, .int .u64 p] 34).alloc (.cells #[.int .u64 0, .int .u64 0, .int .u64 0, .int .u64 0] 34))
    have hx2 := Lib.hid (Box.new2 w (.cells #[.int .u64 c, .int .u64 b, .int .u64 o, .int .u64 p] 34) [.int .u64 0, .int .u64 0, .int .u64 0, .int .u64 0] 34)
    refine (elder_any o p b _).mono ?_
    rintro e w1 ⟨rfl, hb1⟩
    have HB := Lib.hid hb1
    have X1 := hx1.out.below hb1
    have X2 := hx2.out.below hb1
    clear hb1 hx1 hx2
    have c1 := X1.cell
    have c2 := X2.cell
    have f1 := X1.frozen
    have f2 := X2.frozen
    clear X1 X2
    go_wp2_with fail
    refine bodyPost_ret (v := vecV c 0 b o) (by simp [results, Tryz.results81, go_sem, c2]) rfl ⟨rfl, ?_⟩
    exact below4 ((((ext below2 HB.out).setCell (p := ⟨w.heap.size, 2, none⟩) (Nat.le_refl _) _).setCell (p := ⟨w.heap.size, 3, none⟩) (Nat.le_refl _) _).setCell (p := ⟨w.heap.size, 1, none⟩) (Nat.le_refl _) _) (by omega) _ _ _ _
set_option maxHeartbeats 1000000 in
theorem rretire_any (c b o p : Int) (w : World) :
    Calls Tryz.prog 200 #[vecV c b o p] w fun e w' => e = .returned (vecV c 0 (retO b o) (retP b o p)) ∧ Below w.heap.size w w' := by
  unfold retO retP
  by_cases hb : b = 0
  · subst hb
    go_enter Tryz.func200, Tryz.ntmps200
    go_wp2
    refine bodyPost_ret (v := vecV c 0 o p) (by simp [results, Tryz.results200, go_sem]) rfl ⟨rfl, ?_⟩
    exact ext_alloc (ext_alloc (Below.refl _ _) _) _
  · simp only [if_neg hb]
    have hb2 := ne0 hb
    clear hb
    go_enter Tryz.func200, Tryz.ntmps200
    go_wp2
    refine bodyPost_ret (v := vecV c 0 b o) (by simp [results, Tryz.results200, go_sem]) rfl ⟨rfl, ?_⟩
    exact ext_alloc (ext_alloc (Below.refl _ _) _) _
end Go.Proofs.YtkjikigimmchlaaGreatDoor
namespace Go.Proofs.YtkjikigimmchlaaGreatDoor
open Go.RowKit
def idxF (g : Int) : List Int → Nat → Int
  | [], _ => -1
  | x :: t, k => if x = g then k else idxF g t (k + 1)
def placeI (c b o p g : Int) : Int := if g = 0 then -1 else idxF g [c, b, o, p] 0
theorem idxF_at {g : Int} {l : List Int} {k : Nat} (h : k < l.length) (hx : l[k] = g) : idxF g (l.drop k) k = k := by
  rw [List.drop_eq_getElem_cons h]; simp [idxF, hx]
theorem idxF_on {g : Int} {l : List Int} {k : Nat} (h : k < l.length) (hx : ¬ l[k] = g) : idxF g (l.drop k) k = idxF g (l.drop (k + 1)) (k + 1) := by
  rw [List.drop_eq_getElem_cons h]; simp [idxF, hx]
theorem idxF_end {g : Int} {l : List Int} : idxF g (l.drop l.length) l.length = -1 := by
  rw [List.drop_length]; rfl
set_option maxHeartbeats 1000000 in
theorem index_any (A : Option Addr) (c : Nat) (l : List Int) (g : Int) (w : World) (D : Nat) (h : Es (Value.int .u64) w D A l) (hm : l.length ≤ maxLen) :
    Calls Tryz.prog 243 #[.slice A l.length c, .int .u64 g] w fun e w' => e = .returned (.int .i64 (idxF g l 0)) ∧ w' = w := by
  unfold maxLen at hm
  have H1 := Lib.hid h; clear h
  have hz : idxF g l 0 = idxF g (l.drop 0) 0 := by rw [List.drop_zero]
  have HZ := Lib.hid hz; clear hz
  go_enter Tryz.func243, Tryz.ntmps243
  go_wp2
  go_loop [5, 8] (fun _ i => ∃ k : Nat, k ≤ l.length ∧ i = .int .i64 k ∧ Hid (idxF g l 0 = idxF g (l.drop k) k)) (fun _ i => l.length - (intOf i).toNat)
  case atStart => exact ⟨0, by omega, rfl, HZ⟩
  case round =>
    obtain ⟨k, hk, rfl, hp⟩ := hrel
    clear HZ
    by_cases hlt : k < l.length
    · obtain ⟨a1, rfl, hb1, hc1⟩ := H1.out k l[k] (List.getElem?_eq_getElem hlt)
      have ha := @idxF_at g l k hlt
      have ho := @idxF_on g l k hlt
      have HA := Lib.hid ha; clear ha
      have HO := Lib.hid ho; clear ho
      generalize l[k] = x at *
      by_cases hx : g = x
      · subst hx
        go_wp2
        go_ret
        exact ⟨ret_int (by rw [hp.out, HA.out trivial]), rfl⟩
      · have hq : (g == x) = false := beq_eq_false_iff_ne.2 hx
        have hn : Hid (¬ x = g) := fun e => hx e.symm
        clear hx
        go_wp2
        go_round
        case rel => exact ⟨k + 1, by omega, by go_num, by unfold Hid; rw [hp.out, HO.out hn.out]⟩
        case measure => simp [intOf]; omega
    · obtain rfl : k = l.length := by omega
      have hq := hp.out
      rw [idxF_end] at hq
      have HQ := Lib.hid hq; clear hq hp
      go_wp2
      go_ret
      exact ⟨ret_int HQ.out.symm, rfl⟩
set_option maxHeartbeats 1000000 in
theorem place_any (c b o p g : Int) (w : World) :
    Calls Tryz.prog 214 #[vecV c b o p, .int .u64 g] w fun e w' => e = .returned (.int .i64 (placeI c b o p g)) ∧ Below w.heap.size w w' := by
  unfold placeI
  by_cases hg : g = 0
  · subst hg
    go_enter Tryz.func214, Tryz.ntmps214
    go_wp2
    go_ret
    exact ⟨rfl, below1⟩
  · rw [if_neg hg]
    have hg2 := ne0 hg
    clear hg
    have hi := index_any (some ⟨w.heap.size + 1, 0, none⟩) 4 [c, b, o, p] g _ _ (es_new2 (Value.int .u64) w (.cells #[.int .u64 c, .int .u64 b, .int .u64 o, .int .u64 p] 34) [c, b, o, p] 31) (by simp [maxLen])
    generalize idxF g [c, b, o, p] 0 = r at *
    go_enter Tryz.func214, Tryz.ntmps214
    go_wp2_with fail
    refine hi.mono ?_
    rintro e w1 ⟨rfl, rfl⟩
    go_wp2_with fail
    go_ret
    exact ⟨rfl, below2⟩
set_option maxHeartbeats 1000000 in
theorem rplace_any (c b o p g : Int) (w : World) :
    Calls Tryz.prog 258 #[vecV c b o p, .int .u64 g] w fun e w' => e = .returned (.int .i64 (placeI c b o p g)) ∧ Below w.heap.size w w' := by
  unfold placeI
  by_cases hg : g = 0
  · subst hg
    go_enter Tryz.func258, Tryz.ntmps258
    go_wp2
    go_loop [6] (fun i => ∃ k : Nat, k ≤ 4 ∧ i = .int .i64 k) (fun i => 4 - (intOf i).toNat)
    case atStart => exact ⟨0, by omega, rfl⟩
    case round =>
      obtain ⟨k, hk, rfl⟩ := hrel
      by_cases hlt : k < 4
      · go_wp2
        go_round
        case rel => exact ⟨k + 1, by omega, by go_num⟩
        case measure => simp [intOf]; omega
      · obtain rfl : k = 4 := by omega
        go_wp2
        go_ret
        exact ⟨rfl, below2⟩
  · rw [if_neg hg]
    have hz : idxF g [c, b, o, p] 0 = idxF g (([c, b, o, p] : List Int).drop 0) 0 := rfl
    have HZ := Lib.hid hz; clear hz
    go_enter Tryz.func258, Tryz.ntmps258
    go_wp2
    go_loop [6] (fun i => ∃ k : Nat, k ≤ 4 ∧ i = .int .i64 k ∧ Hid (idxF g [c, b, o, p] 0 = idxF g (([c, b, o, p] : List Int).drop k) k)) (fun i => 4 - (intOf i).toNat)
    case atStart => exact ⟨0, by omega, rfl, HZ⟩
    case round =>
      obtain ⟨k, hk, rfl, hp⟩ := hrel
      clear HZ
      by_cases hlt : k < 4
      · have ha := @idxF_at g [c, b, o, p] k hlt
        have ho := @idxF_on g [c, b, o, p] k hlt
        have HA := Lib.hid ha; clear ha
        have HO := Lib.hid ho; clear ho
        have hx : ∃ x, x = ([c, b, o, p] : List Int)[k] := ⟨_, rfl⟩
        obtain ⟨x, hx⟩ := hx
        rw [← hx] at HA HO
        have hc : ∀ w : World, (((w.alloc (.cells #[.int .u64 c, .int .u64 b, .int .u64 o, .int .u64 p] 34)).alloc (.cells #[.int .u64 c, .int .u64 b, .int .u64 o, .int .u64 p] 282)).cell? ⟨w.heap.size + 1, k, none⟩) = some (.int .u64 x) := by
          intro w
          rw [(Box.new2 w _ [.int .u64 c, .int .u64 b, .int .u64 o, .int .u64 p] 282).cell k]
          show (([c, b, o, p] : List Int).map (Value.int .u64))[k]? = _
          rw [List.getElem?_map, List.getElem?_eq_getElem hlt, hx]; rfl
        clear hx
        by_cases hq : x = g
        · subst hq
          go_wp2
          go_ret
          exact ⟨ret_int (by rw [hp.out, HA.out trivial]), below2⟩
        · have hn : Hid (¬ x = g) := hq
          have hq2 : (x == g) = false := beq_eq_false_iff_ne.2 hq
          clear hq
          go_wp2
          go_round
          case rel => exact ⟨k + 1, by omega, by go_num, by unfold Hid; rw [hp.out, HO.out hn.out]⟩
          case measure => simp [intOf]; omega
      · obtain rfl : k = 4 := by omega
        have hq : idxF g [c, b, o, p] 0 = -1 := hp.out
        have HQ := Lib.hid hq; clear hq hp
        go_wp2
        go_ret
        exact ⟨ret_int HQ.out.symm, below2⟩
end Go.Proofs.YtkjikigimmchlaaGreatDoor
namespace Go.Proofs.YtkjikigimmchlaaGreatDoor
open Go.RowKit
def missB (c b o p g : Int) : Bool := decide (placeI c b o p g < 0)
def hasAll (c b o p : Int) (l : List Int) : Bool := !(l.any (missB c b o p))
set_option maxHeartbeats 400000 in
theorem miss_any (q : Nat) (c b o p g : Int) (w : World) (hx : Box w q [.int .u64 c, .int .u64 b, .int .u64 o, .int .u64 p]) :
    Calls Tryz.prog 213 #[.int .u64 g, .pointer (some ⟨q, 0, none⟩)] w fun e w' => e = .returned (.bool (missB c b o p g)) ∧ Below w.heap.size w w' := by
  unfold missB
  have hp := fun w => place_any c b o p g w
  generalize placeI c b o p g = r at *
  have k := hx.cell
  clear hx
  go_enter Tryz.func213, Tryz.ntmps213
  go_wp2_with fail
  refine (hp _).mono ?_
  rintro e w1 ⟨rfl, hb1⟩
  have HB := Lib.hid hb1; clear hb1
  go_wp2_with fail
  go_ret
  exact ⟨rfl, HB.out⟩
set_option maxHeartbeats 1000000 in
theorem idxMiss_any (A : Option Addr) (n : Nat) (l : List Int) (q : Nat) (c b o p : Int) (w : World) (h : Es (Value.int .u64) w w.heap.size A l) (hm : l.length ≤ maxLen) (hx : Box w q [.int .u64 c, .int .u64 b, .int .u64 o, .int .u64 p]) :
    Calls Tryz.prog 244 #[.slice A l.length n, .func (.func 213) #[] #[.pointer (some ⟨q, 0, none⟩)]] w fun e w' => (∃ i : Int, e = .returned (.int .i64 i) ∧ decide (0 ≤ i) = l.any (missB c b o p)) ∧ Below w.heap.size w w' := by
  unfold maxLen at hm
  have H1 := Lib.hid h; clear h
  have HC := Lib.hid hx; clear hx
  go_enter Tryz.func244, Tryz.ntmps244
  go_wp2
  go_loopw [5, 8] (fun _ i wr => ∃ k : Nat, k ≤ l.length ∧ i = .int .i64 k ∧ Hid ((l.take k).any (missB c b o p) = false) ∧ Hid (Below w.heap.size w wr)) (fun _ i _ => l.length - (intOf i).toNat)
  case atStart => exact ⟨0, by omega, rfl, by simp [Hid], Below.refl _ _⟩
  case round =>
    obtain ⟨k, hk, rfl, hp, HB⟩ := hrel
    by_cases hlt : k < l.length
    · obtain ⟨a1, rfl, hb1, hc1⟩ := (H1.out.below HB.out HB.out.size) k l[k] (List.getElem?_eq_getElem hlt)
      have hs := any_take (missB c b o p) l k hlt hp.out
      have hh := any_hit (missB c b o p) l k hlt
      have HS := Lib.hid hs; clear hs
      have HH := Lib.hid hh; clear hh
      have hq := miss_any q c b o p l[k] wr (HC.out.below HB.out)
      clear hp
      generalize l[k] = x at *
      cases hx : missB c b o p x with
      | true =>
        rw [hx] at hq
        go_wp2_with fail
        refine hq.mono ?_
        rintro e w2 ⟨rfl, hb2⟩
        have HB2 := Lib.hid hb2; clear hb2
        go_wp2_with fail
        go_ret
        exact ⟨⟨_, rfl, by rw [HH.out hx]; simp⟩, ext HB.out HB2.out⟩
      | false =>
        rw [hx] at hq
        go_wp2_with fail
        refine hq.mono ?_
        rintro e w2 ⟨rfl, hb2⟩
        have HB2 := Lib.hid hb2; clear hb2
        go_wp2_with fail
        go_roundw
        case rel => exact ⟨k + 1, by omega, by go_num, by unfold Hid; rw [HS.out, hx], ext HB.out HB2.out⟩
        case measure => simp [intOf]; omega
    · obtain rfl : k = l.length := by omega
      rw [List.take_length] at hp
      go_wp2
      go_ret
      exact ⟨⟨_, rfl, by rw [hp.out]; rfl⟩, HB.out⟩
set_option maxHeartbeats 400000 in
theorem conMiss_any (A : Option Addr) (n : Nat) (l : List Int) (q : Nat) (c b o p : Int) (w : World) (h : Es (Value.int .u64) w w.heap.size A l) (hm : l.length ≤ maxLen) (hx : Box w q [.int .u64 c, .int .u64 b, .int .u64 o, .int .u64 p]) :
    Calls Tryz.prog 215 #[.slice A l.length n, .func (.func 213) #[] #[.pointer (some ⟨q, 0, none⟩)]] w fun e w' => e = .returned (.bool (l.any (missB c b o p))) ∧ Below w.heap.size w w' := by
  have hi := idxMiss_any A n l q c b o p w h hm hx
  generalize l.any (missB c b o p) = v at *
  clear h hx
  go_enter Tryz.func215, Tryz.ntmps215
  go_wp2_with fail
  refine hi.mono ?_
  rintro e w1 ⟨⟨i, rfl, hq⟩, hbb⟩
  clear hi
  have HI := Lib.hid hq; clear hq
  have HB := Lib.hid hbb; clear hbb
  go_wp2_with fail
  go_ret
  exact ⟨ret_bool HI.out, HB.out⟩
set_option maxHeartbeats 400000 in
theorem vhas_any (A : Option Addr) (n : Nat) (l : List Int) (c b o p : Int) (w : World) (h : Es (Value.int .u64) w w.heap.size A l) (hm : l.length ≤ maxLen) :
    Calls Tryz.prog 173 #[vecV c b o p, .slice A l.length n] w fun e w' => e = .returned (.bool (hasAll c b o p l)) ∧ Below w.heap.size w w' := by
  unfold hasAll
  have hi := conMiss_any A n l w.heap.size c b o p _ (h.up below1) hm (Box.new w [.int .u64 c, .int .u64 b, .int .u64 o, .int .u64 p] 34)
  generalize l.any (missB c b o p) = v at *
  clear h
  go_enter Tryz.func173, Tryz.ntmps173
  go_wp2_with fail
  refine hi.mono ?_
  rintro e w1 ⟨rfl, hbb⟩
  clear hi
  have HB := Lib.hid hbb; clear hbb
  go_wp2_with fail
  go_ret
  exact ⟨rfl, ext below1 HB.out⟩
end Go.Proofs.YtkjikigimmchlaaGreatDoor
namespace Go.Proofs.YtkjikigimmchlaaGreatDoor
open Go.RowKit PX
set_option maxRecDepth 100000
set_option linter.unusedSimpArgs false
def plH (s : Hel) (g : Int) : Int := placeI s.c s.b s.o s.p g
def fstI (b : Bool) : Int := if b then 0 else 1
def knowsB (x y : Hel) : Bool := !decide (plH x y.c < 0)
def likeI (x y : Hel) : Int := if x.q || y.q then fstI x.q else fstI (x.r || !y.r)
def byPlace (s t : Hel) : Int :=
  if plH s t.c = 0 then (if t.i = false ∧ s.m = 0 ∧ t.m = 0 then 1 else 2) else if plH s t.c = 1 then 2 else if plH s t.c = 2 then 3 else if plH s t.c = 3 then 3 else 4
def kindI (s t : Hel) : Int :=
  if t.q then 4 else if t.i && s.d then 4 else if t.i && !decide (plH s t.b < 0) then 2 else if t.d then 3 else byPlace s t
def srcI (x y : Hel) : Int :=
  if x.n ≠ y.n then -1 else if x.q && y.q then -1 else if x.i && y.i then -1 else if x.d && y.d then -1
  else if x.i || y.i then fstI y.i else if x.d || y.d then fstI y.d else if x.c = y.c then likeI x y
  else if knowsB x y != knowsB y x then fstI (knowsB x y) else -1
@[reducible] def verV (k s : Int) : Value := .agg #[.int .i64 k, .int .i64 s]
def decK (x y : Hel) : Int := if srcI x y = 0 then kindI x y else if srcI x y = 1 then kindI y x else 4
def decS (x y : Hel) : Int := if decK x y = 4 then -1 else if decK x y = 1 then -1 else srcI x y
def ontoP (k s : Int) (q : Bool) : Int × Int := if q then (4, -1) else if k = 4 then (4, -1) else (k, s)
def rhalfI (s t : Hel) : Int :=
  if s.d then 4 else if 0 ≤ plH s t.b then 2 else if t.d then 3 else if plH s t.c < 0 then 4 else if plH s t.c ≤ 1 then 2 else 3
def tabI (p : Int) : Int := if p = 1 then 2 else 3
def rdP (x y : Hel) : Int × Int :=
  if x.n ≠ y.n then (4, -1) else if x.q && y.q then (4, -1) else if x.i && y.i then (4, -1) else if x.d && y.d then (4, -1)
  else if x.i then ontoP (rhalfI y x) 1 x.q else if y.i then ontoP (rhalfI x y) 0 y.q
  else if x.d then ontoP 3 1 x.q else if y.d then ontoP 3 0 y.q
  else if x.c = y.c then
    if x.m = 0 ∧ y.m = 0 then (1, -1) else if y.q || (!x.q && y.r && !x.r) then ontoP 2 1 x.q else ontoP 2 0 y.q
  else if 0 < plH x y.c ∧ plH y x.c < 0 then ontoP (tabI (plH x y.c)) 0 y.q
  else if 0 < plH y x.c ∧ plH x y.c < 0 then ontoP (tabI (plH y x.c)) 1 x.q else (4, -1)
theorem place_range (c b o p g : Int) (h : ¬ c = g) : placeI c b o p g = -1 ∨ placeI c b o p g = 1 ∨ placeI c b o p g = 2 ∨ placeI c b o p g = 3 := by
  unfold placeI
  simp only [idxF, if_neg h]
  by_cases h0 : g = 0
  · simp [h0]
  · rw [if_neg h0]
    by_cases h1 : b = g
    · simp [h1]
    · rw [if_neg h1]
      by_cases h2 : o = g
      · simp [h2]
      · rw [if_neg h2]
        by_cases h3 : p = g
        · simp [h3]
        · simp [h3]
theorem refuse_any (w : World) : Calls Tryz.prog 255 #[] w fun e w' => e = .returned (verV 4 (-1)) ∧ Below w.heap.size w w' := run_v e_r
theorem onto_any (k s : Int) (x : Hel) (w : World) : Calls Tryz.prog 256 #[.int .i64 k, .int .i64 s, helV x] w fun e w' => e = .returned (verV (ontoP k s x.q).1 (ontoP k s x.q).2) ∧ Below w.heap.size w w' := by
  obtain ⟨n, c, b, o, p, i, r, d, q, m⟩ := x
  refine run_v ?_
  cases q
  · by_cases h : k = 4
    · exact t_lit 2 (t_Y (b := decide (k = 4)) 9 (by simp [h]) (t_v (fun u _ => refuse_any u) (e_r2 (verV 4 (-1)) (by simp [ontoP, h]))))
    · exact t_lit 2 (t_N (b := decide (k = 4)) 9 (by simp [h]) (e_r2 (verV k s) (by simp [ontoP, h])))
  · exact t_lit 3 (t_v (fun u _ => refuse_any u) e_r)
theorem rhalf_any (x y : Hel) (w : World) : Calls Tryz.prog 257 #[helV x, helV y] w fun e w' => e = .returned (.int .i64 (rhalfI x y)) ∧ Below w.heap.size w w' := by
  obtain ⟨n, c, b, o, p, i, r, d, q, m⟩ := x
  obtain ⟨n2, c2, b2, o2, p2, i2, r2, d2, q2, m2⟩ := y
  refine run_v ?_
  unfold rhalfI plH
  dsimp only
  cases d
  · refine t_lit 1 (t_v (fun u _ => rplace_any c b o p b2 u) ?_)
    by_cases h1 : 0 ≤ placeI c b o p b2
    · exact t_Y (b := decide (placeI c b o p b2 ≥ 0)) 9 (by simpa using h1) (e_r2 (.int .i64 2) (by simp [h1]))
    refine t_N (b := decide (placeI c b o p b2 ≥ 0)) 0 (by simpa using h1) ?_
    cases d2
    · refine t_lit 1 (t_v (fun u _ => rplace_any c b o p c2 u) ?_)
      by_cases h2 : placeI c b o p c2 < 0
      · exact t_Y (b := decide (placeI c b o p c2 < 0)) 9 (by simpa using h2) (e_r2 (.int .i64 4) (by simp [h1, h2]))
      refine t_N (b := decide (placeI c b o p c2 < 0)) 0 (by simpa using h2) ?_
      by_cases h3 : placeI c b o p c2 ≤ 1
      · exact t_Y (b := decide (placeI c b o p c2 ≤ 1)) 9 (by simpa using h3) (e_r2 (.int .i64 2) (by simp [h1, h2, h3]))
      · exact t_N (b := decide (placeI c b o p c2 ≤ 1)) 9 (by simpa using h3) (e_r2 (.int .i64 3) (by simp [h1, h2, h3]))
    · exact t_lit 9 (e_r2 (.int .i64 3) (by simp [h1]))
  · exact t_lit 9 e_r
set_option maxHeartbeats 4000000 in
theorem rdecide_any (x y : Hel) (w : World) : Calls Tryz.prog 237 #[helV x, helV y] w fun e w' => e = .returned (verV (rdP x y).1 (rdP x y).2) ∧ Below w.heap.size w w' := by
  obtain ⟨n, c, b, o, p, i, r, d, q, m⟩ := x
  obtain ⟨n2, c2, b2, o2, p2, i2, r2, d2, q2, m2⟩ := y
  refine run_v ?_
  by_cases h1 : n = n2
  · refine t_Y (b := !(n != n2)) 2 (by simp [h1]) ?_
    cases q with
    | true =>
      refine t_lit 3 ?_
      cases q2 with
      | true =>
        refine t_lit 9 ?_
        exact t_v (fun u _ => refuse_any u) (e_r2 (verV 4 (-1)) (by simp [rdP, h1]))
      | false =>
        refine t_lit 3 ?_
        cases i with
        | true =>
          refine t_lit 3 ?_
          cases i2 with
          | true =>
            refine t_lit 5 ?_
            exact t_v (fun u _ => refuse_any u) (e_r2 (verV 4 (-1)) (by simp [rdP, h1]))
          | false =>
            refine t_lit 3 ?_
            cases d with
            | true =>
              refine t_lit 3 ?_
              cases d2 with
              | true =>
                refine t_lit 1 ?_
                exact t_v (fun u _ => refuse_any u) (e_r2 (verV 4 (-1)) (by simp [rdP, h1]))
              | false =>
                refine t_lit 2 ?_
                exact t_v (fun u _ => rhalf_any ⟨n2, c2, b2, o2, p2, false, r2, false, false, m2⟩ ⟨n, c, b, o, p, true, r, true, true, m⟩ u) (t_v (fun u _ => onto_any (rhalfI ⟨n2, c2, b2, o2, p2, false, r2, false, false, m2⟩ ⟨n, c, b, o, p, true, r, true, true, m⟩) 1 ⟨n, c, b, o, p, true, r, true, true, m⟩ u) (e_r2 (verV (ontoP (rhalfI ⟨n2, c2, b2, o2, p2, false, r2, false, false, m2⟩ ⟨n, c, b, o, p, true, r, true, true, m⟩) 1 true).1 (ontoP (rhalfI ⟨n2, c2, b2, o2, p2, false, r2, false, false, m2⟩ ⟨n, c, b, o, p, true, r, true, true, m⟩) 1 true).2) (by simp [rdP, h1])))
            | false =>
              refine t_lit 5 ?_
              exact t_v (fun u _ => rhalf_any ⟨n2, c2, b2, o2, p2, false, r2, d2, false, m2⟩ ⟨n, c, b, o, p, true, r, false, true, m⟩ u) (t_v (fun u _ => onto_any (rhalfI ⟨n2, c2, b2, o2, p2, false, r2, d2, false, m2⟩ ⟨n, c, b, o, p, true, r, false, true, m⟩) 1 ⟨n, c, b, o, p, true, r, false, true, m⟩ u) (e_r2 (verV (ontoP (rhalfI ⟨n2, c2, b2, o2, p2, false, r2, d2, false, m2⟩ ⟨n, c, b, o, p, true, r, false, true, m⟩) 1 true).1 (ontoP (rhalfI ⟨n2, c2, b2, o2, p2, false, r2, d2, false, m2⟩ ⟨n, c, b, o, p, true, r, false, true, m⟩) 1 true).2) (by simp [rdP, h1])))
        | false =>
          refine t_lit 6 ?_
          cases d with
          | true =>
            refine t_lit 3 ?_
            cases d2 with
            | true =>
              refine t_lit 1 ?_
              exact t_v (fun u _ => refuse_any u) (e_r2 (verV 4 (-1)) (by simp [rdP, h1]))
            | false =>
              refine t_lit 2 ?_
              cases i2 with
              | true =>
                refine t_lit 1 ?_
                exact t_v (fun u _ => rhalf_any ⟨n, c, b, o, p, false, r, true, true, m⟩ ⟨n2, c2, b2, o2, p2, true, r2, false, false, m2⟩ u) (t_v (fun u _ => onto_any (rhalfI ⟨n, c, b, o, p, false, r, true, true, m⟩ ⟨n2, c2, b2, o2, p2, true, r2, false, false, m2⟩) 0 ⟨n2, c2, b2, o2, p2, true, r2, false, false, m2⟩ u) (e_r2 (verV (ontoP (rhalfI ⟨n, c, b, o, p, false, r, true, true, m⟩ ⟨n2, c2, b2, o2, p2, true, r2, false, false, m2⟩) 0 false).1 (ontoP (rhalfI ⟨n, c, b, o, p, false, r, true, true, m⟩ ⟨n2, c2, b2, o2, p2, true, r2, false, false, m2⟩) 0 false).2) (by simp [rdP, h1])))
              | false =>
                refine t_lit 2 ?_
                exact t_v (fun u _ => onto_any 3 1 ⟨n, c, b, o, p, false, r, true, true, m⟩ u) (e_r2 (verV (ontoP 3 1 true).1 (ontoP 3 1 true).2) (by simp [rdP, h1]))
          | false =>
            refine t_lit 5 ?_
            cases i2 with
            | true =>
              refine t_lit 1 ?_
              exact t_v (fun u _ => rhalf_any ⟨n, c, b, o, p, false, r, false, true, m⟩ ⟨n2, c2, b2, o2, p2, true, r2, d2, false, m2⟩ u) (t_v (fun u _ => onto_any (rhalfI ⟨n, c, b, o, p, false, r, false, true, m⟩ ⟨n2, c2, b2, o2, p2, true, r2, d2, false, m2⟩) 0 ⟨n2, c2, b2, o2, p2, true, r2, d2, false, m2⟩ u) (e_r2 (verV (ontoP (rhalfI ⟨n, c, b, o, p, false, r, false, true, m⟩ ⟨n2, c2, b2, o2, p2, true, r2, d2, false, m2⟩) 0 false).1 (ontoP (rhalfI ⟨n, c, b, o, p, false, r, false, true, m⟩ ⟨n2, c2, b2, o2, p2, true, r2, d2, false, m2⟩) 0 false).2) (by simp [rdP, h1])))
            | false =>
              refine t_lit 2 ?_
              cases d2 with
              | true =>
                refine t_lit 1 ?_
                exact t_v (fun u _ => onto_any 3 0 ⟨n2, c2, b2, o2, p2, false, r2, true, false, m2⟩ u) (e_r2 (verV (ontoP 3 0 false).1 (ontoP 3 0 false).2) (by simp [rdP, h1]))
              | false =>
                refine t_lit 1 ?_
                by_cases h2 : c = c2
                · refine t_Y (b := decide (c = c2)) 0 (by simp [h2]) ?_
                  by_cases h3 : m = 0
                  · refine t_Y (b := decide ((m : Int) = 0)) 2 (by simp [h3]) ?_
                    by_cases h4 : m2 = 0
                    · refine t_Y (b := decide ((m2 : Int) = 0)) 0 (by simp [h4]) ?_
                      exact e_r2 (verV 1 (-1)) (by simp [rdP, h1, h2, h3, h4])
                    · refine t_N (b := decide ((m2 : Int) = 0)) 13 (by simp [h4]) ?_
                      exact t_v (fun u _ => onto_any 2 0 ⟨n2, c2, b2, o2, p2, false, r2, false, false, m2⟩ u) (e_r2 (verV (ontoP 2 0 false).1 (ontoP 2 0 false).2) (by simp [rdP, h1, h2, h3, h4]))
                  · refine t_N (b := decide ((m : Int) = 0)) 16 (by simp [h3]) ?_
                    exact t_v (fun u _ => onto_any 2 0 ⟨n2, c2, b2, o2, p2, false, r2, false, false, m2⟩ u) (e_r2 (verV (ontoP 2 0 false).1 (ontoP 2 0 false).2) (by simp [rdP, h1, h2, h3]))
                · refine t_N (b := decide (c = c2)) 0 (by simp [h2]) ?_
                  refine t_v (fun u _ => rplace_any c b o p c2 u) (t_v (fun u _ => rplace_any c2 b2 o2 p2 c u) ?_)
                  have hr1 := place_range c b o p c2 h2
                  have hr2 := place_range c2 b2 o2 p2 c (Ne.symm h2)
                  generalize hp : placeI c b o p c2 = P at *
                  generalize hq : placeI c2 b2 o2 p2 c = Q at *
                  rcases hr1 with e | e | e | e <;> subst e <;> rcases hr2 with e | e | e | e <;> subst e <;> first
                    | (have : placeI c b o p c2 = 1 ∧ placeI c2 b2 o2 p2 c = -1 := ⟨hp, hq⟩; refine t_lit 9 (t_ck (p := 0 ≤ (1 : Int) ∧ (1 : Int) < (4 : Nat)) (by decide) (t_v (fun u _ => onto_any 2 0 ⟨n2, c2, b2, o2, p2, false, r2, false, false, m2⟩ u) (e_r2 (verV (ontoP 2 0 false).1 (ontoP 2 0 false).2) ?_))); simp [rdP, h1, h2, plH, hp, hq, tabI, ontoP]; done)
                    | (have : placeI c b o p c2 = -1 ∧ placeI c2 b2 o2 p2 c = 1 := ⟨hp, hq⟩; refine t_lit 9 (t_ck (p := 0 ≤ (1 : Int) ∧ (1 : Int) < (4 : Nat)) (by decide) (t_v (fun u _ => onto_any 2 1 ⟨n, c, b, o, p, false, r, false, true, m⟩ u) (e_r2 (verV (ontoP 2 1 true).1 (ontoP 2 1 true).2) ?_))); simp [rdP, h1, h2, plH, hp, hq, tabI, ontoP]; done)
                    | (have : placeI c b o p c2 = 2 ∧ placeI c2 b2 o2 p2 c = -1 := ⟨hp, hq⟩; refine t_lit 9 (t_ck (p := 0 ≤ (2 : Int) ∧ (2 : Int) < (4 : Nat)) (by decide) (t_v (fun u _ => onto_any 3 0 ⟨n2, c2, b2, o2, p2, false, r2, false, false, m2⟩ u) (e_r2 (verV (ontoP 3 0 false).1 (ontoP 3 0 false).2) ?_))); simp [rdP, h1, h2, plH, hp, hq, tabI, ontoP]; done)
                    | (have : placeI c b o p c2 = 3 ∧ placeI c2 b2 o2 p2 c = -1 := ⟨hp, hq⟩; refine t_lit 9 (t_ck (p := 0 ≤ (3 : Int) ∧ (3 : Int) < (4 : Nat)) (by decide) (t_v (fun u _ => onto_any 3 0 ⟨n2, c2, b2, o2, p2, false, r2, false, false, m2⟩ u) (e_r2 (verV (ontoP 3 0 false).1 (ontoP 3 0 false).2) ?_))); simp [rdP, h1, h2, plH, hp, hq, tabI, ontoP]; done)
                    | (have : placeI c b o p c2 = -1 ∧ placeI c2 b2 o2 p2 c = 2 := ⟨hp, hq⟩; refine t_lit 9 (t_ck (p := 0 ≤ (2 : Int) ∧ (2 : Int) < (4 : Nat)) (by decide) (t_v (fun u _ => onto_any 3 1 ⟨n, c, b, o, p, false, r, false, true, m⟩ u) (e_r2 (verV (ontoP 3 1 true).1 (ontoP 3 1 true).2) ?_))); simp [rdP, h1, h2, plH, hp, hq, tabI, ontoP]; done)
                    | (have : placeI c b o p c2 = -1 ∧ placeI c2 b2 o2 p2 c = 3 := ⟨hp, hq⟩; refine t_lit 9 (t_ck (p := 0 ≤ (3 : Int) ∧ (3 : Int) < (4 : Nat)) (by decide) (t_v (fun u _ => onto_any 3 1 ⟨n, c, b, o, p, false, r, false, true, m⟩ u) (e_r2 (verV (ontoP 3 1 true).1 (ontoP 3 1 true).2) ?_))); simp [rdP, h1, h2, plH, hp, hq, tabI, ontoP]; done)
                    | (refine t_lit 9 (t_v (fun u _ => refuse_any u) (e_r2 (verV 4 (-1)) ?_)); simp [rdP, h1, h2, plH, hp, hq, tabI, ontoP]; done)
    | false =>
      refine t_lit 6 ?_
      cases i with
      | true =>
        refine t_lit 3 ?_
        cases i2 with
        | true =>
          refine t_lit 5 ?_
          exact t_v (fun u _ => refuse_any u) (e_r2 (verV 4 (-1)) (by simp [rdP, h1]))
        | false =>
          refine t_lit 3 ?_
          cases d with
          | true =>
            refine t_lit 3 ?_
            cases d2 with
            | true =>
              refine t_lit 1 ?_
              exact t_v (fun u _ => refuse_any u) (e_r2 (verV 4 (-1)) (by simp [rdP, h1]))
            | false =>
              refine t_lit 2 ?_
              exact t_v (fun u _ => rhalf_any ⟨n2, c2, b2, o2, p2, false, r2, false, q2, m2⟩ ⟨n, c, b, o, p, true, r, true, false, m⟩ u) (t_v (fun u _ => onto_any (rhalfI ⟨n2, c2, b2, o2, p2, false, r2, false, q2, m2⟩ ⟨n, c, b, o, p, true, r, true, false, m⟩) 1 ⟨n, c, b, o, p, true, r, true, false, m⟩ u) (e_r2 (verV (ontoP (rhalfI ⟨n2, c2, b2, o2, p2, false, r2, false, q2, m2⟩ ⟨n, c, b, o, p, true, r, true, false, m⟩) 1 false).1 (ontoP (rhalfI ⟨n2, c2, b2, o2, p2, false, r2, false, q2, m2⟩ ⟨n, c, b, o, p, true, r, true, false, m⟩) 1 false).2) (by simp [rdP, h1])))
          | false =>
            refine t_lit 5 ?_
            exact t_v (fun u _ => rhalf_any ⟨n2, c2, b2, o2, p2, false, r2, d2, q2, m2⟩ ⟨n, c, b, o, p, true, r, false, false, m⟩ u) (t_v (fun u _ => onto_any (rhalfI ⟨n2, c2, b2, o2, p2, false, r2, d2, q2, m2⟩ ⟨n, c, b, o, p, true, r, false, false, m⟩) 1 ⟨n, c, b, o, p, true, r, false, false, m⟩ u) (e_r2 (verV (ontoP (rhalfI ⟨n2, c2, b2, o2, p2, false, r2, d2, q2, m2⟩ ⟨n, c, b, o, p, true, r, false, false, m⟩) 1 false).1 (ontoP (rhalfI ⟨n2, c2, b2, o2, p2, false, r2, d2, q2, m2⟩ ⟨n, c, b, o, p, true, r, false, false, m⟩) 1 false).2) (by simp [rdP, h1])))
      | false =>
        refine t_lit 6 ?_
        cases d with
        | true =>
          refine t_lit 3 ?_
          cases d2 with
          | true =>
            refine t_lit 1 ?_
            exact t_v (fun u _ => refuse_any u) (e_r2 (verV 4 (-1)) (by simp [rdP, h1]))
          | false =>
            refine t_lit 2 ?_
            cases i2 with
            | true =>
              refine t_lit 1 ?_
              exact t_v (fun u _ => rhalf_any ⟨n, c, b, o, p, false, r, true, false, m⟩ ⟨n2, c2, b2, o2, p2, true, r2, false, q2, m2⟩ u) (t_v (fun u _ => onto_any (rhalfI ⟨n, c, b, o, p, false, r, true, false, m⟩ ⟨n2, c2, b2, o2, p2, true, r2, false, q2, m2⟩) 0 ⟨n2, c2, b2, o2, p2, true, r2, false, q2, m2⟩ u) (e_r2 (verV (ontoP (rhalfI ⟨n, c, b, o, p, false, r, true, false, m⟩ ⟨n2, c2, b2, o2, p2, true, r2, false, q2, m2⟩) 0 q2).1 (ontoP (rhalfI ⟨n, c, b, o, p, false, r, true, false, m⟩ ⟨n2, c2, b2, o2, p2, true, r2, false, q2, m2⟩) 0 q2).2) (by simp [rdP, h1])))
            | false =>
              refine t_lit 2 ?_
              exact t_v (fun u _ => onto_any 3 1 ⟨n, c, b, o, p, false, r, true, false, m⟩ u) (e_r2 (verV (ontoP 3 1 false).1 (ontoP 3 1 false).2) (by simp [rdP, h1]))
        | false =>
          refine t_lit 5 ?_
          cases i2 with
          | true =>
            refine t_lit 1 ?_
            exact t_v (fun u _ => rhalf_any ⟨n, c, b, o, p, false, r, false, false, m⟩ ⟨n2, c2, b2, o2, p2, true, r2, d2, q2, m2⟩ u) (t_v (fun u _ => onto_any (rhalfI ⟨n, c, b, o, p, false, r, false, false, m⟩ ⟨n2, c2, b2, o2, p2, true, r2, d2, q2, m2⟩) 0 ⟨n2, c2, b2, o2, p2, true, r2, d2, q2, m2⟩ u) (e_r2 (verV (ontoP (rhalfI ⟨n, c, b, o, p, false, r, false, false, m⟩ ⟨n2, c2, b2, o2, p2, true, r2, d2, q2, m2⟩) 0 q2).1 (ontoP (rhalfI ⟨n, c, b, o, p, false, r, false, false, m⟩ ⟨n2, c2, b2, o2, p2, true, r2, d2, q2, m2⟩) 0 q2).2) (by simp [rdP, h1])))
          | false =>
            refine t_lit 2 ?_
            cases d2 with
            | true =>
              refine t_lit 1 ?_
              exact t_v (fun u _ => onto_any 3 0 ⟨n2, c2, b2, o2, p2, false, r2, true, q2, m2⟩ u) (e_r2 (verV (ontoP 3 0 q2).1 (ontoP 3 0 q2).2) (by simp [rdP, h1]))
            | false =>
              refine t_lit 1 ?_
              by_cases h5 : c = c2
              · refine t_Y (b := decide (c = c2)) 0 (by simp [h5]) ?_
                by_cases h6 : m = 0
                · refine t_Y (b := decide ((m : Int) = 0)) 2 (by simp [h6]) ?_
                  by_cases h7 : m2 = 0
                  · refine t_Y (b := decide ((m2 : Int) = 0)) 0 (by simp [h7]) ?_
                    exact e_r2 (verV 1 (-1)) (by simp [rdP, h1, h5, h6, h7])
                  · refine t_N (b := decide ((m2 : Int) = 0)) 0 (by simp [h7]) ?_
                    cases q2 with
                    | true =>
                      refine t_lit 8 ?_
                      exact t_v (fun u _ => onto_any 2 1 ⟨n, c, b, o, p, false, r, false, false, m⟩ u) (e_r2 (verV (ontoP 2 1 false).1 (ontoP 2 1 false).2) (by simp [rdP, h1, h5, h6, h7]))
                    | false =>
                      refine t_lit 8 ?_
                      cases r2 with
                      | true =>
                        refine t_lit 4 ?_
                        cases r with
                        | true =>
                          refine t_lit 1 ?_
                          exact t_v (fun u _ => onto_any 2 0 ⟨n2, c2, b2, o2, p2, false, true, false, false, m2⟩ u) (e_r2 (verV (ontoP 2 0 false).1 (ontoP 2 0 false).2) (by simp [rdP, h1, h5, h6, h7]))
                        | false =>
                          refine t_lit 1 ?_
                          exact t_v (fun u _ => onto_any 2 1 ⟨n, c, b, o, p, false, false, false, false, m⟩ u) (e_r2 (verV (ontoP 2 1 false).1 (ontoP 2 1 false).2) (by simp [rdP, h1, h5, h6, h7]))
                      | false =>
                        refine t_lit 5 ?_
                        exact t_v (fun u _ => onto_any 2 0 ⟨n2, c2, b2, o2, p2, false, false, false, false, m2⟩ u) (e_r2 (verV (ontoP 2 0 false).1 (ontoP 2 0 false).2) (by simp [rdP, h1, h5, h6, h7]))
                · refine t_N (b := decide ((m : Int) = 0)) 3 (by simp [h6]) ?_
                  cases q2 with
                  | true =>
                    refine t_lit 8 ?_
                    exact t_v (fun u _ => onto_any 2 1 ⟨n, c, b, o, p, false, r, false, false, m⟩ u) (e_r2 (verV (ontoP 2 1 false).1 (ontoP 2 1 false).2) (by simp [rdP, h1, h5, h6]))
                  | false =>
                    refine t_lit 8 ?_
                    cases r2 with
                    | true =>
                      refine t_lit 4 ?_
                      cases r with
                      | true =>
                        refine t_lit 1 ?_
                        exact t_v (fun u _ => onto_any 2 0 ⟨n2, c2, b2, o2, p2, false, true, false, false, m2⟩ u) (e_r2 (verV (ontoP 2 0 false).1 (ontoP 2 0 false).2) (by simp [rdP, h1, h5, h6]))
                      | false =>
                        refine t_lit 1 ?_
                        exact t_v (fun u _ => onto_any 2 1 ⟨n, c, b, o, p, false, false, false, false, m⟩ u) (e_r2 (verV (ontoP 2 1 false).1 (ontoP 2 1 false).2) (by simp [rdP, h1, h5, h6]))
                    | false =>
                      refine t_lit 5 ?_
                      exact t_v (fun u _ => onto_any 2 0 ⟨n2, c2, b2, o2, p2, false, false, false, false, m2⟩ u) (e_r2 (verV (ontoP 2 0 false).1 (ontoP 2 0 false).2) (by simp [rdP, h1, h5, h6]))
              · refine t_N (b := decide (c = c2)) 0 (by simp [h5]) ?_
                refine t_v (fun u _ => rplace_any c b o p c2 u) (t_v (fun u _ => rplace_any c2 b2 o2 p2 c u) ?_)
                have hr1 := place_range c b o p c2 h5
                have hr2 := place_range c2 b2 o2 p2 c (Ne.symm h5)
                generalize hp : placeI c b o p c2 = P at *
                generalize hq : placeI c2 b2 o2 p2 c = Q at *
                rcases hr1 with e | e | e | e <;> subst e <;> rcases hr2 with e | e | e | e <;> subst e <;> first
                  | (have : placeI c b o p c2 = 1 ∧ placeI c2 b2 o2 p2 c = -1 := ⟨hp, hq⟩; refine t_lit 9 (t_ck (p := 0 ≤ (1 : Int) ∧ (1 : Int) < (4 : Nat)) (by decide) (t_v (fun u _ => onto_any 2 0 ⟨n2, c2, b2, o2, p2, false, r2, false, q2, m2⟩ u) (e_r2 (verV (ontoP 2 0 q2).1 (ontoP 2 0 q2).2) ?_))); simp [rdP, h1, h5, plH, hp, hq, tabI, ontoP]; done)
                  | (have : placeI c b o p c2 = -1 ∧ placeI c2 b2 o2 p2 c = 1 := ⟨hp, hq⟩; refine t_lit 9 (t_ck (p := 0 ≤ (1 : Int) ∧ (1 : Int) < (4 : Nat)) (by decide) (t_v (fun u _ => onto_any 2 1 ⟨n, c, b, o, p, false, r, false, false, m⟩ u) (e_r2 (verV (ontoP 2 1 false).1 (ontoP 2 1 false).2) ?_))); simp [rdP, h1, h5, plH, hp, hq, tabI, ontoP]; done)
                  | (have : placeI c b o p c2 = 2 ∧ placeI c2 b2 o2 p2 c = -1 := ⟨hp, hq⟩; refine t_lit 9 (t_ck (p := 0 ≤ (2 : Int) ∧ (2 : Int) < (4 : Nat)) (by decide) (t_v (fun u _ => onto_any 3 0 ⟨n2, c2, b2, o2, p2, false, r2, false, q2, m2⟩ u) (e_r2 (verV (ontoP 3 0 q2).1 (ontoP 3 0 q2).2) ?_))); simp [rdP, h1, h5, plH, hp, hq, tabI, ontoP]; done)
                  | (have : placeI c b o p c2 = 3 ∧ placeI c2 b2 o2 p2 c = -1 := ⟨hp, hq⟩; refine t_lit 9 (t_ck (p := 0 ≤ (3 : Int) ∧ (3 : Int) < (4 : Nat)) (by decide) (t_v (fun u _ => onto_any 3 0 ⟨n2, c2, b2, o2, p2, false, r2, false, q2, m2⟩ u) (e_r2 (verV (ontoP 3 0 q2).1 (ontoP 3 0 q2).2) ?_))); simp [rdP, h1, h5, plH, hp, hq, tabI, ontoP]; done)
                  | (have : placeI c b o p c2 = -1 ∧ placeI c2 b2 o2 p2 c = 2 := ⟨hp, hq⟩; refine t_lit 9 (t_ck (p := 0 ≤ (2 : Int) ∧ (2 : Int) < (4 : Nat)) (by decide) (t_v (fun u _ => onto_any 3 1 ⟨n, c, b, o, p, false, r, false, false, m⟩ u) (e_r2 (verV (ontoP 3 1 false).1 (ontoP 3 1 false).2) ?_))); simp [rdP, h1, h5, plH, hp, hq, tabI, ontoP]; done)
                  | (have : placeI c b o p c2 = -1 ∧ placeI c2 b2 o2 p2 c = 3 := ⟨hp, hq⟩; refine t_lit 9 (t_ck (p := 0 ≤ (3 : Int) ∧ (3 : Int) < (4 : Nat)) (by decide) (t_v (fun u _ => onto_any 3 1 ⟨n, c, b, o, p, false, r, false, false, m⟩ u) (e_r2 (verV (ontoP 3 1 false).1 (ontoP 3 1 false).2) ?_))); simp [rdP, h1, h5, plH, hp, hq, tabI, ontoP]; done)
                  | (refine t_lit 9 (t_v (fun u _ => refuse_any u) (e_r2 (verV 4 (-1)) ?_)); simp [rdP, h1, h5, plH, hp, hq, tabI, ontoP]; done)
  · refine t_N (b := !(n != n2)) 12 (by simp [h1]) ?_
    exact t_v (fun u _ => refuse_any u) (e_r2 (verV 4 (-1)) (by simp [rdP, h1]))
end Go.Proofs.YtkjikigimmchlaaGreatDoor
