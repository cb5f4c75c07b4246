/- The code's verdicts, layer 11, carried out plainly: the source, the kind, the verdict, its blocks. No condition but hellos' sizes. -/
import Derived.Test.YtkjikigimmchlaaGreatDoorPS
import Derived.Test.YtkjikigimmchlaaGreatDoorG3
import Derived.Test.YtkjikigimmchlaaGreatDoorRF
import Derived.Test.YtkjikigimmchlaaGreatDoorRX
import Derived.Test.YtkjikigimmchlaaGreatDoorRGb
import Derived.Test.YtkjikigimmchlaaGreatDoorQ3
namespace Go.Proofs.YtkjikigimmchlaaGreatDoor
open Go.RowKit PX
set_option maxRecDepth 100000
theorem on_yes {s : List ByteArray} {c : List Wr} {f : Int} {x : Bool} {b q : Sup} {k l : Nat} {R : Ans} (h : R.e = 0) : Sto.on ⟨s, c, f, x, b, k⟩ R q l = ⟨R.s, R.c, R.f, R.x, q, l⟩ := by
  unfold Sto.on; rw [if_pos h, if_pos h]
theorem on_no {s : List ByteArray} {c : List Wr} {f : Int} {x : Bool} {b q : Sup} {k l : Nat} {R : Ans} (h : R.e ≠ 0) : Sto.on ⟨s, c, f, x, b, k⟩ R q l = ⟨R.s, R.c, R.f, R.x, b, k⟩ := by
  unfold Sto.on; rw [if_neg h, if_neg h]
theorem on_self {s : List ByteArray} {c : List Wr} {f : Int} {x : Bool} {b : Sup} {k : Nat} {R : Ans} : Sto.on ⟨s, c, f, x, b, k⟩ R b k = ⟨R.s, R.c, R.f, R.x, b, k⟩ := by
  by_cases h : R.e = 0
  · exact on_yes h
  · exact on_no h
theorem att_bad {s : List ByteArray} {c : List Wr} {f : Int} {x : Bool} {e : Int} (h : attE s c x = e) (he : e ≠ 0) : att s c f x = Sto.zero := by
  unfold att
  rw [if_neg (by rw [h]; exact he)]
theorem att_good {s : List ByteArray} {c : List Wr} {f : Int} {x : Bool} (h : attE s c x = 0) : att s c f x = ⟨s, c, f, x, (loadD s c x (s.getD 0 e0)).1, (loadB s c x).1⟩ := by
  unfold att
  rw [if_pos h]
def Sto.same (t u : Sto) : Bool := sameB t.s u.s t.c u.c t.f u.f t.x u.x && (t.b.same u.b && decide (t.m = u.m))
theorem es_box {α : Type} {enc : α → Value} {u : World} {r : Nat} {T : TypeId} (l : List α) (h : BoxO u r T (l.map enc)) : Es enc u u.heap.size (some ⟨r, 0, none⟩) l := fun j x hj => by
  refine ⟨⟨r, 0, none⟩, rfl, h.lt, ?_⟩
  have := BoxO.cell h j
  rw [List.getElem?_map, hj, Option.map_some] at this
  rw [← this]
  congr 1
  unfold Addr.add
  split <;> simp_all
theorem sup_sem (a b : Operand) (q s : Sup) (w : World) : (do Go.eqGuard .eql 36 a b (supV q) (supV s); Go.binOp .eql 36 (supV q) (supV s) : Sem Value).run Tryz.prog w = .ok (.bool (q.same s)) w := by
  simp [go_sem]
  unfold Sup.same
  repeat' split
  all_goals simp_all
section
variable (A B : Option Addr) (n m : Nat) (s : List ByteArray) (c : List Wr) (f : Int) (x : Bool) (b : Sup) (k : Nat)
theorem rzput_any (i : Int) (d : ByteArray) (w : World) (hm : Mem w A n B m s c) (hF : Fit s c f) : Calls Tryz.prog 197 #[toV ⟨s, c, f, x, b, k⟩ A n B m, .int .i64 i, .string d] w (GivesS (Sto.put ⟨s, c, f, x, b, k⟩ i d).1 (Sto.put ⟨s, c, f, x, b, k⟩ i d).2 w) := by
  unfold Sto.put
  rw [on_self]
  exact run (st_mem _ _ _ _ _ _) hm (t_d (fun u hu => raput_any A B n m s c f x i d u hu hF.l64 hF.c9 hF.fu hF.mis) fun A1 B1 n1 m1 => e_s A1 B1 n1 m1 fun u hu => hu.2)
theorem rzcommit_any (q : Sup) (w : World) (hm : Mem w A n B m s c) (hF : Fit s c f) (hw : q.wide) : Calls Tryz.prog 193 #[toV ⟨s, c, f, x, b, k⟩ A n B m, supV q] w (GivesS (Sto.commit ⟨s, c, f, x, b, k⟩ q).1 (Sto.commit ⟨s, c, f, x, b, k⟩ q).2 w) := by
  refine run (st_mem _ _ _ _ _ _) hm (t_sem (do Go.eqGuard .eql 36 (.tmp 1) (.tmp 1) (supV q) (supV b); Go.binOp .eql 36 (supV q) (supV b)) (v := .bool (q.same b)) (fun u _ _ => sup_sem _ _ q b u) ?_)
  unfold Sto.commit
  cases hq : q.same b with
  | true =>
    rw [if_pos rfl]
    exact t_lit 9 (e_s A B n m fun u hu => hu)
  | false =>
    rw [if_neg (by decide)]
    refine t_lit 1 (t_d (fun u hu => rcommit_any A B n m s c f x q u hu hw hF.l1 hF.l64 hF.c9 hF.fu hF.mis) fun A1 B1 n1 m1 => ?_)
    by_cases he : (commitD s c f x q).e = 0
    · rw [on_yes he]
      exact t_Y (b := decide ((commitD s c f x q).e = 0)) 9 (by simpa using he) (e_s A1 B1 n1 m1 fun u hu => hu.2)
    · rw [on_no he]
      exact t_N (b := decide ((commitD s c f x q).e = 0)) 9 (by simpa using he) (e_s A1 B1 n1 m1 fun u hu => hu.2)
theorem rzsave_any (k2 : Nat) (w : World) (hm : Mem w A n B m s c) (hF : Fit s c f) (hk : k2 < 4294967296) : Calls Tryz.prog 233 #[toV ⟨s, c, f, x, b, k⟩ A n B m, .int .u32 k2] w (GivesS (Sto.save ⟨s, c, f, x, b, k⟩ k2).1 (Sto.save ⟨s, c, f, x, b, k⟩ k2).2 w) := by
  unfold Sto.save
  refine run (st_mem _ _ _ _ _ _) hm ?_
  by_cases hq : k2 = k
  · rw [if_pos hq]
    exact t_Y (b := decide ((k2 : Int) = (k : Int))) 9 (by simp [hq]) (e_s A B n m fun u hu => hu)
  · rw [if_neg hq]
    refine t_N (b := decide ((k2 : Int) = (k : Int))) 0 (by simp; omega) (t_d (fun u hu => rbsave_any A B n m s c f x k2 u hu hk hF.l64 hF.c9 hF.fu hF.mis) fun A1 B1 n1 m1 => ?_)
    by_cases he : (saveB s c f x k2).e = 0
    · rw [on_yes he]
      exact t_Y (b := decide ((saveB s c f x k2).e = 0)) 9 (by simpa using he) (e_s A1 B1 n1 m1 fun u hu => hu.2)
    · rw [on_no he]
      exact t_N (b := decide ((saveB s c f x k2).e = 0)) 9 (by simpa using he) (e_s A1 B1 n1 m1 fun u hu => hu.2)
theorem rzmark_any (i : Int) (w : World) (hm : Mem w A n B m s c) (hF : Fit s c f) (hk : k < 4294967296) : Calls Tryz.prog 195 #[toV ⟨s, c, f, x, b, k⟩ A n B m, .int .i64 i] w (GivesS (Sto.mark ⟨s, c, f, x, b, k⟩ i).1 (Sto.mark ⟨s, c, f, x, b, k⟩ i).2 w) := by
  unfold Sto.mark
  refine run (st_mem _ _ _ _ _ _) hm ?_
  by_cases i0 : i < 0
  · rw [if_pos (by unfold Sto.out; simp [i0])]
    exact t_N (b := !(decide (i < 0))) 30 (by simp [i0]) (e_s A B n m fun u hu => hu)
  refine t_Y (b := !(decide (i < 0))) 4 (by simp [i0]) ?_
  by_cases i1 : b.n ≤ i
  · rw [if_pos (by unfold Sto.out; simp [i1])]
    exact t_Y (b := decide (b.n ≤ i)) 30 (by simp [i1]) (e_s A B n m fun u hu => hu)
  rw [if_neg (by unfold Sto.out; simp; omega)]
  refine t_N (b := decide (b.n ≤ i)) 0 (by simp [i1]) (t_fresh 3 [.int .i64 i] fun r hr => ?_)
  refine t_v (v := .int .u32 (setB k [i] : Nat)) (fun u hu => (rset_any k (some ⟨r, 0, none⟩) 1 [i] u _ hk (es_box (enc := Value.int .i64) [i] hu.2) (by simp [maxLen])).mono fun _ _ h => ⟨h.1, h.2 ▸ Below.refl _ _⟩) ?_
  exact t_s (fun u hu => rzsave_any A B n m s c f x b k (setB k [i]) u hu.1 hF (setB_lt hk _)) fun A1 k1 B1 m1 => e_s A1 B1 k1 m1 fun u hu => hu.2
theorem rzwipe_any (i : Int) (w : World) (hm : Mem w A n B m s c) (hF : Fit s c f) (hk : k < 4294967296) : Calls Tryz.prog 241 #[toV ⟨s, c, f, x, b, k⟩ A n B m, .int .i64 i] w (GivesS (Sto.wipe ⟨s, c, f, x, b, k⟩ i).1 (Sto.wipe ⟨s, c, f, x, b, k⟩ i).2 w) := by
  unfold Sto.wipe
  refine run (st_mem _ _ _ _ _ _) hm ?_
  by_cases i0 : i < 0
  · rw [if_pos (by unfold Sto.out; simp [i0])]
    exact t_N (b := !(decide (i < 0))) 30 (by simp [i0]) (e_s A B n m fun u hu => hu)
  refine t_Y (b := !(decide (i < 0))) 4 (by simp [i0]) ?_
  by_cases i1 : b.n ≤ i
  · rw [if_pos (by unfold Sto.out; simp [i1])]
    exact t_Y (b := decide (b.n ≤ i)) 30 (by simp [i1]) (e_s A B n m fun u hu => hu)
  rw [if_neg (by unfold Sto.out; simp; omega)]
  refine t_N (b := decide (b.n ≤ i)) 0 (by simp [i1]) (t_fresh 3 [.int .i64 i] fun r hr => ?_)
  refine t_v (v := .int .u32 (clrB k [i] : Nat)) (fun u hu => (rclear_any k (some ⟨r, 0, none⟩) 1 [i] u _ hk (es_box (enc := Value.int .i64) [i] hu.2) (by simp [maxLen])).mono fun _ _ h => ⟨h.1, h.2 ▸ Below.refl _ _⟩) ?_
  unfold Sto.note
  by_cases hq : clrB k [i] = k
  · rw [if_pos hq]
    exact t_Y (b := decide ((clrB k [i] : Int) = (k : Int))) 9 (by simp [hq]) (e_s A B n m fun u hu => hu.1)
  rw [if_neg hq]
  refine t_N (b := decide ((clrB k [i] : Int) = (k : Int))) 0 (by simp; omega) (t_d (fun u hu => rbnote_any A B n m s c f x (clrB k [i]) u hu.1 (clrB_lt hk _) hF.l64 hF.c9 hF.fu) fun A1 B1 n1 m1 => ?_)
  by_cases he : (noteB s c f x (clrB k [i])).e = 0
  · rw [on_yes he]
    exact t_Y (b := decide ((noteB s c f x (clrB k [i])).e = 0)) 9 (by simpa using he) (e_s A1 B1 n1 m1 fun u hu => hu.2)
  · rw [on_no he]
    exact t_N (b := decide ((noteB s c f x (clrB k [i])).e = 0)) 9 (by simpa using he) (e_s A1 B1 n1 m1 fun u hu => hu.2)
theorem rzjoin_any (k2 : Nat) (w : World) (hm : Mem w A n B m s c) (hF : Fit s c f) (hk : k < 4294967296) (hk2 : k2 < 4294967296) : Calls Tryz.prog 201 #[toV ⟨s, c, f, x, b, k⟩ A n B m, .int .u32 k2] w (GivesS (Sto.join ⟨s, c, f, x, b, k⟩ k2).1 (Sto.join ⟨s, c, f, x, b, k⟩ k2).2 w) := by
  unfold Sto.join
  have hu : uniB [k, k2] < 4294967296 := uniB_lt _ (by intro y hy; simp at hy; omega)
  refine run (st_mem _ _ _ _ _ _) hm (t_fresh 37 [.int .u32 (k : Nat), .int .u32 (k2 : Nat)] fun r hr => ?_)
  refine t_v (f := 239) (args := #[.slice (some ⟨r, 0, none⟩) 2 2]) (v := .int .u32 (uniB [k, k2] : Nat)) (fun u hu => ?_) ?_
  · have := runion_any (some ⟨r, 0, none⟩) 2 [k, k2] u (es_box (enc := Value.int .u32) [(k : Int), (k2 : Int)] hu.2) (by intro y hy; simp at hy; omega) (by simp [maxLen])
    exact this
  exact t_s (fun u hu2 => rzsave_any A B n m s c f x b k (uniB [k, k2]) u hu2.1 hF hu) fun A1 k1 B1 m1 => e_s A1 B1 k1 m1 fun u hu => hu.2
theorem rzsame_any (A2 B2 : Option Addr) (n2 m2 : Nat) (s2 : List ByteArray) (c2 : List Wr) (f2 : Int) (x2 : Bool) (b2 : Sup) (k2 : Nat) (w : World) (hm : Mem w A n B m s c) (hm2 : Mem w A2 n2 B2 m2 s2 c2) (hl : s.length ≤ 1000) (_hl2 : s2.length ≤ 1000) (hl3 : c.length ≤ 1000) (_hl4 : c2.length ≤ 1000) :
    Calls Tryz.prog 19 #[toV ⟨s, c, f, x, b, k⟩ A n B m, toV ⟨s2, c2, f2, x2, b2, k2⟩ A2 n2 B2 m2] w fun e w' => e = .returned (.bool (Sto.same ⟨s, c, f, x, b, k⟩ ⟨s2, c2, f2, x2, b2, k2⟩)) ∧ Below w.heap.size w w' := by
  refine run (K := fun u => Mem u A n B m s c ∧ Mem u A2 n2 B2 m2 s2 c2) ((st_mem _ _ _ _ _ _).and (st_mem _ _ _ _ _ _)) ⟨hm, hm2⟩ ?_
  refine t_v (fun u hu => rsame_any A B A2 B2 n m n2 m2 s s2 c c2 f f2 x x2 u hu.1.es hu.1.ws hu.2.es hu.2.ws (by unfold maxLen; omega) (by unfold maxLen; omega)) ?_
  unfold Sto.same
  cases hq : sameB s s2 c c2 f f2 x x2 with
  | false => exact t_lit 30 (e_r2 (.bool false) (by simp))
  | true =>
    refine t_lit 5 (t_sem (do Go.eqGuard .eql 36 (.tmp 1) (.tmp 1) (supV b) (supV b2); Go.binOp .eql 36 (supV b) (supV b2)) (v := .bool (b.same b2)) (fun u _ _ => sup_sem _ _ b b2 u) ?_)
    cases hs : b.same b2 with
    | false => exact t_lit 30 (e_r2 (.bool false) (by simp))
    | true =>
      exact t_lit 30 (e_r2 (.bool (decide ((k : Int) = (k2 : Int)))) (by simp; omega))
omit b k in
theorem rzattach_any (w : World) (hm : Mem w A n B m s c) (hF : Fit s c f) : Calls Tryz.prog 87 #[.agg #[.slice A s.length n, .slice B c.length m, .int .i64 f, .bool x]] w (GivesS (att s c f x) (attE s c x) w) := by
  refine run (st_mem _ _ _ _ _ _) hm (t_vb (fun u hu _ => rload_any A B n m s c f x (s.getD 0 e0) u hu hF.first hF.l64 (by have := hF.c9; omega) (hF.hold 0 0)) ?_)
  by_cases h1 : ¬ (loadD s c x (s.getD 0 e0)).2 = 0
  · have e : attE s c x = (loadD s c x (s.getD 0 e0)).2 := by unfold attE; rw [if_neg h1]
    rw [att_bad e h1, e]
    exact t_Y (b := (loadD s c x (s.getD 0 e0)).2 != 0) 9 (by simpa using h1) (e_s none none 0 0 fun u _ => mem_nil u)
  replace h1 := Decidable.not_not.1 h1
  refine t_N (b := (loadD s c x (s.getD 0 e0)).2 != 0) 0 (by simpa using h1) (t_v (fun u hu => rbload_any A B n m s c f x u hu hF.l64 (by have := hF.c9; omega) (hF.hold 1 1)) ?_)
  by_cases h2 : ¬ (loadB s c x).2 = 0
  · have e : attE s c x = (loadB s c x).2 := by unfold attE; rw [if_pos h1, if_neg h2]
    rw [att_bad e h2, e]
    exact t_Y (b := (loadB s c x).2 != 0) 9 (by simpa using h2) (e_s none none 0 0 fun u _ => mem_nil u)
  replace h2 := Decidable.not_not.1 h2
  refine t_N (b := (loadB s c x).2 != 0) 0 (by simpa using h2) ?_
  refine t_call (args := #[.agg #[.slice A s.length n, .slice B c.length m, .int .i64 f, .bool x]]) (fun u hu _ => raall_any A B n m s c f x u hu hF.l64 (by have := hF.c9; omega)) ?_
  rintro u e u' _ _ ⟨A1, n1, rfl, _, hb⟩
  refine ⟨_, fun _ => True, rfl, hb, st_p _, trivial, ?_⟩
  by_cases h3 : ¬ (allA s c x).2 = 0
  · have e : attE s c x = (allA s c x).2 := by unfold attE; rw [if_pos h1, if_pos h2]
    rw [att_bad e h3, e]
    exact t_Y (b := (allA s c x).2 != 0) 9 (by simpa using h3) (e_s none none 0 0 fun u _ => mem_nil u)
  replace h3 := Decidable.not_not.1 h3
  have e : attE s c x = 0 := by unfold attE; rw [if_pos h1, if_pos h2, h3]
  rw [att_good e, e]
  exact t_N (b := (allA s c x).2 != 0) 9 (by simpa using h3) (e_s A B n m fun u hu => hu.1)
theorem zread_any (i : Int) (w : World) (hm : Mem w A n B m s c) (hF : Fit s c f) : Calls Tryz.prog 78 #[toV ⟨s, c, f, x, b, k⟩ A n B m, .int .i64 i] w fun e w' => e = .returned (.tuple #[.string (readA s c x i).1, .int .i64 (readA s c x i).2]) ∧ Below w.heap.size w w' := by
  exact run (st_mem _ _ _ _ _ _) hm (t_v (fun u hu => aread_any A B n m s c f x i u hu hF.l64 (by have := hF.c9; omega)) e_r)
theorem zput_any (i : Int) (d : ByteArray) (w : World) (hm : Mem w A n B m s c) (hF : Fit s c f) : Calls Tryz.prog 123 #[toV ⟨s, c, f, x, b, k⟩ A n B m, .int .i64 i, .string d] w (GivesS (Sto.put ⟨s, c, f, x, b, k⟩ i d).1 (Sto.put ⟨s, c, f, x, b, k⟩ i d).2 w) := by
  unfold Sto.put
  rw [on_self]
  exact run (st_mem _ _ _ _ _ _) hm (t_d (fun u hu => aput_any A B n m s c f x i d u hu hF.l64 hF.c9 hF.fu hF.mis) fun A1 B1 n1 m1 => e_s A1 B1 n1 m1 fun u hu => hu.2)
theorem zcommit_any (q : Sup) (w : World) (hm : Mem w A n B m s c) (hF : Fit s c f) (hw : q.wide) : Calls Tryz.prog 127 #[toV ⟨s, c, f, x, b, k⟩ A n B m, supV q] w (GivesS (Sto.commit ⟨s, c, f, x, b, k⟩ q).1 (Sto.commit ⟨s, c, f, x, b, k⟩ q).2 w) := by
  refine run (st_mem _ _ _ _ _ _) hm (t_sem (do Go.eqGuard .eql 36 (.tmp 1) (.tmp 1) (supV q) (supV b); Go.binOp .eql 36 (supV q) (supV b)) (v := .bool (q.same b)) (fun u _ _ => sup_sem _ _ q b u) ?_)
  unfold Sto.commit
  cases hq : q.same b with
  | true =>
    rw [if_pos rfl]
    exact t_lit 9 (e_s A B n m fun u hu => hu)
  | false =>
    rw [if_neg (by decide)]
    refine t_lit 1 (t_d (fun u hu => commit_any A B n m s c f x q u hu hw hF.l1 hF.l64 hF.c9 hF.fu hF.mis) fun A1 B1 n1 m1 => ?_)
    by_cases he : (commitD s c f x q).e = 0
    · rw [on_yes he]
      exact t_Y (b := decide ((commitD s c f x q).e = 0)) 9 (by simpa using he) (e_s A1 B1 n1 m1 fun u hu => hu.2)
    · rw [on_no he]
      exact t_N (b := decide ((commitD s c f x q).e = 0)) 9 (by simpa using he) (e_s A1 B1 n1 m1 fun u hu => hu.2)
theorem zrsave_any (k2 : Nat) (w : World) (hm : Mem w A n B m s c) (hF : Fit s c f) (hk : k2 < 4294967296) (hq : k2 ≠ k) : Calls Tryz.prog 180 #[toV ⟨s, c, f, x, b, k⟩ A n B m, .int .u32 k2, .func (.func 217) #[] #[]] w (GivesS (Sto.save ⟨s, c, f, x, b, k⟩ k2).1 (Sto.save ⟨s, c, f, x, b, k⟩ k2).2 w) := by
  unfold Sto.save
  rw [if_neg hq]
  refine run (st_mem _ _ _ _ _ _) hm (t_d (fun u hu => bsave_any A B n m s c f x k2 u hu hk hF.l64 hF.c9 hF.fu hF.mis) fun A1 B1 n1 m1 => ?_)
  by_cases he : (saveB s c f x k2).e = 0
  · rw [on_yes he]
    exact t_Y (b := decide ((saveB s c f x k2).e = 0)) 9 (by simpa using he) (e_s A1 B1 n1 m1 fun u hu => hu.2)
  · rw [on_no he]
    exact t_N (b := decide ((saveB s c f x k2).e = 0)) 9 (by simpa using he) (e_s A1 B1 n1 m1 fun u hu => hu.2)
theorem zrnote_any (k2 : Nat) (w : World) (hm : Mem w A n B m s c) (hF : Fit s c f) (hk : k2 < 4294967296) (hq : k2 ≠ k) : Calls Tryz.prog 180 #[toV ⟨s, c, f, x, b, k⟩ A n B m, .int .u32 k2, .func (.func 182) #[] #[]] w (GivesS (Sto.note ⟨s, c, f, x, b, k⟩ k2).1 (Sto.note ⟨s, c, f, x, b, k⟩ k2).2 w) := by
  unfold Sto.note
  rw [if_neg hq]
  refine run (st_mem _ _ _ _ _ _) hm (t_d (fun u hu => bnote_any A B n m s c f x k2 u hu hk hF.l64 hF.c9 hF.fu) fun A1 B1 n1 m1 => ?_)
  by_cases he : (noteB s c f x k2).e = 0
  · rw [on_yes he]
    exact t_Y (b := decide ((noteB s c f x k2).e = 0)) 9 (by simpa using he) (e_s A1 B1 n1 m1 fun u hu => hu.2)
  · rw [on_no he]
    exact t_N (b := decide ((noteB s c f x k2).e = 0)) 9 (by simpa using he) (e_s A1 B1 n1 m1 fun u hu => hu.2)
theorem zhas_any (i : Int) (w : World) : Calls Tryz.prog 178 #[toV ⟨s, c, f, x, b, k⟩ A n B m, .int .i64 i] w fun e w' => e = .returned (.bool (!(Sto.out ⟨s, c, f, x, b, k⟩ i))) ∧ Below w.heap.size w w' := by
  refine run_v ?_
  unfold Sto.out
  by_cases h0 : 0 ≤ i
  · exact t_Y (b := decide (0 ≤ i)) 9 (by simpa using h0) (e_r2 (.bool (decide (i < b.n))) (by rw [show (decide (i < 0) = false) by simp; omega, Bool.false_or, ← decide_not]; simp [Int.not_le]))
  · exact t_N (b := decide (0 ≤ i)) 9 (by simpa using h0) (e_r2 (.bool false) (by simp [show i < 0 by omega]))
theorem uni_set (k : Nat) (i : Int) : uniB [k, setB 0 [i]] = setB k [i] := by
  unfold uniB setB
  simp
theorem clr_no {k : Nat} {i : Int} (hk : k < 4294967296) (h : hasB k i = false) : clrB k [i] = k := by
  have e1 : ofB [i] = oneB i := by simp [ofB]
  unfold clrB
  rw [e1]
  exact clr_none k i hk h
theorem clr_yes {k : Nat} {i : Int} (hk : k < 4294967296) (h : hasB k i = true) : clrB k [i] ≠ k := by
  have e1 : ofB [i] = oneB i := by simp [ofB]
  obtain ⟨h1, h2⟩ := clr_had k i hk h
  have h3 : 0 < 2 ^ i.toNat := Nat.two_pow_pos _
  unfold clrB
  rw [e1, ← h2]
  omega
theorem zjoin_any (k2 : Nat) (w : World) (hm : Mem w A n B m s c) (hF : Fit s c f) (hk : k < 4294967296) (hk2 : k2 < 4294967296) : Calls Tryz.prog 175 #[toV ⟨s, c, f, x, b, k⟩ A n B m, .int .u32 k2] w (GivesS (Sto.join ⟨s, c, f, x, b, k⟩ k2).1 (Sto.join ⟨s, c, f, x, b, k⟩ k2).2 w) := by
  unfold Sto.join
  have hu : uniB [k, k2] < 4294967296 := uniB_lt _ (by intro y hy; simp at hy; omega)
  refine run (st_mem _ _ _ _ _ _) hm (t_fresh 37 [.int .u32 (k : Nat), .int .u32 (k2 : Nat)] fun r hr => ?_)
  refine t_v (f := 216) (args := #[.slice (some ⟨r, 0, none⟩) 2 2]) (v := .int .u32 (uniB [k, k2] : Nat)) (fun u hu => ?_) ?_
  · have := union_any (some ⟨r, 0, none⟩) 2 [k, k2] u u.heap.size (es_box (enc := Value.int .u32) [(k : Int), (k2 : Int)] hu.2) (by intro y hy; simp at hy; omega) (by simp [maxLen])
    exact this.mono (by rintro e w' ⟨h1, rfl⟩; exact ⟨h1, Below.refl _ _⟩)
  by_cases hq : uniB [k, k2] = k
  · have e : Sto.save ⟨s, c, f, x, b, k⟩ (uniB [k, k2]) = (⟨s, c, f, x, b, k⟩, 0) := by
      unfold Sto.save
      rw [if_pos hq]
    rw [e]
    exact t_Y (b := decide ((uniB [k, k2] : Int) = (k : Int))) 9 (by simp [hq]) (e_s A B n m fun u hu => hu.1)
  · exact t_N (b := decide ((uniB [k, k2] : Int) = (k : Int))) 9 (by simp; omega) (t_s (fun u hu2 => zrsave_any A B n m s c f x b k (uniB [k, k2]) u hu2.1 hF hu hq) fun A1 k1 B1 m1 => e_s A1 B1 k1 m1 fun u hu => hu.2)
theorem zmark_any (i : Int) (w : World) (hm : Mem w A n B m s c) (hF : Fit s c f) (hk : k < 4294967296) : Calls Tryz.prog 176 #[toV ⟨s, c, f, x, b, k⟩ A n B m, .int .i64 i] w (GivesS (Sto.mark ⟨s, c, f, x, b, k⟩ i).1 (Sto.mark ⟨s, c, f, x, b, k⟩ i).2 w) := by
  unfold Sto.mark
  refine run (st_mem _ _ _ _ _ _) hm (t_v (fun u _ => zhas_any A B n m s c f x b k i u) ?_)
  by_cases ho : Sto.out ⟨s, c, f, x, b, k⟩ i = true
  · rw [if_pos ho]
    exact t_Y (b := !(!(Sto.out ⟨s, c, f, x, b, k⟩ i))) 9 (by simp [ho]) (e_s A B n m fun u hu => hu)
  · rw [if_neg ho]
    have hj : Sto.join ⟨s, c, f, x, b, k⟩ (setB 0 [i]) = Sto.save ⟨s, c, f, x, b, k⟩ (setB k [i]) := by
      unfold Sto.join
      rw [show (⟨s, c, f, x, b, k⟩ : Sto).m = k from rfl, uni_set]
    rw [show (⟨s, c, f, x, b, k⟩ : Sto).m = k from rfl, ← hj]
    refine t_N (b := !(!(Sto.out ⟨s, c, f, x, b, k⟩ i))) 0 (by simpa using ho) (t_fresh 3 [.int .i64 i] fun r hr => ?_)
    refine t_v (v := .int .u32 (setB 0 [i] : Nat)) (fun u hu => (set_any 0 (some ⟨r, 0, none⟩) 1 [i] u _ (by decide) (es_box (enc := Value.int .i64) [i] hu.2) (by simp [maxLen])).mono fun _ _ h => ⟨h.1, h.2 ▸ Below.refl _ _⟩) ?_
    exact t_s (fun u hu => zjoin_any A B n m s c f x b k (setB 0 [i]) u hu.1 hF hk (setB_lt (by decide) _)) fun A1 k1 B1 m1 => e_s A1 B1 k1 m1 fun u hu => hu.2
theorem zwipe_any (i : Int) (w : World) (hm : Mem w A n B m s c) (hF : Fit s c f) (hk : k < 4294967296) : Calls Tryz.prog 121 #[toV ⟨s, c, f, x, b, k⟩ A n B m, .int .i64 i] w (GivesS (Sto.wipe ⟨s, c, f, x, b, k⟩ i).1 (Sto.wipe ⟨s, c, f, x, b, k⟩ i).2 w) := by
  unfold Sto.wipe
  refine run (st_mem _ _ _ _ _ _) hm (t_v (fun u _ => zhas_any A B n m s c f x b k i u) ?_)
  by_cases ho : Sto.out ⟨s, c, f, x, b, k⟩ i = true
  · rw [if_pos ho]
    exact t_Y (b := !(!(Sto.out ⟨s, c, f, x, b, k⟩ i))) 9 (by simp [ho]) (e_s A B n m fun u hu => hu)
  rw [if_neg ho, show (⟨s, c, f, x, b, k⟩ : Sto).m = k from rfl]
  have hM := fun u => has_any k i u hk
  cases hh : hasB k i with
  | false =>
    have e : Sto.note ⟨s, c, f, x, b, k⟩ (clrB k [i]) = (⟨s, c, f, x, b, k⟩, 0) := by
      unfold Sto.note
      rw [if_pos (clr_no hk hh)]
    rw [hh] at hM
    rw [e]
    exact t_N (b := !(!(Sto.out ⟨s, c, f, x, b, k⟩ i))) 0 (by simpa using ho) (t_v (fun u _ => hM u) (t_lit 9 (e_s A B n m fun u hu => hu)))
  | true =>
    rw [hh] at hM
    refine t_N (b := !(!(Sto.out ⟨s, c, f, x, b, k⟩ i))) 0 (by simpa using ho) (t_v (fun u _ => hM u) (t_lit 9 (t_fresh 3 [.int .i64 i] fun r hr => ?_)))
    refine t_v (v := .int .u32 (clrB k [i] : Nat)) (fun u hu => (clear_any k (some ⟨r, 0, none⟩) 1 [i] u _ hk (es_box (enc := Value.int .i64) [i] hu.2) (by simp [maxLen])).mono fun _ _ h => ⟨h.1, h.2 ▸ Below.refl _ _⟩) ?_
    exact t_s (fun u hu => zrnote_any A B n m s c f x b k (clrB k [i]) u hu.1 hF (clrB_lt hk _) (clr_yes hk hh)) fun A1 k1 B1 m1 => e_s A1 B1 k1 m1 fun u hu => hu.2
omit b k in
end
end Go.Proofs.YtkjikigimmchlaaGreatDoor
namespace Go.Proofs.YtkjikigimmchlaaGreatDoor
open Go.RowKit PX
set_option maxRecDepth 100000
section
variable {w : World}
theorem kfirst (b : Bool) : Calls Tryz.prog 170 #[.bool b] w fun e w' => e = .returned (.int .i64 (fstI b)) ∧ Below w.heap.size w w' := by
  refine run_v ?_
  cases b
  · exact t_lit 9 (e_r2 (.int .i64 1) rfl)
  · exact t_lit 9 (e_r2 (.int .i64 0) rfl)
theorem khas1 (x : Hel) (g : Int) {u : World} {r : Nat} (h : BoxO u r 31 [.int .u64 g]) : Calls Tryz.prog 173 #[vecV x.c x.b x.o x.p, .slice (some ⟨r, 0, none⟩) 1 1] u fun e w' => e = .returned (.bool (!decide (plH x g < 0))) ∧ Below u.heap.size u w' := by
  have := vhas_any (some ⟨r, 0, none⟩) 1 [g] x.c x.b x.o x.p u (es_box (enc := Value.int .u64) [g] h) (by simp [maxLen])
  rw [show hasAll x.c x.b x.o x.p [g] = !decide (plH x g < 0) by unfold plH; simp [hasAll, missB]] at this
  exact this
theorem kknows (x y : Hel) : Calls Tryz.prog 172 #[helV x, helV y] w fun e w' => e = .returned (.bool (knowsB x y)) ∧ Below w.heap.size w w' := by
  refine run_v ?_
  refine t_fresh 31 [.int .u64 y.c] (fun r hr => ?_)
  exact t_v (fun u hu => khas1 x y.c hu.2) (e_r2 (.bool (!decide (plH x y.c < 0))) rfl)
theorem klike (x y : Hel) : Calls Tryz.prog 171 #[helV x, helV y] w fun e w' => e = .returned (.int .i64 (likeI x y)) ∧ Below w.heap.size w w' := by
  obtain ⟨n1, c1, b1, o1, p1, i1, r1, d1, q1, m1⟩ := x
  obtain ⟨n2, c2, b2, o2, p2, i2, r2, d2, q2, m2⟩ := y
  refine run_v ?_
  unfold likeI
  cases q1 with
  | true => exact t_lit 9 (t_v (fun u _ => kfirst true) (e_r2 (.int .i64 0) (by simp [fstI])))
  | false =>
    cases q2 with
    | true => exact t_lit 9 (t_v (fun u _ => kfirst false) (e_r2 (.int .i64 1) (by simp [fstI])))
    | false =>
      cases r1 with
      | true => exact t_lit 9 (t_v (fun u _ => kfirst true) (e_r2 (.int .i64 0) (by simp [fstI])))
      | false =>
        cases r2 with
        | true => exact t_lit 9 (t_v (fun u _ => kfirst false) (e_r2 (.int .i64 1) (by simp [fstI])))
        | false => exact t_lit 9 (t_v (fun u _ => kfirst true) (e_r2 (.int .i64 0) (by simp [fstI])))
theorem kbyPlace (x y : Hel) : Calls Tryz.prog 174 #[helV x, helV y] w fun e w' => e = .returned (.int .i64 (byPlace x y)) ∧ Below w.heap.size w w' := by
  refine run_v (t_v (fun u _ => place_any x.c x.b x.o x.p y.c u) ?_)
  have hp : plH x y.c = placeI x.c x.b x.o x.p y.c := rfl
  unfold byPlace
  rw [hp]
  generalize placeI x.c x.b x.o x.p y.c = k at *
  by_cases h0 : k = 0
  · rw [if_pos h0]
    refine t_Y (b := decide (k = 0)) 0 (by simpa using h0) ?_
    cases hi : y.i with
    | true => rw [if_neg (by simp)]; exact t_N (b := !y.i) 30 (by rw [hi]; rfl) (e_r2 (.int .i64 2) rfl)
    | false =>
      refine t_Y (b := !y.i) 2 (by rw [hi]; rfl) ?_
      by_cases hm : x.m = 0
      · refine t_Y (b := decide ((x.m : Int) = 0)) 2 (by simp [hm]) ?_
        by_cases hm2 : y.m = 0
        · rw [if_pos ⟨rfl, hm, hm2⟩]; exact t_Y (b := decide ((y.m : Int) = 0)) 30 (by simp [hm2]) (e_r2 (.int .i64 1) rfl)
        · rw [if_neg (by simp [hm2])]; exact t_N (b := decide ((y.m : Int) = 0)) 30 (by simp [hm2]) (e_r2 (.int .i64 2) rfl)
      · rw [if_neg (by simp [hm])]; exact t_N (b := decide ((x.m : Int) = 0)) 30 (by simp [hm]) (e_r2 (.int .i64 2) rfl)
  rw [if_neg h0]
  refine t_N (b := decide (k = 0)) 0 (by simpa using h0) ?_
  by_cases h1 : k = 1
  · rw [if_pos h1]; exact t_Y (b := decide (k = 1)) 30 (by simpa using h1) (e_r2 (.int .i64 2) rfl)
  rw [if_neg h1]
  refine t_N (b := decide (k = 1)) 0 (by simpa using h1) ?_
  by_cases h2 : k = 2
  · rw [if_pos h2]; exact t_Y (b := decide (k = 2)) 30 (by simpa using h2) (e_r2 (.int .i64 3) rfl)
  rw [if_neg h2]
  refine t_N (b := decide (k = 2)) 0 (by simpa using h2) ?_
  by_cases h3 : k = 3
  · rw [if_pos h3]; exact t_Y (b := decide (k = 3)) 30 (by simpa using h3) (e_r2 (.int .i64 3) rfl)
  · rw [if_neg h3]; exact t_N (b := decide (k = 3)) 30 (by simpa using h3) (e_r2 (.int .i64 4) rfl)
theorem kkind (x y : Hel) : Calls Tryz.prog 114 #[helV x, helV y] w fun e w' => e = .returned (.int .i64 (kindI x y)) ∧ Below w.heap.size w w' := by
  obtain ⟨n1, c1, b1, o1, p1, i1, r1, d1, q1, m1⟩ := x
  obtain ⟨n2, c2, b2, o2, p2, i2, r2, d2, q2, m2⟩ := y
  refine run_v ?_
  have fin : ∀ (T : Tree) (K : World → Prop), (i2 && d1) = false → q2 = false → (i2 = true → ¬ !decide (plH ⟨n1, c1, b1, o1, p1, i1, r1, d1, q1, m1⟩ b2 < 0) = true) → d2 = false → T.hd = .call (.fn 174) [helV ⟨n1, c1, b1, o1, p1, i1, r1, d1, q1, m1⟩, helV ⟨n2, c2, b2, o2, p2, i2, r2, d2, q2, m2⟩] → (T.nv (.int .i64 (byPlace ⟨n1, c1, b1, o1, p1, i1, r1, d1, q1, m1⟩ ⟨n2, c2, b2, o2, p2, i2, r2, d2, q2, m2⟩))).hd = .ret (.int .i64 (byPlace ⟨n1, c1, b1, o1, p1, i1, r1, d1, q1, m1⟩ ⟨n2, c2, b2, o2, p2, i2, r2, d2, q2, m2⟩)) → OK ⟨Tryz.prog, tyL, w, [], []⟩ (fun x _ u => Ending.returned x = .returned (.int .i64 (kindI ⟨n1, c1, b1, o1, p1, i1, r1, d1, q1, m1⟩ ⟨n2, c2, b2, o2, p2, i2, r2, d2, q2, m2⟩)) ∧ Below w.heap.size w u) T K := fun T K g1 g2 g3 g4 h1 h2 => by
    refine t_v (fun u _ => kbyPlace ⟨n1, c1, b1, o1, p1, i1, r1, d1, q1, m1⟩ ⟨n2, c2, b2, o2, p2, i2, r2, d2, q2, m2⟩) (e_r2 _ ?_ h2) h1
    unfold kindI
    cases i2 <;> simp_all
  cases q2 with
  | true => exact t_lit 9 (e_r2 (.int .i64 4) (by simp [kindI]))
  | false =>
    cases i2 with
    | true =>
      cases d1 with
      | true => exact t_lit 9 (e_r2 (.int .i64 4) (by simp [kindI]))
      | false =>
        refine t_lit 40 (t_fresh 31 [.int .u64 b2] (fun r hr => ?_))
        refine t_lit 9 (t_v (fun u hu => khas1 ⟨n1, c1, b1, o1, p1, i1, r1, false, q1, m1⟩ b2 hu.2) ?_)
        by_cases hh : plH ⟨n1, c1, b1, o1, p1, i1, r1, false, q1, m1⟩ b2 < 0
        · refine t_N (b := !decide (plH ⟨n1, c1, b1, o1, p1, i1, r1, false, q1, m1⟩ b2 < 0)) 0 (by rw [decide_eq_true hh]; rfl) ?_
          cases d2 with
          | true => exact t_lit 9 (e_r2 (.int .i64 3) (by simp [kindI, hh]))
          | false => exact t_lit 9 (fin _ _ rfl rfl (fun _ => by simp [hh]) rfl (by kernel_rfl) (by kernel_rfl))
        · exact t_Y (b := !decide (plH ⟨n1, c1, b1, o1, p1, i1, r1, false, q1, m1⟩ b2 < 0)) 30 (by rw [decide_eq_false hh]; rfl) (e_r2 (.int .i64 2) (by simp [kindI, hh]))
    | false =>
      cases d2 with
      | true => exact t_lit 40 (e_r2 (.int .i64 3) (by simp [kindI]))
      | false => exact t_lit 40 (fin _ _ rfl rfl (fun h => by cases h) rfl (by kernel_rfl) (by kernel_rfl))
theorem ksrc (x y : Hel) : Calls Tryz.prog 113 #[helV x, helV y] w fun e w' => e = .returned (.int .i64 (srcI x y)) ∧ Below w.heap.size w w' := by
  obtain ⟨n1, c1, b1, o1, p1, i1, r1, d1, q1, m1⟩ := x
  obtain ⟨n2, c2, b2, o2, p2, i2, r2, d2, q2, m2⟩ := y
  refine run_v ?_
  by_cases hn : n1 = n2
  rotate_left
  · exact t_Y (b := !(n1 == n2)) 30 (by simpa using hn) (e_r2 (.int .i64 (-1)) (by simp [srcI, hn]))
  refine t_N (b := !(n1 == n2)) 0 (by simpa using hn) ?_
  subst hn
  obtain ⟨kq, hkq⟩ : ∃ k : Bool, k = (q1 && q2 || i1 && i2 || d1 && d2) := ⟨_, rfl⟩
  obtain ⟨ki, hki⟩ : ∃ k : Bool, k = (i1 || i2) := ⟨_, rfl⟩
  obtain ⟨kd, hkd⟩ : ∃ k : Bool, k = (d1 || d2) := ⟨_, rfl⟩
  obtain ⟨vi, hvi⟩ : ∃ k : Bool, k = i2 := ⟨_, rfl⟩
  obtain ⟨vd, hvd⟩ : ∃ k : Bool, k = d2 := ⟨_, rfl⟩
  obtain ⟨kl, hkl⟩ : ∃ k, k = likeI ⟨n1, c1, b1, o1, p1, i1, r1, d1, q1, m1⟩ ⟨n1, c2, b2, o2, p2, i2, r2, d2, q2, m2⟩ := ⟨_, rfl⟩
  have HL : ∀ u, Calls Tryz.prog 171 #[helV ⟨n1, c1, b1, o1, p1, i1, r1, d1, q1, m1⟩, helV ⟨n1, c2, b2, o2, p2, i2, r2, d2, q2, m2⟩] u fun e u' => e = .returned (.int .i64 kl) ∧ Below u.heap.size u u' := fun u => by rw [hkl]; exact klike ⟨n1, c1, b1, o1, p1, i1, r1, d1, q1, m1⟩ ⟨n1, c2, b2, o2, p2, i2, r2, d2, q2, m2⟩
  obtain ⟨k1, hk1⟩ : ∃ k, k = knowsB ⟨n1, c1, b1, o1, p1, i1, r1, d1, q1, m1⟩ ⟨n1, c2, b2, o2, p2, i2, r2, d2, q2, m2⟩ := ⟨_, rfl⟩
  have H1 : ∀ u, Calls Tryz.prog 172 #[helV ⟨n1, c1, b1, o1, p1, i1, r1, d1, q1, m1⟩, helV ⟨n1, c2, b2, o2, p2, i2, r2, d2, q2, m2⟩] u fun e u' => e = .returned (.bool k1) ∧ Below u.heap.size u u' := fun u => by rw [hk1]; exact kknows ⟨n1, c1, b1, o1, p1, i1, r1, d1, q1, m1⟩ ⟨n1, c2, b2, o2, p2, i2, r2, d2, q2, m2⟩
  obtain ⟨k2, hk2⟩ : ∃ k, k = knowsB ⟨n1, c2, b2, o2, p2, i2, r2, d2, q2, m2⟩ ⟨n1, c1, b1, o1, p1, i1, r1, d1, q1, m1⟩ := ⟨_, rfl⟩
  have H2 : ∀ u, Calls Tryz.prog 172 #[helV ⟨n1, c2, b2, o2, p2, i2, r2, d2, q2, m2⟩, helV ⟨n1, c1, b1, o1, p1, i1, r1, d1, q1, m1⟩] u fun e u' => e = .returned (.bool k2) ∧ Below u.heap.size u u' := fun u => by rw [hk2]; exact kknows ⟨n1, c2, b2, o2, p2, i2, r2, d2, q2, m2⟩ ⟨n1, c1, b1, o1, p1, i1, r1, d1, q1, m1⟩
  cases q1 <;> cases q2 <;> cases i1 <;> cases i2 <;> cases d1 <;> cases d2
  all_goals first
    | (obtain rfl : kq = true := hkq; exact t_lit 60 (e_r2 (.int .i64 (-1)) (by simp [srcI])))
    | (obtain rfl : ki = true := hki; obtain rfl : vi = true := hvi; exact t_lit 60 (t_v (fun u _ => kfirst true) (e_r2 (.int .i64 0) (by simp [srcI, fstI]))))
    | (obtain rfl : ki = true := hki; obtain rfl : vi = false := hvi; exact t_lit 60 (t_v (fun u _ => kfirst false) (e_r2 (.int .i64 1) (by simp [srcI, fstI]))))
    | (obtain rfl : kd = true := hkd; obtain rfl : vd = true := hvd; exact t_lit 60 (t_v (fun u _ => kfirst true) (e_r2 (.int .i64 0) (by simp [srcI, fstI]))))
    | (obtain rfl : kd = true := hkd; obtain rfl : vd = false := hvd; exact t_lit 60 (t_v (fun u _ => kfirst false) (e_r2 (.int .i64 1) (by simp [srcI, fstI]))))
    | skip
  all_goals
    refine t_lit 15 ?_
    by_cases hcc : c1 = c2
    · exact t_Y (b := decide (c1 = c2)) 9 (by simpa using hcc) (t_v (fun u _ => HL u) (e_r2 (.int .i64 kl) (by rw [hkl]; simp [srcI, hcc])))
    · refine t_N (b := decide (c1 = c2)) 9 (by simpa using hcc) (t_v (fun u _ => H1 u) (t_v (fun u _ => H2 u) ?_))
      by_cases hkk : k1 = k2
      · exact t_N (b := !(k1 == k2)) 9 (by simpa using hkk) (e_r2 (.int .i64 (-1)) (by simp [srcI, hcc, ← hk1, ← hk2, hkk]))
      · exact t_Y (b := !(k1 == k2)) 9 (by simpa using hkk) (t_v (fun u _ => H1 u) (t_v (fun u _ => kfirst k1) (e_r2 (.int .i64 (fstI k1)) (by simp [srcI, hcc, ← hk1, ← hk2, hkk]))))
theorem kdecide (x y : Hel) : Calls Tryz.prog 68 #[helV x, helV y] w fun e w' => e = .returned (verV (decK x y) (decS x y)) ∧ Below w.heap.size w w' := by
  refine run_v (t_v (fun u _ => ksrc x y) ?_)
  have hk := fun u => kkind (w := u) x y
  have hk2 := fun u => kkind (w := u) y x
  unfold decS
  unfold decK
  generalize kindI x y = k at *
  generalize kindI y x = k2 at *
  generalize srcI x y = s at *
  by_cases h0 : s = 0
  · rw [if_pos h0]
    refine t_Y (b := decide (s = 0)) 0 (by simpa using h0) (t_v (fun u _ => hk u) ?_)
    by_cases h4 : k = 4
    · exact t_N (b := !(k == 4)) 9 (by simpa using h4) (e_r2 (verV k (-1)) (by simp [h4]))
    refine t_Y (b := !(k == 4)) 1 (by simpa using h4) ?_
    by_cases h5 : k = 1
    · exact t_Y (b := decide (k = 1)) 9 (by simpa using h5) (e_r2 (verV k (-1)) (by simp [h5]))
    · exact t_N (b := decide (k = 1)) 9 (by simpa using h5) (e_r2 (verV k s) (by simp [h4, h5]))
  rw [if_neg h0]
  refine t_N (b := decide (s = 0)) 0 (by simpa using h0) ?_
  by_cases h1 : s = 1
  · rw [if_pos h1]
    refine t_Y (b := decide (s = 1)) 0 (by simpa using h1) (t_v (fun u _ => hk2 u) ?_)
    by_cases h4 : k2 = 4
    · exact t_N (b := !(k2 == 4)) 9 (by simpa using h4) (e_r2 (verV k2 (-1)) (by simp [h4]))
    refine t_Y (b := !(k2 == 4)) 1 (by simpa using h4) ?_
    by_cases h5 : k2 = 1
    · exact t_Y (b := decide (k2 = 1)) 9 (by simpa using h5) (e_r2 (verV k2 (-1)) (by simp [h5]))
    · exact t_N (b := decide (k2 = 1)) 9 (by simpa using h5) (e_r2 (verV k2 s) (by simp [h4, h5]))
  · rw [if_neg h1]
    exact t_N (b := decide (s = 1)) 30 (by simpa using h1) (e_r2 (verV 4 (-1)) (by simp))
theorem ktarget (k s : Int) : Calls Tryz.prog 71 #[verV k s] w fun e w' => e = .returned (.int .i64 (tgtI s)) ∧ Below w.heap.size w w' := by
  refine run_v ?_
  unfold tgtI
  by_cases h0 : s = 0
  · rw [if_pos h0]; exact t_Y (b := decide (s = 0)) 9 (by simpa using h0) (e_r2 (.int .i64 1) rfl)
  rw [if_neg h0]
  refine t_N (b := decide (s = 0)) 0 (by simpa using h0) ?_
  by_cases h1 : s = 1
  · rw [if_pos h1]; exact t_Y (b := decide (s = 1)) 9 (by simpa using h1) (e_r2 (.int .i64 0) rfl)
  · rw [if_neg h1]; exact t_N (b := decide (s = 1)) 9 (by simpa using h1) (e_r2 (.int .i64 (-1)) rfl)
theorem kown (s : Sup) (q : Bool) (m : Nat) : Calls Tryz.prog 169 #[supV s, .bool q, .int .u32 (m : Int)] w fun e w' => e = .returned (helV (helB s q m)) ∧ Below w.heap.size w w' := by
  obtain ⟨n, c, b, o, p, i, r, d⟩ := s
  refine run_v ?_
  cases r with
  | true => exact t_lit 9 (e_r2 (helV ⟨n, c, b, o, p, i, !q, d, q, m⟩) (by simp [helB]))
  | false => exact t_lit 9 (e_r2 (helV ⟨n, c, b, o, p, i, false, d, q, m⟩) (by simp [helB]))
end
theorem full_bitsY (n : Int) (h : 1 ≤ n ∧ n ≤ 32) : ((2 : Int) ^ n.toNat - 1) % 4294967296 = ((allB n : Nat) : Int) := by
  rw [allB_of n h.1 h.2]
  have h1 : 2 ^ n.toNat ≤ 2 ^ 32 := Nat.pow_le_pow_right (by decide) (by omega)
  have h2 : 0 < 2 ^ n.toNat := Nat.pow_pos (by decide)
  have h3 : ((2 ^ n.toNat : Nat) : Int) = (2 : Int) ^ n.toNat := by simp
  rw [← h3]
  generalize 2 ^ n.toNat = z at *
  omega
set_option maxRecDepth 100000 in
set_option maxHeartbeats 4000000 in
theorem bits_any (k s : Int) (x y : Hel) (w : World) (hm : x.m < 4294967296) (hm2 : y.m < 4294967296) (hn : 1 ≤ x.n ∧ x.n ≤ 32) : Calls Tryz.prog 69 #[verV k s, helV x, helV y] w fun e w' => e = .returned (.int .u32 ((bitsB k x y : Nat) : Int)) ∧ Below w.heap.size w w' := by
  obtain ⟨n, c, b, o, p, i, r, d, q, m⟩ := x
  obtain ⟨n2, c2, b2, o2, p2, i2, r2, d2, q2, m2⟩ := y
  unfold bitsB
  dsimp only [helV] at *
  have H0 := (((Held.refl w).lay [.int .i64 k, .int .i64 s] 138).lay [.int .i64 n, .int .u64 c, .int .u64 b, .int .u64 o, .int .u64 p, .bool i, .bool r, .bool d, .bool q, .int .u32 (m : Int)] 41).lay [.int .i64 n2, .int .u64 c2, .int .u64 b2, .int .u64 o2, .int .u64 p2, .bool i2, .bool r2, .bool d2, .bool q2, .int .u32 (m2 : Int)] 41
  simp only [World.size_alloc] at H0
  replace H0 := Lib.hid H0
  by_cases h2 : k = 2
  · subst h2
    go_enter Tryz.func69, Tryz.ntmps69
    go_wp2_with fail
    go_ret
    exact ⟨ret_int (by simp [← u32_or_nat m m2 hm hm2]), H0.out.below⟩
  · have e2 : (k == 2) = false := beq_eq_false_iff_ne.2 h2
    by_cases h3 : k = 3
    · subst h3
      go_enter Tryz.func69, Tryz.ntmps69
      go_wp2_with fail
      go_ret
      exact ⟨ret_int (by simpa using full_bitsY n hn), H0.out.below⟩
    · have e3 : (k == 3) = false := beq_eq_false_iff_ne.2 h3
      go_enter Tryz.func69, Tryz.ntmps69
      go_wp2_with fail
      go_ret
      exact ⟨ret_int (by simp), H0.out.below⟩
end Go.Proofs.YtkjikigimmchlaaGreatDoor
