/- Stores: what each call answers, both ways, carried out plainly. No condition but that the disk may be; the code's Attach under both package variables as they are laid. -/
import Derived.Test.YtabenngcmpjlhaaGreatDoorPS
import Derived.Test.YtabenngcmpjlhaaGreatDoorG3
namespace Go.Proofs.YtabenngcmpjlhaaGreatDoor
open Go.RowKit PX
set_option maxRecDepth 100000
theorem on_yes {s : List ByteArray} {c : List Wr} {f : Int} {x : Bool} {b q : Sup} {k l : Nat} {R : Ans} (h : R.e = 0) : Sto.on ⟨s, c, f, x, b, k⟩ R q l = ⟨R.s, R.c, R.f, R.x, q, l⟩ := by
  unfold Sto.on; rw [if_pos h, if_pos h]
theorem on_no {s : List ByteArray} {c : List Wr} {f : Int} {x : Bool} {b q : Sup} {k l : Nat} {R : Ans} (h : R.e ≠ 0) : Sto.on ⟨s, c, f, x, b, k⟩ R q l = ⟨R.s, R.c, R.f, R.x, b, k⟩ := by
  unfold Sto.on; rw [if_neg h, if_neg h]
theorem on_self {s : List ByteArray} {c : List Wr} {f : Int} {x : Bool} {b : Sup} {k : Nat} {R : Ans} : Sto.on ⟨s, c, f, x, b, k⟩ R b k = ⟨R.s, R.c, R.f, R.x, b, k⟩ := by
  by_cases h : R.e = 0
  · exact on_yes h
  · exact on_no h
theorem att_bad {s : List ByteArray} {c : List Wr} {f : Int} {x : Bool} {e : Int} (h : attE s c x = e) (he : e ≠ 0) : att s c f x = Sto.zero := by
  unfold att
  rw [if_neg (by rw [h]; exact he)]
theorem att_good {s : List ByteArray} {c : List Wr} {f : Int} {x : Bool} (h : attE s c x = 0) : att s c f x = ⟨s, c, f, x, (loadD s c x (s.getD 0 e0)).1, (loadB s c x).1⟩ := by
  unfold att
  rw [if_pos h]
def Sto.same (t u : Sto) : Bool := sameB t.s u.s t.c u.c t.f u.f t.x u.x && (t.b.same u.b && decide (t.m = u.m))
theorem es_box {α : Type} {enc : α → Value} {u : World} {r : Nat} {T : TypeId} (l : List α) (h : BoxO u r T (l.map enc)) : Es enc u u.heap.size (some ⟨r, 0, none⟩) l := fun j x hj => by
  refine ⟨⟨r, 0, none⟩, rfl, h.lt, ?_⟩
  have := BoxO.cell h j
  rw [List.getElem?_map, hj, Option.map_some] at this
  rw [← this]
  congr 1
  unfold Addr.add
  split <;> simp_all
theorem sup_sem (a b : Operand) (q s : Sup) (w : World) : (do Go.eqGuard .eql 36 a b (supV q) (supV s); Go.binOp .eql 36 (supV q) (supV s) : Sem Value).run Tryz.prog w = .ok (.bool (q.same s)) w := by
  simp [go_sem]
  unfold Sup.same
  repeat' split
  all_goals simp_all
section
variable (A B : Option Addr) (n m : Nat) (s : List ByteArray) (c : List Wr) (f : Int) (x : Bool) (b : Sup) (k : Nat)
theorem rzput_any (i : Int) (d : ByteArray) (w : World) (hm : Mem w A n B m s c) (hF : Fit s c f) : Calls Tryz.prog 105 #[toV ⟨s, c, f, x, b, k⟩ A n B m, .int .i64 i, .string d] w (GivesS (Sto.put ⟨s, c, f, x, b, k⟩ i d).1 (Sto.put ⟨s, c, f, x, b, k⟩ i d).2 w) := by
  unfold Sto.put
  rw [on_self]
  exact run (st_mem _ _ _ _ _ _) hm (t_d (fun u hu => raput_any A B n m s c f x i d u hu hF.l64 hF.c9 hF.fu hF.mis) fun A1 B1 n1 m1 => e_s A1 B1 n1 m1 fun u hu => hu.2)
theorem rzcommit_any (q : Sup) (w : World) (hm : Mem w A n B m s c) (hF : Fit s c f) (hw : q.wide) : Calls Tryz.prog 140 #[toV ⟨s, c, f, x, b, k⟩ A n B m, supV q] w (GivesS (Sto.commit ⟨s, c, f, x, b, k⟩ q).1 (Sto.commit ⟨s, c, f, x, b, k⟩ q).2 w) := by
  refine run (st_mem _ _ _ _ _ _) hm (t_sem (do Go.eqGuard .eql 36 (.tmp 1) (.tmp 1) (supV q) (supV b); Go.binOp .eql 36 (supV q) (supV b)) (v := .bool (q.same b)) (fun u _ _ => sup_sem _ _ q b u) ?_)
  unfold Sto.commit
  cases hq : q.same b with
  | true =>
    rw [if_pos rfl]
    exact t_lit 9 (e_s A B n m fun u hu => hu)
  | false =>
    rw [if_neg (by decide)]
    refine t_lit 1 (t_d (fun u hu => rcommit_any A B n m s c f x q u hu hw hF.l1 hF.l64 hF.c9 hF.fu hF.mis) fun A1 B1 n1 m1 => ?_)
    by_cases he : (commitD s c f x q).e = 0
    · rw [on_yes he]
      exact t_Y (b := decide ((commitD s c f x q).e = 0)) 9 (by simpa using he) (e_s A1 B1 n1 m1 fun u hu => hu.2)
    · rw [on_no he]
      exact t_N (b := decide ((commitD s c f x q).e = 0)) 9 (by simpa using he) (e_s A1 B1 n1 m1 fun u hu => hu.2)
theorem rzsave_any (k2 : Nat) (w : World) (hm : Mem w A n B m s c) (hF : Fit s c f) (hk : k2 < 4294967296) : Calls Tryz.prog 170 #[toV ⟨s, c, f, x, b, k⟩ A n B m, .int .u32 k2] w (GivesS (Sto.save ⟨s, c, f, x, b, k⟩ k2).1 (Sto.save ⟨s, c, f, x, b, k⟩ k2).2 w) := by
  unfold Sto.save
  refine run (st_mem _ _ _ _ _ _) hm ?_
  by_cases hq : k2 = k
  · rw [if_pos hq]
    exact t_Y (b := decide ((k2 : Int) = (k : Int))) 9 (by simp [hq]) (e_s A B n m fun u hu => hu)
  · rw [if_neg hq]
    refine t_N (b := decide ((k2 : Int) = (k : Int))) 0 (by simp; omega) (t_d (fun u hu => rbsave_any A B n m s c f x k2 u hu hk hF.l64 hF.c9 hF.fu hF.mis) fun A1 B1 n1 m1 => ?_)
    by_cases he : (saveB s c f x k2).e = 0
    · rw [on_yes he]
      exact t_Y (b := decide ((saveB s c f x k2).e = 0)) 9 (by simpa using he) (e_s A1 B1 n1 m1 fun u hu => hu.2)
    · rw [on_no he]
      exact t_N (b := decide ((saveB s c f x k2).e = 0)) 9 (by simpa using he) (e_s A1 B1 n1 m1 fun u hu => hu.2)
theorem rzmark_any (i : Int) (w : World) (hm : Mem w A n B m s c) (hF : Fit s c f) (hk : k < 4294967296) : Calls Tryz.prog 245 #[toV ⟨s, c, f, x, b, k⟩ A n B m, .int .i64 i] w (GivesS (Sto.mark ⟨s, c, f, x, b, k⟩ i).1 (Sto.mark ⟨s, c, f, x, b, k⟩ i).2 w) := by
  unfold Sto.mark
  refine run (st_mem _ _ _ _ _ _) hm ?_
  by_cases i0 : i < 0
  · rw [if_pos (by unfold Sto.out; simp [i0])]
    exact t_N (b := !(decide (i < 0))) 30 (by simp [i0]) (e_s A B n m fun u hu => hu)
  refine t_Y (b := !(decide (i < 0))) 4 (by simp [i0]) ?_
  by_cases i1 : b.n ≤ i
  · rw [if_pos (by unfold Sto.out; simp [i1])]
    exact t_Y (b := decide (b.n ≤ i)) 30 (by simp [i1]) (e_s A B n m fun u hu => hu)
  rw [if_neg (by unfold Sto.out; simp; omega)]
  refine t_N (b := decide (b.n ≤ i)) 0 (by simp [i1]) (t_fresh 3 [.int .i64 i] fun r hr => ?_)
  refine t_v (v := .int .u32 (setB k [i] : Nat)) (fun u hu => (rset_any k (some ⟨r, 0, none⟩) 1 [i] u _ hk (es_box (enc := Value.int .i64) [i] hu.2) (by simp [maxLen])).mono fun _ _ h => ⟨h.1, h.2 ▸ Below.refl _ _⟩) ?_
  exact t_s (fun u hu => rzsave_any A B n m s c f x b k (setB k [i]) u hu.1 hF (setB_lt hk _)) fun A1 k1 B1 m1 => e_s A1 B1 k1 m1 fun u hu => hu.2
theorem rzwipe_any (i : Int) (w : World) (hm : Mem w A n B m s c) (hF : Fit s c f) (hk : k < 4294967296) : Calls Tryz.prog 154 #[toV ⟨s, c, f, x, b, k⟩ A n B m, .int .i64 i] w (GivesS (Sto.wipe ⟨s, c, f, x, b, k⟩ i).1 (Sto.wipe ⟨s, c, f, x, b, k⟩ i).2 w) := by
  unfold Sto.wipe
  refine run (st_mem _ _ _ _ _ _) hm ?_
  by_cases i0 : i < 0
  · rw [if_pos (by unfold Sto.out; simp [i0])]
    exact t_N (b := !(decide (i < 0))) 30 (by simp [i0]) (e_s A B n m fun u hu => hu)
  refine t_Y (b := !(decide (i < 0))) 4 (by simp [i0]) ?_
  by_cases i1 : b.n ≤ i
  · rw [if_pos (by unfold Sto.out; simp [i1])]
    exact t_Y (b := decide (b.n ≤ i)) 30 (by simp [i1]) (e_s A B n m fun u hu => hu)
  rw [if_neg (by unfold Sto.out; simp; omega)]
  refine t_N (b := decide (b.n ≤ i)) 0 (by simp [i1]) (t_fresh 3 [.int .i64 i] fun r hr => ?_)
  refine t_v (v := .int .u32 (clrB k [i] : Nat)) (fun u hu => (rclear_any k (some ⟨r, 0, none⟩) 1 [i] u _ hk (es_box (enc := Value.int .i64) [i] hu.2) (by simp [maxLen])).mono fun _ _ h => ⟨h.1, h.2 ▸ Below.refl _ _⟩) ?_
  unfold Sto.note
  by_cases hq : clrB k [i] = k
  · rw [if_pos hq]
    exact t_Y (b := decide ((clrB k [i] : Int) = (k : Int))) 9 (by simp [hq]) (e_s A B n m fun u hu => hu.1)
  rw [if_neg hq]
  refine t_N (b := decide ((clrB k [i] : Int) = (k : Int))) 0 (by simp; omega) (t_d (fun u hu => rbnote_any A B n m s c f x (clrB k [i]) u hu.1 (clrB_lt hk _) hF.l64 hF.c9 hF.fu) fun A1 B1 n1 m1 => ?_)
  by_cases he : (noteB s c f x (clrB k [i])).e = 0
  · rw [on_yes he]
    exact t_Y (b := decide ((noteB s c f x (clrB k [i])).e = 0)) 9 (by simpa using he) (e_s A1 B1 n1 m1 fun u hu => hu.2)
  · rw [on_no he]
    exact t_N (b := decide ((noteB s c f x (clrB k [i])).e = 0)) 9 (by simpa using he) (e_s A1 B1 n1 m1 fun u hu => hu.2)
theorem rzjoin_any (k2 : Nat) (w : World) (hm : Mem w A n B m s c) (hF : Fit s c f) (hk : k < 4294967296) (hk2 : k2 < 4294967296) : Calls Tryz.prog 125 #[toV ⟨s, c, f, x, b, k⟩ A n B m, .int .u32 k2] w (GivesS (Sto.join ⟨s, c, f, x, b, k⟩ k2).1 (Sto.join ⟨s, c, f, x, b, k⟩ k2).2 w) := by
  unfold Sto.join
  have hu : uniB [k, k2] < 4294967296 := uniB_lt _ (by intro y hy; simp at hy; omega)
  refine run (st_mem _ _ _ _ _ _) hm (t_fresh 37 [.int .u32 (k : Nat), .int .u32 (k2 : Nat)] fun r hr => ?_)
  refine t_v (f := 171) (args := #[.slice (some ⟨r, 0, none⟩) 2 2]) (v := .int .u32 (uniB [k, k2] : Nat)) (fun u hu => ?_) ?_
  · have := runion_any (some ⟨r, 0, none⟩) 2 [k, k2] u (es_box (enc := Value.int .u32) [(k : Int), (k2 : Int)] hu.2) (by intro y hy; simp at hy; omega) (by simp [maxLen])
    exact this
  exact t_s (fun u hu2 => rzsave_any A B n m s c f x b k (uniB [k, k2]) u hu2.1 hF hu) fun A1 k1 B1 m1 => e_s A1 B1 k1 m1 fun u hu => hu.2
theorem rzsame_any (A2 B2 : Option Addr) (n2 m2 : Nat) (s2 : List ByteArray) (c2 : List Wr) (f2 : Int) (x2 : Bool) (b2 : Sup) (k2 : Nat) (w : World) (hm : Mem w A n B m s c) (hm2 : Mem w A2 n2 B2 m2 s2 c2) (hl : s.length ≤ 1000) (_hl2 : s2.length ≤ 1000) (hl3 : c.length ≤ 1000) (_hl4 : c2.length ≤ 1000) :
    Calls Tryz.prog 54 #[toV ⟨s, c, f, x, b, k⟩ A n B m, toV ⟨s2, c2, f2, x2, b2, k2⟩ A2 n2 B2 m2] w fun e w' => e = .returned (.bool (Sto.same ⟨s, c, f, x, b, k⟩ ⟨s2, c2, f2, x2, b2, k2⟩)) ∧ Below w.heap.size w w' := by
  refine run (K := fun u => Mem u A n B m s c ∧ Mem u A2 n2 B2 m2 s2 c2) ((st_mem _ _ _ _ _ _).and (st_mem _ _ _ _ _ _)) ⟨hm, hm2⟩ ?_
  refine t_v (fun u hu => rsame_any A B A2 B2 n m n2 m2 s s2 c c2 f f2 x x2 u hu.1.es hu.1.ws hu.2.es hu.2.ws (by unfold maxLen; omega) (by unfold maxLen; omega)) ?_
  unfold Sto.same
  cases hq : sameB s s2 c c2 f f2 x x2 with
  | false => exact t_lit 30 (e_r2 (.bool false) (by simp))
  | true =>
    refine t_lit 5 (t_sem (do Go.eqGuard .eql 36 (.tmp 1) (.tmp 1) (supV b) (supV b2); Go.binOp .eql 36 (supV b) (supV b2)) (v := .bool (b.same b2)) (fun u _ _ => sup_sem _ _ b b2 u) ?_)
    cases hs : b.same b2 with
    | false => exact t_lit 30 (e_r2 (.bool false) (by simp))
    | true =>
      exact t_lit 30 (e_r2 (.bool (decide ((k : Int) = (k2 : Int)))) (by simp; omega))
omit b k in
theorem rzattach_any (w : World) (hm : Mem w A n B m s c) (hF : Fit s c f) : Calls Tryz.prog 29 #[.agg #[.slice A s.length n, .slice B c.length m, .int .i64 f, .bool x]] w (GivesS (att s c f x) (attE s c x) w) := by
  refine run (st_mem _ _ _ _ _ _) hm (t_vb (fun u hu _ => rload_any A B n m s c f x (s.getD 0 e0) u hu hF.first hF.l64 (by have := hF.c9; omega) (hF.hold 0 0)) ?_)
  by_cases h1 : ¬ (loadD s c x (s.getD 0 e0)).2 = 0
  · have e : attE s c x = (loadD s c x (s.getD 0 e0)).2 := by unfold attE; rw [if_neg h1]
    rw [att_bad e h1, e]
    exact t_Y (b := (loadD s c x (s.getD 0 e0)).2 != 0) 9 (by simpa using h1) (e_s none none 0 0 fun u _ => mem_nil u)
  replace h1 := Decidable.not_not.1 h1
  refine t_N (b := (loadD s c x (s.getD 0 e0)).2 != 0) 0 (by simpa using h1) (t_v (fun u hu => rbload_any A B n m s c f x u hu hF.l64 (by have := hF.c9; omega) (hF.hold 1 1)) ?_)
  by_cases h2 : ¬ (loadB s c x).2 = 0
  · have e : attE s c x = (loadB s c x).2 := by unfold attE; rw [if_pos h1, if_neg h2]
    rw [att_bad e h2, e]
    exact t_Y (b := (loadB s c x).2 != 0) 9 (by simpa using h2) (e_s none none 0 0 fun u _ => mem_nil u)
  replace h2 := Decidable.not_not.1 h2
  refine t_N (b := (loadB s c x).2 != 0) 0 (by simpa using h2) ?_
  refine t_call (args := #[.agg #[.slice A s.length n, .slice B c.length m, .int .i64 f, .bool x]]) (fun u hu _ => raall_any A B n m s c f x u hu hF.l64 (by have := hF.c9; omega)) ?_
  rintro u e u' _ _ ⟨A1, n1, rfl, _, hb⟩
  refine ⟨_, fun _ => True, rfl, hb, st_p _, trivial, ?_⟩
  by_cases h3 : ¬ (allA s c x).2 = 0
  · have e : attE s c x = (allA s c x).2 := by unfold attE; rw [if_pos h1, if_pos h2]
    rw [att_bad e h3, e]
    exact t_Y (b := (allA s c x).2 != 0) 9 (by simpa using h3) (e_s none none 0 0 fun u _ => mem_nil u)
  replace h3 := Decidable.not_not.1 h3
  have e : attE s c x = 0 := by unfold attE; rw [if_pos h1, if_pos h2, h3]
  rw [att_good e, e]
  exact t_N (b := (allA s c x).2 != 0) 9 (by simpa using h3) (e_s A B n m fun u hu => hu.1)
theorem zread_any (i : Int) (w : World) (hm : Mem w A n B m s c) (hF : Fit s c f) : Calls Tryz.prog 58 #[toV ⟨s, c, f, x, b, k⟩ A n B m, .int .i64 i] w fun e w' => e = .returned (.tuple #[.string (readA s c x i).1, .int .i64 (readA s c x i).2]) ∧ Below w.heap.size w w' := by
  exact run (st_mem _ _ _ _ _ _) hm (t_v (fun u hu => aread_any A B n m s c f x i u hu hF.l64 (by have := hF.c9; omega)) e_r)
theorem zput_any (i : Int) (d : ByteArray) (w : World) (hm : Mem w A n B m s c) (hF : Fit s c f) : Calls Tryz.prog 102 #[toV ⟨s, c, f, x, b, k⟩ A n B m, .int .i64 i, .string d] w (GivesS (Sto.put ⟨s, c, f, x, b, k⟩ i d).1 (Sto.put ⟨s, c, f, x, b, k⟩ i d).2 w) := by
  unfold Sto.put
  rw [on_self]
  exact run (st_mem _ _ _ _ _ _) hm (t_d (fun u hu => aput_any A B n m s c f x i d u hu hF.l64 hF.c9 hF.fu hF.mis) fun A1 B1 n1 m1 => e_s A1 B1 n1 m1 fun u hu => hu.2)
theorem zcommit_any (q : Sup) (w : World) (hm : Mem w A n B m s c) (hF : Fit s c f) (hw : q.wide) : Calls Tryz.prog 111 #[toV ⟨s, c, f, x, b, k⟩ A n B m, supV q] w (GivesS (Sto.commit ⟨s, c, f, x, b, k⟩ q).1 (Sto.commit ⟨s, c, f, x, b, k⟩ q).2 w) := by
  refine run (st_mem _ _ _ _ _ _) hm (t_sem (do Go.eqGuard .eql 36 (.tmp 1) (.tmp 1) (supV q) (supV b); Go.binOp .eql 36 (supV q) (supV b)) (v := .bool (q.same b)) (fun u _ _ => sup_sem _ _ q b u) ?_)
  unfold Sto.commit
  cases hq : q.same b with
  | true =>
    rw [if_pos rfl]
    exact t_lit 9 (e_s A B n m fun u hu => hu)
  | false =>
    rw [if_neg (by decide)]
    refine t_lit 1 (t_d (fun u hu => commit_any A B n m s c f x q u hu hw hF.l1 hF.l64 hF.c9 hF.fu hF.mis) fun A1 B1 n1 m1 => ?_)
    by_cases he : (commitD s c f x q).e = 0
    · rw [on_yes he]
      exact t_Y (b := decide ((commitD s c f x q).e = 0)) 9 (by simpa using he) (e_s A1 B1 n1 m1 fun u hu => hu.2)
    · rw [on_no he]
      exact t_N (b := decide ((commitD s c f x q).e = 0)) 9 (by simpa using he) (e_s A1 B1 n1 m1 fun u hu => hu.2)
theorem zrnote_any (k2 : Nat) (w : World) (hm : Mem w A n B m s c) (hF : Fit s c f) (hk : k2 < 4294967296) (hq : k2 ≠ k) : Calls Tryz.prog 146 #[toV ⟨s, c, f, x, b, k⟩ A n B m, .int .u32 k2, .func (.func 148) #[] #[]] w (GivesS (Sto.note ⟨s, c, f, x, b, k⟩ k2).1 (Sto.note ⟨s, c, f, x, b, k⟩ k2).2 w) := by
  unfold Sto.note
  rw [if_neg hq]
  refine run (st_mem _ _ _ _ _ _) hm (t_d (fun u hu => bnote_any A B n m s c f x k2 u hu hk hF.l64 hF.c9 hF.fu) fun A1 B1 n1 m1 => ?_)
  by_cases he : (noteB s c f x k2).e = 0
  · rw [on_yes he]
    exact t_Y (b := decide ((noteB s c f x k2).e = 0)) 9 (by simpa using he) (e_s A1 B1 n1 m1 fun u hu => hu.2)
  · rw [on_no he]
    exact t_N (b := decide ((noteB s c f x k2).e = 0)) 9 (by simpa using he) (e_s A1 B1 n1 m1 fun u hu => hu.2)
theorem zhas_any (i : Int) (w : World) : Calls Tryz.prog 144 #[toV ⟨s, c, f, x, b, k⟩ A n B m, .int .i64 i] w fun e w' => e = .returned (.bool (!(Sto.out ⟨s, c, f, x, b, k⟩ i))) ∧ Below w.heap.size w w' := by
  refine run_v ?_
  unfold Sto.out
  by_cases h0 : 0 ≤ i
  · exact t_Y (b := decide (0 ≤ i)) 9 (by simpa using h0) (e_r2 (.bool (decide (i < b.n))) (by rw [show (decide (i < 0) = false) by simp; omega, Bool.false_or, ← decide_not]; simp [Int.not_le]))
  · exact t_N (b := decide (0 ≤ i)) 9 (by simpa using h0) (e_r2 (.bool false) (by simp [show i < 0 by omega]))
theorem clr_no {k : Nat} {i : Int} (hk : k < 4294967296) (h : hasB k i = false) : clrB k [i] = k := by
  have e1 : ofB [i] = oneB i := by simp [ofB]
  unfold clrB
  rw [e1]
  exact clr_none k i hk h
theorem clr_yes {k : Nat} {i : Int} (hk : k < 4294967296) (h : hasB k i = true) : clrB k [i] ≠ k := by
  have e1 : ofB [i] = oneB i := by simp [ofB]
  obtain ⟨h1, h2⟩ := clr_had k i hk h
  have h3 : 0 < 2 ^ i.toNat := Nat.two_pow_pos _
  unfold clrB
  rw [e1, ← h2]
  omega
theorem zwipe_any (i : Int) (w : World) (hm : Mem w A n B m s c) (hF : Fit s c f) (hk : k < 4294967296) : Calls Tryz.prog 103 #[toV ⟨s, c, f, x, b, k⟩ A n B m, .int .i64 i] w (GivesS (Sto.wipe ⟨s, c, f, x, b, k⟩ i).1 (Sto.wipe ⟨s, c, f, x, b, k⟩ i).2 w) := by
  unfold Sto.wipe
  refine run (st_mem _ _ _ _ _ _) hm (t_v (fun u _ => zhas_any A B n m s c f x b k i u) ?_)
  by_cases ho : Sto.out ⟨s, c, f, x, b, k⟩ i = true
  · rw [if_pos ho]
    exact t_Y (b := !(!(Sto.out ⟨s, c, f, x, b, k⟩ i))) 9 (by simp [ho]) (e_s A B n m fun u hu => hu)
  rw [if_neg ho, show (⟨s, c, f, x, b, k⟩ : Sto).m = k from rfl]
  have hM := fun u => has_any k i u hk
  cases hh : hasB k i with
  | false =>
    have e : Sto.note ⟨s, c, f, x, b, k⟩ (clrB k [i]) = (⟨s, c, f, x, b, k⟩, 0) := by
      unfold Sto.note
      rw [if_pos (clr_no hk hh)]
    rw [hh] at hM
    rw [e]
    exact t_N (b := !(!(Sto.out ⟨s, c, f, x, b, k⟩ i))) 0 (by simpa using ho) (t_v (fun u _ => hM u) (t_lit 9 (e_s A B n m fun u hu => hu)))
  | true =>
    rw [hh] at hM
    refine t_N (b := !(!(Sto.out ⟨s, c, f, x, b, k⟩ i))) 0 (by simpa using ho) (t_v (fun u _ => hM u) (t_lit 9 (t_fresh 3 [.int .i64 i] fun r hr => ?_)))
    refine t_v (v := .int .u32 (clrB k [i] : Nat)) (fun u hu => (clear_any k (some ⟨r, 0, none⟩) 1 [i] u _ hk (es_box (enc := Value.int .i64) [i] hu.2) (by simp [maxLen])).mono fun _ _ h => ⟨h.1, h.2 ▸ Below.refl _ _⟩) ?_
    exact t_s (fun u hu => zrnote_any A B n m s c f x b k (clrB k [i]) u hu.1 hF (clrB_lt hk _) (clr_yes hk hh)) fun A1 k1 B1 m1 => e_s A1 B1 k1 m1 fun u hu => hu.2
omit b k in
end
end Go.Proofs.YtabenngcmpjlhaaGreatDoor
