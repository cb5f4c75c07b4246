/- Nodes in memory through calls carried out plainly: what stays, and the steps by what callees answer. No condition. -/
import Derived.Laws.AppendOwnNone
import Derived.Test.YtkjikigimmchlaaGreatDoorNF
import Derived.Test.YtkjikigimmchlaaGreatDoorNX
import Derived.Test.YtkjikigimmchlaaGreatDoorPS
import Derived.Test.YtkjikigimmchlaaGreatDoorNQ
import Derived.Test.YtkjikigimmchlaaGreatDoorRY
import Derived.Test.YtkjikigimmchlaaGreatDoorNI
namespace Go.Proofs.YtkjikigimmchlaaGreatDoor
open Go.RowKit
theorem flat_at {α : Type} (f : α → List Value) (n : Nat) (hf : ∀ x, (f x).length = n) : ∀ (l : List α) (j : Nat) (x : α) (i : Nat), l[j]? = some x → i < n → (l.flatMap f)[j * n + i]? = (f x)[i]?
  | [], j, x, i, h, _ => by simp at h
  | y :: l, 0, x, i, h, hi => by
    have e : y = x := by simpa using h
    subst e
    rw [List.flatMap_cons, List.getElem?_append_left (by rw [hf]; omega), Nat.zero_mul, Nat.zero_add]
  | y :: l, j + 1, x, i, h, hi => by
    have h2 : l[j]? = some x := by simpa using h
    have e : (j + 1) * n + i = n + (j * n + i) := by rw [Nat.add_mul]; omega
    rw [List.flatMap_cons, e, List.getElem?_append_right (by rw [hf]; omega), hf, Nat.add_sub_cancel_left]
    exact flat_at f n hf l j x i h2 hi
theorem flat_length {α : Type} (f : α → List Value) (n : Nat) (hf : ∀ x, (f x).length = n) (l : List α) : (l.flatMap f).length = l.length * n := by
  induction l with
  | nil => simp
  | cons y l ih => rw [List.flatMap_cons, List.length_append, hf, ih, List.length_cons, Nat.add_mul]; omega
def cellsO (l : List Ou) : List Value := l.flatMap ouC
theorem cellsO_length (l : List Ou) : (cellsO l).length = l.length * 5 := flat_length ouC 5 (fun _ => rfl) l
theorem cellsO_append (l r : List Ou) : cellsO (l ++ r) = cellsO l ++ cellsO r := by unfold cellsO; rw [List.flatMap_append]
theorem cellsO_at (l : List Ou) (j : Nat) (x : Ou) (i : Nat) (h : l[j]? = some x) (hi : i < 5) : (cellsO l)[j * 5 + i]? = (ouC x)[i]? := flat_at ouC 5 (fun _ => rfl) l j x i h hi
theorem cellsO_one (l : List Ou) : ∀ u ∈ cellsO l, u.oneCell' = true := by
  intro u hu
  obtain ⟨x, _, hx⟩ := List.mem_flatMap.1 hu
  exact List.all_eq_true.1 (show (ouC x).all (·.oneCell') = true from rfl) u hx
theorem oadd_more (a : Addr) (m i : Nat) (hi : i ≠ 0) : (⟨(a.add m).block, (a.add m).off + i, none⟩ : Addr) = a.add (m + i) := by
  have e1 : (a.add m).block = a.block := add_block a m
  have e2 : (a.add m).off = a.off + m := by unfold Addr.add; split <;> simp_all
  rw [e1, e2]
  unfold Addr.add
  rw [if_neg (by omega), Nat.add_assoc]
theorem os_cells {w : World} {D : Nat} {a : Addr} {l : List Ou} (h : Os w D (some a) l) : ∀ j u, (cellsO l)[j]? = some u → w.cell? (a.add j) = some u := by
  intro j u hu
  have hj : j / 5 < l.length := by
    have := (List.getElem?_eq_some_iff.1 hu).1
    rw [cellsO_length] at this
    omega
  have hm : j % 5 < 5 := Nat.mod_lt _ (by decide)
  have e : j / 5 * 5 + j % 5 = j := by omega
  obtain ⟨a', ha, _, h0, h1, h2, h3, h4⟩ := h (j / 5) l[j / 5] (List.getElem?_eq_getElem hj)
  injection ha with ha
  subst ha
  have g := cellsO_at l (j / 5) l[j / 5] (j % 5) (List.getElem?_eq_getElem hj) hm
  rw [e, hu] at g
  rw [oadd_more _ _ _ (by decide)] at h1 h2 h3 h4
  generalize hk : j % 5 = k at *
  rw [← e]
  match k, hm with
  | 0, _ => rw [Nat.add_zero, h0, g]; rfl
  | 1, _ => rw [h1, g]; rfl
  | 2, _ => rw [h2, g]; rfl
  | 3, _ => rw [h3, g]; rfl
  | 4, _ => rw [h4, g]; rfl
theorem own_os {w : World} {base : Nat} {v : Value} {l : List Ou} (h : w.ownsRow base 59 5 v l.length (cellsO l)) : ∃ A cap, v = .slice A l.length cap ∧ OM w A cap l := by
  obtain ⟨A, cap, hv, hn, hc⟩ := own_slice h
  refine ⟨A, cap, hv, ⟨fun j x hj => ?_, hn, by rw [hv] at h; exact own_ty h⟩⟩
  have g := fun i (hi : i < 5) => cellsO_at l j x i hj hi
  obtain ⟨a, ha, hlt, h0⟩ := hc _ _ (g 0 (by decide))
  obtain ⟨a1, ha1, _, h1⟩ := hc _ _ (g 1 (by decide))
  obtain ⟨a2, ha2, _, h2⟩ := hc _ _ (g 2 (by decide))
  obtain ⟨a3, ha3, _, h3⟩ := hc _ _ (g 3 (by decide))
  obtain ⟨a4, ha4, _, h4⟩ := hc _ _ (g 4 (by decide))
  rw [ha] at ha1 ha2 ha3 ha4
  injection ha1 with q1; injection ha2 with q2; injection ha3 with q3; injection ha4 with q4
  subst q1; subst q2; subst q3; subst q4
  refine ⟨a, ha, hlt, h0, ?_, ?_, ?_, ?_⟩
  · rw [oadd_more _ _ _ (by decide)]; exact h1
  · rw [oadd_more _ _ _ (by decide)]; exact h2
  · rw [oadd_more _ _ _ (by decide)]; exact h3
  · rw [oadd_more _ _ _ (by decide)]; exact h4
theorem infoOu : (Tryz.prog.info? 59).map (fun i => (i.zero, i.size, i.bytes)) = some (some (.agg #[.int .i64 0, .int .i64 0, .int .i64 0, .int .i64 0, .string ⟨#[]⟩]), 5, 48) := by kernel_rfl
end Go.Proofs.YtkjikigimmchlaaGreatDoor
namespace Go.Proofs.YtkjikigimmchlaaGreatDoor
open Go.RowKit
structure Rw (w0 : World) (v : Value) (l : List Ou) (w : World) : Prop where
  own : w.ownsRow w0.heap.size 59 5 v l.length (cellsO l)
section
variable {w0 w w' : World} {v : Value} {l : List Ou}
theorem Rw.kept (h : Rw w0 v l w) (hk : ∀ g, v.ownBlock = some g → g < w.heap.size → w'.heap[g]? = w.heap[g]?) : Rw w0 v l w' := by
  obtain ⟨h0, h2 | ⟨g, cap, cur, rfl, hbg, hh, r⟩⟩ := h.own
  · exact ⟨h0, Or.inl h2⟩
  · exact ⟨h0, Or.inr ⟨g, cap, cur, rfl, hbg, (hk g rfl (Array.getElem?_eq_some_iff.1 hh).1).trans hh, r⟩⟩
theorem Rw.up (h : Rw w0 v l w) (hb : Below w.heap.size w w') : Rw w0 v l w' := h.kept fun g _ hg => hb.block g hg
theorem Rw.ne (h : Rw w0 v l w) {b : Nat} {cs : Array Value} {T : TypeId} {fr : Nat × Nat} (hb : w.heap[b]? = some (.cells cs T fr)) (hT : 59 ≠ T) : some b ≠ v.ownBlock := by
  obtain ⟨h0, ⟨rfl, _⟩ | ⟨g, cap, cur, rfl, hbg, hh, r⟩⟩ := h.own
  · intro e; cases e
  · intro e
    injection e with e
    rw [e] at hb
    rw [hh] at hb
    injection hb with hb
    injection hb with _ hb
    exact hT hb
theorem heap_setCells {b : Nat} : ∀ (cs : List Value) (o : Nat) (w : World) (g : Nat), g ≠ b → (w.setCells b o cs).heap[g]? = w.heap[g]?
  | [], _, _, _, _ => rfl
  | x :: r, o, w, g, h => by
    rw [World.setCells, heap_setCells r (o + 1) _ g h]
    exact heap_setCell_other w _ g x h
theorem Rw.st {b : Nat} {T : TypeId} {vs : List Value} (h : Rw w0 v l w) (hx : BoxT w b T vs) (hT : Apart T) (hs : St w w' b) : Rw w0 v l w' := by
  obtain ⟨o, cs, rfl⟩ := hs
  exact h.kept fun g hg _ => heap_setCells cs o w g fun e => h.ne hx hT.o (by rw [hg, e])
theorem Rw.om (h : Rw w0 v l w) : ∃ A c, v = .slice A l.length c ∧ OM w A c l ∧ Fr w0 A := by
  obtain ⟨A, c, hv, ho⟩ := own_os h.own
  refine ⟨A, c, hv, ho, fun p hp => ?_⟩
  subst hp
  exact (h.own.lt p.block (by rw [hv]; rfl)).1
theorem rw_nil (w0 w : World) : Rw w0 (.slice none 0 0) [] w := ⟨World.ownsRow_nil w _ _ _⟩
theorem Rw.block (h : Rw w0 v l w) (hg : w.grownBy w' v.ownBlock) {b : Nat} {cs : Array Value} {T : TypeId} {fr : Nat × Nat} (hb : w.heap[b]? = some (.cells cs T fr)) (hT : 59 ≠ T) : w'.heap[b]? = w.heap[b]? :=
  hg.block b (Array.getElem?_eq_some_iff.1 hb).1 (h.ne hb hT)
theorem Rw.box {b : Nat} {T : TypeId} {vs : List Value} (h : Rw w0 v l w) (hg : w.grownBy w' v.ownBlock) (hb : BoxT w b T vs) (hT : 59 ≠ T) : BoxT w' b T vs := (h.block hg hb hT).trans hb
theorem Rw.ty {A : Option Addr} {T : TypeId} (h : Rw w0 v l w) (hg : w.grownBy w' v.ownBlock) (ht : Ty w A T) (hT : 59 ≠ T) : Ty w' A T := fun a ha => by
  obtain ⟨cs, fr, hc⟩ := ht a ha
  exact ⟨cs, fr, (h.block hg hc hT).trans hc⟩
theorem Rw.cell {A : Option Addr} {T : TypeId} (h : Rw w0 v l w) (hg : w.grownBy w' v.ownBlock) (ht : Ty w A T) (hT : 59 ≠ T) {a : Addr} (ha : A = some a) {p : Addr} (hp : p.block = a.block) : w'.cell? p = w.cell? p := by
  obtain ⟨cs, fr, hc⟩ := ht a ha
  exact World.cell?_of_block (by rw [hp]; exact h.block hg hc hT)
theorem Rw.es {α : Type} {enc : α → Value} {A : Option Addr} {T : TypeId} {x : List α} (h : Rw w0 v l w) (hg : w.grownBy w' v.ownBlock) (ht : Ty w A T) (hT : 59 ≠ T) (he : Es enc w w.heap.size A x) : Es enc w' w'.heap.size A x := by
  intro j y hj
  obtain ⟨a, ha, hlt, hc⟩ := he j y hj
  exact ⟨a, ha, Nat.lt_of_lt_of_le hlt hg.size, (h.cell hg ht hT ha (add_block ..)).trans hc⟩
theorem Rw.ws {A : Option Addr} {T : TypeId} {x : List Wr} (h : Rw w0 v l w) (hg : w.grownBy w' v.ownBlock) (ht : Ty w A T) (hT : 59 ≠ T) (he : Ws w w.heap.size A x) : Ws w' w'.heap.size A x := by
  intro j y hj
  obtain ⟨a, ha, hlt, hc, hd⟩ := he j y hj
  exact ⟨a, ha, Nat.lt_of_lt_of_le hlt hg.size, (h.cell hg ht hT ha (add_block ..)).trans hc, (h.cell hg ht hT ha (by show (a.add (j * 2)).block = a.block; rw [add_block])).trans hd⟩
theorem Rw.ms {A : Option Addr} {T : TypeId} {x : List Mnt} (h : Rw w0 v l w) (hg : w.grownBy w' v.ownBlock) (ht : Ty w A T) (hT : 59 ≠ T) (he : Ms w w.heap.size A x) : Ms w' w'.heap.size A x := by
  intro j y hj
  obtain ⟨a, ha, hlt, hc, hd, hf⟩ := he j y hj
  exact ⟨a, ha, Nat.lt_of_lt_of_le hlt hg.size, (h.cell hg ht hT ha (add_block ..)).trans hc, (h.cell hg ht hT ha (by show (a.add (j * 3)).block = a.block; rw [add_block])).trans hd, (h.cell hg ht hT ha (by show (a.add (j * 3)).block = a.block; rw [add_block])).trans hf⟩
theorem Rw.mem {A B : Option Addr} {n m : Nat} {s : List ByteArray} {c : List Wr} (h : Rw w0 v l w) (hg : w.grownBy w' v.ownBlock) (hm : Mem w A n B m s c) : Mem w' A n B m s c :=
  ⟨h.es hg hm.ta (by decide) hm.es, h.ws hg hm.tb (by decide) hm.ws, hm.an, hm.bn, h.ty hg hm.ta (by decide), h.ty hg hm.tb (by decide)⟩
theorem Rw.nm {n : Nod} {a : Adr} (h : Rw w0 v l w) (hg : w.grownBy w' v.ownBlock) (hn : NM w n a) : NM w' n a :=
  ⟨h.mem hg hn.t, h.es hg hn.dt (by decide) hn.d, hn.dn, h.ty hg hn.dt (by decide), h.ms hg hn.mt (by decide) hn.mi, hn.mn, h.ty hg hn.mt (by decide)⟩
theorem Rw.all {Bs : List Bk} {Ns : List (Nod × Adr)} {Ds : List Dk} (h : Rw w0 v l w) (hg : w.grownBy w' v.ownBlock) (ha : All w0 Bs Ns Ds [] w) : All w0 Bs Ns Ds [] w' :=
  ⟨ha.below.grown hg ha.below.size (fun k hk => (h.own.lt k hk).1), fun x hx => h.box hg (ha.box x hx) (ha.ap x hx).o, ha.own, ha.ap, ha.ne, fun x hx => h.nm hg (ha.nm x hx), fun x hx => h.mem hg (ha.dm x hx), by simp⟩
end
end Go.Proofs.YtkjikigimmchlaaGreatDoor
namespace Go.Proofs.YtkjikigimmchlaaGreatDoor
open Go.RowKit
section
variable {w0 w w' : World} {v : Value} {l : List Ou}
theorem Rw.lk {x : Lnk} {A B : Option Addr} {n m : Nat} (h : Rw w0 v l w) (hg : w.grownBy w' v.ownBlock) (hk : Lk w x A n B m) : Lk w' x A n B m :=
  ⟨h.es hg hk.ta (by decide) hk.ea, h.es hg hk.tb (by decide) hk.eb, hk.na, hk.nb, hk.la, hk.lb, h.ty hg hk.ta (by decide), h.ty hg hk.tb (by decide)⟩
theorem Rw.cm {c : Clu} {x : CAd} (h : Rw w0 v l w) (hg : w.grownBy w' v.ownBlock) (hk : CM w c x) : CM w' c x := ⟨h.nm hg hk.a, h.nm hg hk.b, h.lk hg hk.l⟩
end
structure RE (w0 w : World) (v : Value) (l : List Ou) (u : Value) (k : World) : Prop where
  rw : Rw w0 u l k
  gr : w.grownBy k v.ownBlock
  at' : ∀ j, u.ownBlock = some j → w.heap.size ≤ j ∨ v.ownBlock = some j
section
variable {w0 w k k' : World} {v u u' : Value} {l m : List Ou}
theorem gr_below {row : Option Nat} (h : w.grownBy k row) (hb : Below w.heap.size k k') : w.grownBy k' row := ⟨hb.os.trans h.os, hb.tape.trans h.tape, hb.output.trans h.output, Nat.le_trans h.size hb.size, fun i hi hn => (hb.block i hi).trans (h.block i hi hn)⟩
theorem RE.up (h : RE w0 w v l u k) (hb : Below k.heap.size k k') : RE w0 w v l u k' := ⟨h.rw.up hb, gr_below h.gr (hb.mono h.gr.size), h.at'⟩
theorem RE.st {b : Nat} {T : TypeId} {vs : List Value} (h : RE w0 w v l u k) (hx : BoxT k b T vs) (hT : Apart T) (hs : St k k' b) (hb : w.heap.size ≤ b) : RE w0 w v l u k' := ⟨h.rw.st hx hT hs, gr_below h.gr (below_st (Below.refl _ _) hb hs), h.at'⟩
theorem RE.app (h : RE w0 w v l u k) (hr : Rw w0 u' m k') (hg : k.grownBy k' u.ownBlock) (ha : u'.ownBlock = u.ownBlock ∨ u'.ownBlock = some k.heap.size) : RE w0 w v m u' k' := ⟨hr, h.gr.andThen hg h.at', fun j e => by
  rcases ha with ha | ha
  · rw [ha] at e; exact h.at' j e
  · rw [ha] at e; cases e; exact .inl h.gr.size⟩
end
theorem AC.from {w0 w : World} (h : Below w0.heap.size w0 w) : AC w0 [] [] [] [] w := ⟨⟨h, by simp, by simp, by simp, by simp, by simp, by simp, by simp⟩, by simp⟩
theorem RE.size {w0 w k : World} {v u : Value} {l : List Ou} (h : RE w0 w v l u k) : w.heap.size ≤ k.heap.size := h.gr.size
theorem AC.less {w0 w : World} {Bs Bs2 : List Bk} {Ns : List (Nod × Adr)} {Cs Cs2 : List (Clu × CAd)} {Os : List Ol} (h : AC w0 Bs Ns Cs Os w) (hB : ∀ q ∈ Bs2, q ∈ Bs) (hn : (Bs2.map fun x => x.1).Nodup) (hC : ∀ q ∈ Cs2, q ∈ Cs) : AC w0 Bs2 [] Cs2 [] w :=
  ⟨⟨h.all.below, fun q hq => h.all.box q (hB q hq), fun q hq => h.all.own q (hB q hq), fun q hq => h.all.ap q (hB q hq), hn, by simp, by simp, by simp⟩, fun q hq => h.cm q (hC q hq)⟩
def GivesC (r : Clu × List Ou) (w : World) (e : Ending) (w' : World) : Prop :=
  ∃ x v, e = .returned (.tuple #[cluV r.1 x, v]) ∧ CM w' r.1 x ∧ Rw w v r.2 w' ∧ Below w.heap.size w w'
def GivesR (w0 : World) (v : Value) (r : Clu × List Ou) (w : World) (e : Ending) (w' : World) : Prop :=
  ∃ x u, e = .returned (.tuple #[cluV r.1 x, u]) ∧ CM w' r.1 x ∧ RE w0 w v r.2 u w'
end Go.Proofs.YtkjikigimmchlaaGreatDoor
namespace Go.Proofs.YtkjikigimmchlaaGreatDoor
open Go.RowKit PX
section
variable {ap : TypeId → Bool} {w w' : World} {A : Option Addr} {T : TypeId}
theorem Ms.ext {l : List Mnt} (h : Ms w w.heap.size A l) (ht : Ty w A T) (e : Ext ap w w') (hT : ap T = false) : Ms w' w'.heap.size A l := by
  intro j x hj
  obtain ⟨a, ha, hlt, hc, hd, he⟩ := h j x hj
  have hs := ht.sameB e hT a ha
  exact ⟨a, ha, Nat.lt_of_lt_of_le hlt e.size, (cell_of (add_block ..) hs).trans hc, (cell_of (by show (a.add (j * 3)).block = _; exact add_block ..) hs).trans hd, (cell_of (by show (a.add (j * 3)).block = _; exact add_block ..) hs).trans he⟩
theorem NM.ext {n : Nod} {a : Adr} (h : NM w n a) (e : Ext tyL w w') : NM w' n a :=
  ⟨h.t.ext e, h.d.ext h.dt e rfl, h.dn, h.dt.ext e rfl, h.mi.ext h.mt e rfl, h.mn, h.mt.ext e rfl⟩
theorem OM.ext {k : Nat} {l : List Ou} (h : OM w A k l) (e : Ext tyL w w') : OM w' A k l :=
  ⟨h.o.same e.size fun a ha _ _ hp => cell_of hp (h.t.sameB e rfl a ha), h.n, h.t.ext e rfl⟩
end
theorem st_nm (n : Nod) (a : Adr) : Stab tyL fun u => NM u n a := fun _ _ e h => h.ext e
theorem st_om (A : Option Addr) (k : Nat) (l : List Ou) : Stab tyL fun u => OM u A k l := fun _ _ e h => h.ext e
theorem om_box {u : World} {r : Nat} {x : Ou} (h : BoxO u r 59 (ouC x)) : OM u (some ⟨r, 0, none⟩) 1 [x] := by
  have hc := fun j => BoxO.cell h j
  refine ⟨fun j y hj => ?_, (fun q => by cases q), fun a ha => ?_⟩
  · match j, hj with
    | 0, hj =>
      simp only [List.getElem?_cons_zero, Option.some.injEq] at hj
      subst hj
      exact ⟨_, rfl, h.lt, hc 0, hc 1, hc 2, hc 3, hc 4⟩
  · injection ha with ha
    subst ha
    exact ⟨_, _, h⟩
set_option maxRecDepth 100000
section
variable {w : World} {F : Value → S → World → Prop} {R' : Ending → World → Prop} {K : World → Prop} {t : Tree} {f : FuncId} {args : Array Value}
theorem t_n {bo rows : List Nat} {r : Nod × List Ou} (hc : ∀ u, K u → Calls Tryz.prog f args u (GivesN r u)) (h : ∀ a O k, OK ⟨Tryz.prog, tyL, w, bo, rows⟩ F (t.nv (.tuple #[nodV r.1 a, .slice O r.2.length k])) fun u => K u ∧ (NM u r.1 a ∧ OM u O k r.2 ∧ Fr w O)) (hd : t.hd = .call (.fn f) args.toList := by kernel_rfl) : OK ⟨Tryz.prog, tyL, w, bo, rows⟩ F t K :=
  t_call (fun u hu _ => hc u hu) (fun u e u' hu hb hr => by
    obtain ⟨a, O, k, he, h1, h2, h3, h4⟩ := hr
    exact ⟨_, _, he, h3, (st_nm _ _).and ((st_om _ _ _).and (st_p _)), ⟨h1, h2, fr_up (base_size hb) h4⟩, h a O k⟩) hd
theorem t_y {bo rows : List Nat} {r : Nod × Bool} (hc : ∀ u, K u → Calls Tryz.prog f args u (GivesY r u)) (h : ∀ a, OK ⟨Tryz.prog, tyL, w, bo, rows⟩ F (t.nv (.tuple #[nodV r.1 a, .bool r.2])) fun u => K u ∧ NM u r.1 a) (hd : t.hd = .call (.fn f) args.toList := by kernel_rfl) : OK ⟨Tryz.prog, tyL, w, bo, rows⟩ F t K :=
  t_call (fun u hu _ => hc u hu) (fun u e u' hu hb hr => by
    obtain ⟨a, he, h1, h3⟩ := hr
    exact ⟨_, _, he, h3, st_nm _ _, h1, h a⟩) hd
theorem t_e {bo rows : List Nat} {r : Nod × Int} (hc : ∀ u, K u → Calls Tryz.prog f args u (GivesE r u)) (h : ∀ a, OK ⟨Tryz.prog, tyL, w, bo, rows⟩ F (t.nv (.tuple #[nodV r.1 a, .int .i64 r.2])) fun u => K u ∧ NM u r.1 a) (hd : t.hd = .call (.fn f) args.toList := by kernel_rfl) : OK ⟨Tryz.prog, tyL, w, bo, rows⟩ F t K :=
  t_call (fun u hu _ => hc u hu) (fun u e u' hu hb hr => by
    obtain ⟨a, he, h1, h3⟩ := hr
    exact ⟨_, _, he, h3, st_nm _ _, h1, h a⟩) hd
theorem t_a {bo rows : List Nat} {r : Nod} (hc : ∀ u, K u → Calls Tryz.prog f args u (GivesA r u)) (h : ∀ a, OK ⟨Tryz.prog, tyL, w, bo, rows⟩ F (t.nv (nodV r a)) fun u => K u ∧ NM u r a) (hd : t.hd = .call (.fn f) args.toList := by kernel_rfl) : OK ⟨Tryz.prog, tyL, w, bo, rows⟩ F t K :=
  t_call (fun u hu _ => hc u hu) (fun u e u' hu hb hr => by
    obtain ⟨a, he, h1, h3⟩ := hr
    exact ⟨_, _, he, h3, st_nm _ _, h1, h a⟩) hd
theorem t_o {bo rows : List Nat} (x : Ou) (h : ∀ r, w.heap.size ≤ r → OK ⟨Tryz.prog, tyL, w, bo, rows⟩ F (t.nr r) fun u => K u ∧ BoxO u r 59 (ouC x)) (hd : t.hd = .fresh 59 (ouC x) := by kernel_rfl) : OK ⟨Tryz.prog, tyL, w, bo, rows⟩ F t K := t_fresh _ _ h rfl hd
theorem e_n {r : Nod × List Ou} (a : Adr) (O : Option Addr) (k : Nat) (h : ∀ u, K u → NM u r.1 a ∧ OM u O k r.2 ∧ Fr w O) (hd : t.hd = .ret (.tuple #[nodV r.1 a, .slice O r.2.length k]) := by kernel_rfl) : OK ⟨Tryz.prog, tyL, w, [], []⟩ (fun v _ u => GivesN r w (.returned v) u) t K :=
  t_ret _ (fun u hu hb _ => by
    obtain ⟨h1, h2, h3⟩ := h u hu
    exact ⟨a, O, k, rfl, h1, h2, base_below hb, h3⟩) hd
theorem e_t {r : Nod × List Ou} (hc : ∀ u, K u → Calls Tryz.prog f args u (GivesN r u)) (hd : t.hd = .call (.fn f) args.toList := by kernel_rfl) (hd2 : ∀ a O k, (t.nv (.tuple #[nodV r.1 a, .slice O r.2.length k])).hd = .ret (.tuple #[nodV r.1 a, .slice O r.2.length k]) := by intro a O k; kernel_rfl) : OK ⟨Tryz.prog, tyL, w, [], []⟩ (fun v _ u => GivesN r w (.returned v) u) t K :=
  t_n hc (fun a O k => e_n a O k (fun _ h => h.2) (hd2 a O k)) hd
theorem e_n0 {m : Nod} (a : Adr) (h : ∀ u, K u → NM u m a) (hd : t.hd = .ret (.tuple #[nodV m a, .slice none 0 0]) := by kernel_rfl) : OK ⟨Tryz.prog, tyL, w, [], []⟩ (fun v _ u => GivesN (m, []) w (.returned v) u) t K :=
  e_n a none 0 (fun u hu => ⟨h u hu, om_nil u, fr_nil w⟩) hd
theorem e_n1 {m : Nod} {x : Ou} (a : Adr) (h : ∀ u, K u → NM u m a) (hf : t.hd = .fresh 59 (ouC x) := by kernel_rfl) (hd : ∀ r, (t.nr r).hd = .ret (.tuple #[nodV m a, .slice (some ⟨r, 0, none⟩) 1 1]) := by intro r; kernel_rfl) : OK ⟨Tryz.prog, tyL, w, [], []⟩ (fun v _ u => GivesN (m, [x]) w (.returned v) u) t K :=
  t_o x (fun r hr => e_n (r := (m, [x])) a (some ⟨r, 0, none⟩) 1 (fun u hu => ⟨h u hu.1, om_box hu.2, fr_new hr⟩) (hd r)) hf
theorem e_y {m : Nod} {b : Bool} (a : Adr) (h : ∀ u, K u → NM u m a) (hd : t.hd = .ret (.tuple #[nodV m a, .bool b]) := by kernel_rfl) : OK ⟨Tryz.prog, tyL, w, [], []⟩ (fun v _ u => GivesY (m, b) w (.returned v) u) t K :=
  t_ret _ (fun u hu hb _ => ⟨a, rfl, h u hu, base_below hb⟩) hd
theorem e_e {m : Nod} {b : Int} (a : Adr) (h : ∀ u, K u → NM u m a) (hd : t.hd = .ret (.tuple #[nodV m a, .int .i64 b]) := by kernel_rfl) : OK ⟨Tryz.prog, tyL, w, [], []⟩ (fun v _ u => GivesE (m, b) w (.returned v) u) t K :=
  t_ret _ (fun u hu hb _ => ⟨a, rfl, h u hu, base_below hb⟩) hd
theorem e_a {r : Nod} (a : Adr) (h : ∀ u, K u → NM u r a) (hd : t.hd = .ret (nodV r a) := by kernel_rfl) : OK ⟨Tryz.prog, tyL, w, [], []⟩ (fun v _ u => GivesA r w (.returned v) u) t K :=
  t_ret _ (fun u hu hb _ => ⟨a, rfl, h u hu, base_below hb⟩) hd
end
theorem Rw.ext {w0 w w' : World} {v : Value} {l : List Ou} (h : Rw w0 v l w) (e : Ext tyL w w') : Rw w0 v l w' := by
  refine h.kept fun g hg hlt => ?_
  obtain ⟨_, h2⟩ := h.own
  rcases h2 with ⟨rfl, _⟩ | ⟨g', cap, cur, rfl, hb, hc, _⟩
  · cases hg
  · injection hg with hg
    subst hg
    rcases e.blk _ hlt with q | ⟨T', c1, c2, h1, h3, _⟩
    · exact q
    · unfold BoxO at h3
      rw [hc] at h3
      injection h3 with h3
      injection h3 with _ h3
      subst h3
      cases h1
theorem st_rw (w0 : World) (v : Value) (l : List Ou) : Stab tyL fun u => Rw w0 v l u := fun _ _ e h => h.ext e
theorem rw_box {w0 u : World} {r : Nat} {x : Ou} (hr : w0.heap.size ≤ r) (h : BoxO u r 59 (ouC x)) : Rw w0 (.slice (some ⟨r, 0, none⟩) 1 1) [x] u :=
  ⟨⟨cellsO_length [x], Or.inr ⟨r, 1, _, rfl, hr, h, Nat.le_refl _, by decide, rfl, rfl⟩⟩⟩
section
variable {w : World} {F : Value → S → World → Prop} {K : World → Prop} {t : Tree}
theorem t_aorF {bo rows : List Nat} {wB : World} {v : Value} {A : Option Addr} {k : Nat} {l0 l : List Ou} (hB : wB.heap.size ≤ w.heap.size) (hv : ∀ u, K u → ∀ g, v.ownBlock = some g → w.heap.size ≤ g ∨ g ∈ rows) (Kb : World → Prop) (hs : Stab tyL Kb) (hK : ∀ u, K u → Rw wB v l0 u ∧ OM u A k l) (hKb : ∀ u u', K u → Rw wB v l0 u → u.grownBy u' v.ownBlock → Kb u') (hl : l0.length + l.length ≤ 1000000)
    (h : ∀ v', (∃ A c, v' = .slice A (l0 ++ l).length c) → (v'.ownBlock = v.ownBlock ∨ ∀ g, v'.ownBlock = some g → w.heap.size ≤ g) → OK ⟨Tryz.prog, tyL, w, bo, rows⟩ F (t.nv v') fun u => Kb u ∧ Rw wB v' (l0 ++ l) u) (hd : t.hd = .app (.app #[54, 54] 54) [v, .slice A l.length k] := by kernel_rfl) : OK ⟨Tryz.prog, tyL, w, bo, rows⟩ F t K := by
  refine t_app _ _ (fun u hu hb => ?_) hd
  obtain ⟨hr, ho⟩ := hK u hu
  obtain ⟨i0, hi, hz0, hz1, hz2⟩ := info_parts infoOu
  have hsz : w.heap.size ≤ u.heap.size := base_size hb
  cases A with
  | none =>
    have hl0 : l = [] := by
      cases l with
      | nil => rfl
      | cons y t => obtain ⟨a', ha', _⟩ := ho.o 0 y rfl; cases ha'
    subst hl0
    have hn := ho.n rfl
    subst hn
    have hrun := run_append_owned_none (P := Tryz.prog) (w := u) wB.heap.size 54 54 59 i0 5 Tryz.underlying54 hi v _ _ hr.own
    refine ⟨v, u, _, hrun, ⟨rfl, rfl, rfl, Nat.le_refl _, fun _ _ => .inl rfl⟩, hs.and (st_rw _ _ _), ⟨hKb u u hu hr ⟨rfl, rfl, rfl, Nat.le_refl _, fun _ _ _ => rfl⟩, hr⟩, ?_⟩
    have := h v (by rw [List.append_nil]; obtain ⟨A, c, e, _⟩ := hr.om; exact ⟨A, c, e⟩) (.inl rfl)
    rw [List.append_nil] at this
    exact this
  | some ad =>
    obtain ⟨v', w', hrun, hown', hgrow, _, hat⟩ := run_append_own_at (P := Tryz.prog) u wB.heap.size 54 54 59 i0 (.agg #[.int .i64 0, .int .i64 0, .int .i64 0, .int .i64 0, .string ⟨#[]⟩]) 5 48 Tryz.underlying54 hi hz0 hz1 hz2 rfl (by decide) v _ _ hr.own ad l.length k (cellsO l) (cellsO_length l) (os_cells ho.o)
      (cellsO_one l) (by unfold maxLen; omega) (by omega) (by omega)
    rw [← cellsO_append, ← List.length_append] at hown'
    refine ⟨v', w', _, hrun, ⟨hgrow.os, hgrow.tape, hgrow.output, hgrow.size, fun q hq => ?_⟩, hs.and (st_rw _ _ _), ⟨hKb u w' hu hr hgrow, ⟨hown'⟩⟩, h v' (by obtain ⟨A, c, e, _⟩ := (Rw.mk hown').om; exact ⟨A, c, e⟩) (hat.imp id fun e g hg => by rw [e] at hg; injection hg with hg; omega)⟩
    by_cases e : some q = v.ownBlock
    · obtain ⟨_, h2⟩ := hr.own
      rcases h2 with ⟨rfl, _⟩ | ⟨g', cap, cur, rfl, hb', hc, _⟩
      · cases e
      · injection e with e
        subst e
        exact .inr ⟨hv u hu _ rfl, _, _, _, rfl, hc⟩
    · exact .inl (hgrow.block q hq e)
theorem t_aor {bo rows : List Nat} {wB : World} {v : Value} {A : Option Addr} {k : Nat} {l0 l : List Ou} (hB : wB.heap.size ≤ w.heap.size) (hv : ∀ u, K u → ∀ g, v.ownBlock = some g → w.heap.size ≤ g ∨ g ∈ rows) (Kb : World → Prop) (hs : Stab tyL Kb) (hK : ∀ u, K u → Rw wB v l0 u ∧ OM u A k l) (hKb : ∀ u u', K u → Rw wB v l0 u → u.grownBy u' v.ownBlock → Kb u') (hl : l0.length + l.length ≤ 1000000)
    (h : ∀ v', (v'.ownBlock = v.ownBlock ∨ ∀ g, v'.ownBlock = some g → w.heap.size ≤ g) → OK ⟨Tryz.prog, tyL, w, bo, rows⟩ F (t.nv v') fun u => Kb u ∧ Rw wB v' (l0 ++ l) u) (hd : t.hd = .app (.app #[54, 54] 54) [v, .slice A l.length k] := by kernel_rfl) : OK ⟨Tryz.prog, tyL, w, bo, rows⟩ F t K :=
  t_aorF hB hv Kb hs hK hKb hl (fun v' _ => h v') hd
theorem own_big {v : Value} {l : List Ou} {u : World} (h : Rw w v l u) : ∀ g, v.ownBlock = some g → w.heap.size ≤ g := fun g e => by
  obtain ⟨_, h2⟩ := h.own
  rcases h2 with ⟨rfl, _⟩ | ⟨g', cap, cur, rfl, hb', hc, _⟩
  · cases e
  · injection e with e
    subst e
    exact hb'
theorem t_ao {v : Value} {A : Option Addr} {k : Nat} {l0 l : List Ou} (Kb : World → Prop) (hs : Stab tyL Kb) (hK : ∀ u, K u → Rw w v l0 u ∧ OM u A k l) (hKb : ∀ u u', K u → Rw w v l0 u → u.grownBy u' v.ownBlock → Kb u') (hl : l0.length + l.length ≤ 1000000)
    (h : ∀ v', OK ⟨Tryz.prog, tyL, w, [], []⟩ F (t.nv v') fun u => Kb u ∧ Rw w v' (l0 ++ l) u) (hd : t.hd = .app (.app #[54, 54] 54) [v, .slice A l.length k] := by kernel_rfl) : OK ⟨Tryz.prog, tyL, w, [], []⟩ F t K :=
  t_aor (Nat.le_refl _) (fun u hu g e => .inl (own_big (hK u hu).1 g e)) Kb hs hK hKb hl (fun v' _ => h v') hd
theorem t_push {v : Value} {l0 : List Ou} (x : Ou) (m : Nod) (a : Adr) (hK : ∀ u, K u → NM u m a ∧ Rw w v l0 u) (h : ∀ r v', OK ⟨Tryz.prog, tyL, w, [], []⟩ F ((t.nr r).nv v') fun u => NM u m a ∧ Rw w v' (l0 ++ [x]) u) (hl : l0.length + 1 ≤ 1000000 := by simp) (hf : t.hd = .fresh 59 (ouC x) := by kernel_rfl)
    (hd : ∀ r, (t.nr r).hd = .app (.app #[54, 54] 54) [v, .slice (some ⟨r, 0, none⟩) 1 1] := by intro r; kernel_rfl) : OK ⟨Tryz.prog, tyL, w, [], []⟩ F t K :=
  t_o x (fun r _ => t_ao (A := some ⟨r, 0, none⟩) (k := 1) (l := [x]) (fun u => NM u m a) (st_nm _ _) (fun u hu => ⟨(hK u hu.1).2, om_box hu.2⟩) (fun u _ hu hr hg => hr.nm hg (hK u hu.1).1) hl (h r) (hd r)) hf
theorem e_nr {r : Nod × List Ou} (a : Adr) (v : Value) (h : ∀ u, K u → NM u r.1 a ∧ Rw w v r.2 u) (hd : t.hd = .ret (.tuple #[nodV r.1 a, v]) := by kernel_rfl) : OK ⟨Tryz.prog, tyL, w, [], []⟩ (fun v _ u => GivesN r w (.returned v) u) t K :=
  t_ret _ (fun u hu hb _ => by
    obtain ⟨h1, h2⟩ := h u hu
    obtain ⟨A, c, rfl, h3, h4⟩ := h2.om
    exact ⟨a, A, c, rfl, h1, h3, base_below hb, h4⟩) hd
end
theorem ownsRow.ext {u u' : World} {base size n : Nat} {e : TypeId} {v : Value} {xs : List Value} (h : u.ownsRow base e size v n xs) (x : Ext tyL u u') (he : tyL e = false) : u'.ownsRow base e size v n xs := by
  obtain ⟨h1, h2⟩ := h
  refine ⟨h1, ?_⟩
  rcases h2 with h2 | ⟨g, cap, cur, rfl, hb, hc, r⟩
  · exact .inl h2
  · refine .inr ⟨g, cap, cur, rfl, hb, ?_, r⟩
    rcases x.blk g (Array.getElem?_eq_some_iff.1 hc).1 with q | ⟨T', c1, c2, q1, q2, _⟩
    · exact q.trans hc
    · unfold BoxO at q2
      rw [hc] at q2
      injection q2 with q2
      injection q2 with _ q2
      subst q2
      rw [he] at q1
      cases q1
theorem ownsRow.other {u u' : World} {base size n : Nat} {e e' : TypeId} {v : Value} {xs : List Value} (h : u.ownsRow base e size v n xs) (hne : e ≠ e') (hq : ∀ q, q < u.heap.size → u'.heap[q]? = u.heap[q]? ∨ ∃ cs fz, u.heap[q]? = some (.cells cs e' fz)) : u'.ownsRow base e size v n xs := by
  obtain ⟨h1, h2⟩ := h
  refine ⟨h1, ?_⟩
  rcases h2 with h2 | ⟨g, cap, cur, rfl, hb, hc, r⟩
  · exact .inl h2
  · refine .inr ⟨g, cap, cur, rfl, hb, ?_, r⟩
    rcases hq g (Array.getElem?_eq_some_iff.1 hc).1 with q | ⟨cs, fz, q⟩
    · exact q.trans hc
    · rw [hc] at q
      injection q with q
      injection q with _ q
      exact absurd q hne
theorem t_az {w : World} {F : Value → S → World → Prop} {K : World → Prop} {t : Tree} (ts ty e : TypeId) (size bytes : Nat) (z : Value) (hu : Tryz.prog.underlying ts = some (.slice e)) (hi : (Tryz.prog.info? e).map (fun i => (i.zero, i.size, i.bytes)) = some (some z, size, bytes)) (hzs : z.cells.size = size) (hsz : 0 < size) (he : tyL e = false) (hb0 : bytes ≤ 1000)
    (r : Nat) (A : Option Addr) (k m : Nat) (news : List Value) (hr : ∀ u, K u → BoxO u r e []) (hr0 : w.heap.size ≤ r) (hn : news.length = m * size) (hA : A = none → k = 0 ∧ m = 0) (hc : ∀ u, K u → ∀ a, A = some a → ∀ j x, news[j]? = some x → u.cell? (a.add j) = some x) (h1 : ∀ x ∈ news, x.oneCell' = true) (hm : m ≤ 1000000)
    (h : ∀ A' c, OK ⟨Tryz.prog, tyL, w, [], []⟩ F (t.nv (.slice A' m c)) fun u => K u ∧ u.ownsRow w.heap.size e size (.slice A' m c) m news)
    (hd : t.hd = .call (.app #[ts, ts] ty) [.slice (some ⟨r, 0, none⟩) 0 0, .slice A m k] := by kernel_rfl) : OK ⟨Tryz.prog, tyL, w, [], []⟩ F t K := by
  refine t_appz _ _ (fun u hK hb => ?_) hd
  obtain ⟨i0, hi0, hz0, hz1, hz2⟩ := info_parts hi
  have hsz' : w.heap.size ≤ u.heap.size := (base_below hb).size
  have own0 : u.ownsRow w.heap.size e size (.slice (some ⟨r, 0, none⟩) 0 0) 0 [] := ⟨by simp, .inr ⟨r, 0, #[], rfl, hr0, hr u hK, Nat.le_refl _, by unfold maxLen; omega, by simp, by simp⟩⟩
  have fin : ∀ v' w', (Builtin.append_ #[ts, ts] ty #[.slice (some ⟨r, 0, none⟩) 0 0, .slice A m k]).run Tryz.prog u = .ok v' w' → Below u.heap.size u w' → w'.ownsRow w.heap.size e size v' m news → (∃ A' c, v' = .slice A' m c) →
      ∃ v w' K1, (Builtin.append_ #[ts, ts] ty #[.slice (some ⟨r, 0, none⟩) 0 0, .slice A m k]).run Tryz.prog u = .ok v w' ∧ Below u.heap.size u w' ∧ Stab tyL K1 ∧ K1 w' ∧ OK ⟨Tryz.prog, tyL, w, [], []⟩ F (t.nv v) fun x => K x ∧ K1 x := by
    rintro v' w' hrun hbl hown ⟨A', c, rfl⟩
    exact ⟨_, w', _, hrun, hbl, fun _ _ x q => ownsRow.ext q x he, hown, h A' c⟩
  cases A with
  | none =>
    obtain ⟨rfl, rfl⟩ := hA rfl
    have hnil : news = [] := List.length_eq_zero_iff.1 (by simpa using hn)
    subst hnil
    have hrun := run_append_owned_none (P := Tryz.prog) (w := u) w.heap.size ts ty e i0 size hu hi0 (.slice (some ⟨r, 0, none⟩) 0 0) _ _ own0
    exact fin _ u hrun (Below.refl _ _) own0 ⟨_, _, rfl⟩
  | some ad =>
    obtain ⟨v', w', hrun, hown, _, _, _⟩ := run_append_own_at (P := Tryz.prog) u w.heap.size ts ty e i0 z size bytes hu hi0 hz0 hz1 hz2 hzs hsz (.slice (some ⟨r, 0, none⟩) 0 0) 0 [] own0 ad m k news hn (hc u hK ad rfl) h1 (by unfold maxLen; omega)
      (by rw [Nat.zero_add]; exact Nat.le_trans (Nat.mul_le_mul hm hb0) (by decide)) hsz'
    rw [Nat.zero_add, List.nil_append] at hown
    by_cases h0 : m = 0
    · subst h0
      have hnil : news = [] := List.length_eq_zero_iff.1 (by simpa using hn)
      subst hnil
      have hr2 := run_append_room (P := Tryz.prog) u ts ty e i0 hu hi0 r 0 0 #[] (hr u hK) ad 0 k [] (by simp) (by simp) (by simp) (Nat.le_refl _) (by simp)
      rw [hr2] at hrun
      injection hrun with q1 q2
      subst q1; subst q2
      refine fin _ _ hr2 ⟨rfl, rfl, rfl, by simp, fun j hj => ?_⟩ hown ⟨_, _, rfl⟩
      by_cases ej : j = r
      · subst ej
        rw [setRow_heap u j #[] _ e _ (hr u hK), hr u hK]
        simp
      · exact setRow_other u r j _ ej
    · have hr2 := run_append_grow (P := Tryz.prog) u ts ty e i0 z hu hi0 hz0 ⟨r, 0, none⟩ 0 0 [] (by simp) (by simp) ad m k news (by rw [hz1]; exact hn) (hc u hK ad rfl) (by omega) (by omega) (growslice_fits (by omega) (by rw [hz2, Nat.zero_add]; exact Nat.le_trans (Nat.mul_le_mul hm hb0) (by decide)))
      rw [hr2] at hrun
      injection hrun with q1 q2
      subst q1; subst q2
      rw [Nat.zero_add] at hr2 hown
      exact fin _ _ hr2 ((Below.refl _ u).drew.alloc (Nat.le_refl _) _) hown ⟨_, _, rfl⟩
theorem t_ap {w : World} {F : Value → S → World → Prop} {K : World → Prop} {t : Tree} (ts ty e : TypeId) (size bytes : Nat) (z : Value) (hu : Tryz.prog.underlying ts = some (.slice e)) (hi : (Tryz.prog.info? e).map (fun i => (i.zero, i.size, i.bytes)) = some (some z, size, bytes)) (hzs : z.cells.size = size) (hsz : 0 < size) (he : tyL e = false) (hb0 : bytes ≤ 1000)
    (Kb : World → Prop) (hs : Stab tyL Kb) (A0 : Option Addr) (n0 k0 : Nat) (xs0 : List Value) (ad : Addr) (k m : Nat) (news : List Value) (hK : ∀ u, K u → u.ownsRow w.heap.size e size (.slice A0 n0 k0) n0 xs0 ∧ ∀ j x, news[j]? = some x → u.cell? (ad.add j) = some x) (L : Nat) (hL : L = n0 + m) (hn : news.length = m * size) (h1 : ∀ x ∈ news, x.oneCell' = true) (hm : n0 + m ≤ 1000000)
    (hKb : ∀ u u', K u → Below w.heap.size w u' → (∀ q, q < u.heap.size → u'.heap[q]? = u.heap[q]? ∨ ∃ cs fz, u.heap[q]? = some (.cells cs e fz)) → Kb u')
    (h : ∀ A' c, OK ⟨Tryz.prog, tyL, w, [], []⟩ F (t.nv (.slice A' L c)) fun u => Kb u ∧ u.ownsRow w.heap.size e size (.slice A' L c) L (xs0 ++ news))
    (hd : t.hd = .app (.app #[ts, ts] ty) [.slice A0 n0 k0, .slice (some ad) m k] := by kernel_rfl) : OK ⟨Tryz.prog, tyL, w, [], []⟩ F t K := by
  subst hL
  refine t_app _ _ (fun u hK' hb => ?_) hd
  obtain ⟨i0, hi0, hz0, hz1, hz2⟩ := info_parts hi
  have hsz' : w.heap.size ≤ u.heap.size := (base_below hb).size
  obtain ⟨own0, hc⟩ := hK u hK'
  obtain ⟨v', w', hrun, hown, hgrow, _, _⟩ := run_append_own_at (P := Tryz.prog) u w.heap.size ts ty e i0 z size bytes hu hi0 hz0 hz1 hz2 hzs hsz (.slice A0 n0 k0) n0 xs0 own0 ad m k news hn hc h1 (by unfold maxLen; omega)
    (Nat.le_trans (Nat.mul_le_mul hm hb0) (by decide)) hsz'
  have hgr : Grown ⟨Tryz.prog, tyL, w, [], []⟩ u w' := ⟨hgrow.os, hgrow.tape, hgrow.output, hgrow.size, fun q hq => by
    by_cases ej : some q = (Value.slice A0 n0 k0).ownBlock
    · obtain ⟨_, h2⟩ := own0
      rcases h2 with ⟨q1, _⟩ | ⟨g, cap, cur, q1, hbg, hcg, _⟩
      · rw [q1] at ej; cases ej
      · rw [q1] at ej
        injection ej with ej
        subst ej
        exact .inr ⟨.inl hbg, _, _, _, he, hcg⟩
    · exact .inl (hgrow.block q hq ej)⟩
  have hsl : ∃ A' c, v' = .slice A' (n0 + m) c := by
    obtain ⟨_, ⟨q1, q2⟩ | ⟨g, cap, cur, q1, _⟩⟩ := hown
    · exact ⟨none, 0, by rw [q1, q2]⟩
    · exact ⟨_, cap, q1⟩
  obtain ⟨A', c, rfl⟩ := hsl
  refine ⟨_, w', _, hrun, hgr, hs.and (fun _ _ x q => ownsRow.ext q x he), ⟨hKb u w' hK' (base_below (hgr.base hb)) (fun q hq => ?_), hown⟩, h A' c⟩
  rcases hgr.blk q hq with e1 | ⟨_, cs, T, fz, _, e2⟩
  · exact .inl e1
  · by_cases ej : some q = (Value.slice A0 n0 k0).ownBlock
    · obtain ⟨_, h2⟩ := own0
      rcases h2 with ⟨q1, _⟩ | ⟨g, cap, cur, q1, hbg, hcg, _⟩
      · rw [q1] at ej; cases ej
      · rw [q1] at ej
        injection ej with ej
        subst ej
        exact .inr ⟨_, _, hcg⟩
    · exact .inl (hgrow.block q hq ej)
theorem NM.like {w : World} {n n2 : Nod} {a : Adr} (h : NM w n a) (e1 : n2.t = n.t := by rfl) (e2 : n2.dr = n.dr := by rfl) (e3 : n2.mi = n.mi := by rfl) : NM w n2 a := by
  obtain ⟨h1, h2, h3, h4, h5, h6, h7⟩ := h
  exact ⟨by rw [e1]; exact h1, by rw [e2]; exact h2, by rw [e2]; exact h3, h4, by rw [e3]; exact h5, h6, h7⟩
end Go.Proofs.YtkjikigimmchlaaGreatDoor
