/- Clusters and outputs: a row that came in and grows, beside all that is known. No condition. -/
import Derived.Laws.AppendOwnNone
import Derived.Test.YtabenngcmpjlhaaGreatDoorNF
import Derived.Test.YtabenngcmpjlhaaGreatDoorNX
namespace Go.Proofs.YtabenngcmpjlhaaGreatDoor
open Go.RowKit
theorem flat_at {α : Type} (f : α → List Value) (n : Nat) (hf : ∀ x, (f x).length = n) : ∀ (l : List α) (j : Nat) (x : α) (i : Nat), l[j]? = some x → i < n → (l.flatMap f)[j * n + i]? = (f x)[i]?
  | [], j, x, i, h, _ => by simp at h
  | y :: l, 0, x, i, h, hi => by
    have e : y = x := by simpa using h
    subst e
    rw [List.flatMap_cons, List.getElem?_append_left (by rw [hf]; omega), Nat.zero_mul, Nat.zero_add]
  | y :: l, j + 1, x, i, h, hi => by
    have h2 : l[j]? = some x := by simpa using h
    have e : (j + 1) * n + i = n + (j * n + i) := by rw [Nat.add_mul]; omega
    rw [List.flatMap_cons, e, List.getElem?_append_right (by rw [hf]; omega), hf, Nat.add_sub_cancel_left]
    exact flat_at f n hf l j x i h2 hi
theorem flat_length {α : Type} (f : α → List Value) (n : Nat) (hf : ∀ x, (f x).length = n) (l : List α) : (l.flatMap f).length = l.length * n := by
  induction l with
  | nil => simp
  | cons y l ih => rw [List.flatMap_cons, List.length_append, hf, ih, List.length_cons, Nat.add_mul]; omega
def cellsO (l : List Ou) : List Value := l.flatMap ouC
theorem cellsO_length (l : List Ou) : (cellsO l).length = l.length * 5 := flat_length ouC 5 (fun _ => rfl) l
theorem cellsO_append (l r : List Ou) : cellsO (l ++ r) = cellsO l ++ cellsO r := by unfold cellsO; rw [List.flatMap_append]
theorem cellsO_at (l : List Ou) (j : Nat) (x : Ou) (i : Nat) (h : l[j]? = some x) (hi : i < 5) : (cellsO l)[j * 5 + i]? = (ouC x)[i]? := flat_at ouC 5 (fun _ => rfl) l j x i h hi
theorem cellsO_one (l : List Ou) : ∀ u ∈ cellsO l, u.oneCell' = true := by
  intro u hu
  obtain ⟨x, _, hx⟩ := List.mem_flatMap.1 hu
  exact List.all_eq_true.1 (show (ouC x).all (·.oneCell') = true from rfl) u hx
theorem oadd_more (a : Addr) (m i : Nat) (hi : i ≠ 0) : (⟨(a.add m).block, (a.add m).off + i, none⟩ : Addr) = a.add (m + i) := by
  have e1 : (a.add m).block = a.block := add_block a m
  have e2 : (a.add m).off = a.off + m := by unfold Addr.add; split <;> simp_all
  rw [e1, e2]
  unfold Addr.add
  rw [if_neg (by omega), Nat.add_assoc]
theorem os_cells {w : World} {D : Nat} {a : Addr} {l : List Ou} (h : Os w D (some a) l) : ∀ j u, (cellsO l)[j]? = some u → w.cell? (a.add j) = some u := by
  intro j u hu
  have hj : j / 5 < l.length := by
    have := (List.getElem?_eq_some_iff.1 hu).1
    rw [cellsO_length] at this
    omega
  have hm : j % 5 < 5 := Nat.mod_lt _ (by decide)
  have e : j / 5 * 5 + j % 5 = j := by omega
  obtain ⟨a', ha, _, h0, h1, h2, h3, h4⟩ := h (j / 5) l[j / 5] (List.getElem?_eq_getElem hj)
  injection ha with ha
  subst ha
  have g := cellsO_at l (j / 5) l[j / 5] (j % 5) (List.getElem?_eq_getElem hj) hm
  rw [e, hu] at g
  rw [oadd_more _ _ _ (by decide)] at h1 h2 h3 h4
  generalize hk : j % 5 = k at *
  rw [← e]
  match k, hm with
  | 0, _ => rw [Nat.add_zero, h0, g]; rfl
  | 1, _ => rw [h1, g]; rfl
  | 2, _ => rw [h2, g]; rfl
  | 3, _ => rw [h3, g]; rfl
  | 4, _ => rw [h4, g]; rfl
theorem own_os {w : World} {base : Nat} {v : Value} {l : List Ou} (h : w.ownsRow base 91 5 v l.length (cellsO l)) : ∃ A cap, v = .slice A l.length cap ∧ OM w A cap l := by
  obtain ⟨A, cap, hv, hn, hc⟩ := own_slice h
  refine ⟨A, cap, hv, ⟨fun j x hj => ?_, hn, by rw [hv] at h; exact own_ty h⟩⟩
  have g := fun i (hi : i < 5) => cellsO_at l j x i hj hi
  obtain ⟨a, ha, hlt, h0⟩ := hc _ _ (g 0 (by decide))
  obtain ⟨a1, ha1, _, h1⟩ := hc _ _ (g 1 (by decide))
  obtain ⟨a2, ha2, _, h2⟩ := hc _ _ (g 2 (by decide))
  obtain ⟨a3, ha3, _, h3⟩ := hc _ _ (g 3 (by decide))
  obtain ⟨a4, ha4, _, h4⟩ := hc _ _ (g 4 (by decide))
  rw [ha] at ha1 ha2 ha3 ha4
  injection ha1 with q1; injection ha2 with q2; injection ha3 with q3; injection ha4 with q4
  subst q1; subst q2; subst q3; subst q4
  refine ⟨a, ha, hlt, h0, ?_, ?_, ?_, ?_⟩
  · rw [oadd_more _ _ _ (by decide)]; exact h1
  · rw [oadd_more _ _ _ (by decide)]; exact h2
  · rw [oadd_more _ _ _ (by decide)]; exact h3
  · rw [oadd_more _ _ _ (by decide)]; exact h4
theorem infoOu : (Tryz.prog.info? 91).map (fun i => (i.zero, i.size, i.bytes)) = some (some (.agg #[.int .i64 0, .int .i64 0, .int .i64 0, .int .i64 0, .string ⟨#[]⟩]), 5, 48) := by kernel_rfl
end Go.Proofs.YtabenngcmpjlhaaGreatDoor
namespace Go.Proofs.YtabenngcmpjlhaaGreatDoor
open Go.RowKit
structure Rw (w0 : World) (v : Value) (l : List Ou) (w : World) : Prop where
  own : w.ownsRow w0.heap.size 91 5 v l.length (cellsO l)
section
variable {w0 w w' : World} {v : Value} {l : List Ou}
theorem Rw.kept (h : Rw w0 v l w) (hk : ∀ g, v.ownBlock = some g → g < w.heap.size → w'.heap[g]? = w.heap[g]?) : Rw w0 v l w' := by
  obtain ⟨h0, h2 | ⟨g, cap, cur, rfl, hbg, hh, r⟩⟩ := h.own
  · exact ⟨h0, Or.inl h2⟩
  · exact ⟨h0, Or.inr ⟨g, cap, cur, rfl, hbg, (hk g rfl (Array.getElem?_eq_some_iff.1 hh).1).trans hh, r⟩⟩
theorem Rw.up (h : Rw w0 v l w) (hb : Below w.heap.size w w') : Rw w0 v l w' := h.kept fun g _ hg => hb.block g hg
theorem Rw.ne (h : Rw w0 v l w) {b : Nat} {cs : Array Value} {T : TypeId} {fr : Nat × Nat} (hb : w.heap[b]? = some (.cells cs T fr)) (hT : 91 ≠ T) : some b ≠ v.ownBlock := by
  obtain ⟨h0, ⟨rfl, _⟩ | ⟨g, cap, cur, rfl, hbg, hh, r⟩⟩ := h.own
  · intro e; cases e
  · intro e
    injection e with e
    rw [e] at hb
    rw [hh] at hb
    injection hb with hb
    injection hb with _ hb
    exact hT hb
theorem heap_setCells {b : Nat} : ∀ (cs : List Value) (o : Nat) (w : World) (g : Nat), g ≠ b → (w.setCells b o cs).heap[g]? = w.heap[g]?
  | [], _, _, _, _ => rfl
  | x :: r, o, w, g, h => by
    rw [World.setCells, heap_setCells r (o + 1) _ g h]
    exact heap_setCell_other w _ g x h
theorem Rw.st {b : Nat} {T : TypeId} {vs : List Value} (h : Rw w0 v l w) (hx : BoxT w b T vs) (hT : Apart T) (hs : St w w' b) : Rw w0 v l w' := by
  obtain ⟨o, cs, rfl⟩ := hs
  exact h.kept fun g hg _ => heap_setCells cs o w g fun e => h.ne hx hT.o (by rw [hg, e])
theorem Rw.om (h : Rw w0 v l w) : ∃ A c, v = .slice A l.length c ∧ OM w A c l ∧ Fr w0 A := by
  obtain ⟨A, c, hv, ho⟩ := own_os h.own
  refine ⟨A, c, hv, ho, fun p hp => ?_⟩
  subst hp
  exact (h.own.lt p.block (by rw [hv]; rfl)).1
theorem rw_nil (w0 w : World) : Rw w0 (.slice none 0 0) [] w := ⟨World.ownsRow_nil w _ _ _⟩
theorem Rw.block (h : Rw w0 v l w) (hg : w.grownBy w' v.ownBlock) {b : Nat} {cs : Array Value} {T : TypeId} {fr : Nat × Nat} (hb : w.heap[b]? = some (.cells cs T fr)) (hT : 91 ≠ T) : w'.heap[b]? = w.heap[b]? :=
  hg.block b (Array.getElem?_eq_some_iff.1 hb).1 (h.ne hb hT)
theorem Rw.box {b : Nat} {T : TypeId} {vs : List Value} (h : Rw w0 v l w) (hg : w.grownBy w' v.ownBlock) (hb : BoxT w b T vs) (hT : 91 ≠ T) : BoxT w' b T vs := (h.block hg hb hT).trans hb
theorem Rw.ty {A : Option Addr} {T : TypeId} (h : Rw w0 v l w) (hg : w.grownBy w' v.ownBlock) (ht : Ty w A T) (hT : 91 ≠ T) : Ty w' A T := fun a ha => by
  obtain ⟨cs, fr, hc⟩ := ht a ha
  exact ⟨cs, fr, (h.block hg hc hT).trans hc⟩
theorem Rw.cell {A : Option Addr} {T : TypeId} (h : Rw w0 v l w) (hg : w.grownBy w' v.ownBlock) (ht : Ty w A T) (hT : 91 ≠ T) {a : Addr} (ha : A = some a) {p : Addr} (hp : p.block = a.block) : w'.cell? p = w.cell? p := by
  obtain ⟨cs, fr, hc⟩ := ht a ha
  exact World.cell?_of_block (by rw [hp]; exact h.block hg hc hT)
theorem Rw.es {α : Type} {enc : α → Value} {A : Option Addr} {T : TypeId} {x : List α} (h : Rw w0 v l w) (hg : w.grownBy w' v.ownBlock) (ht : Ty w A T) (hT : 91 ≠ T) (he : Es enc w w.heap.size A x) : Es enc w' w'.heap.size A x := by
  intro j y hj
  obtain ⟨a, ha, hlt, hc⟩ := he j y hj
  exact ⟨a, ha, Nat.lt_of_lt_of_le hlt hg.size, (h.cell hg ht hT ha (add_block ..)).trans hc⟩
theorem Rw.ws {A : Option Addr} {T : TypeId} {x : List Wr} (h : Rw w0 v l w) (hg : w.grownBy w' v.ownBlock) (ht : Ty w A T) (hT : 91 ≠ T) (he : Ws w w.heap.size A x) : Ws w' w'.heap.size A x := by
  intro j y hj
  obtain ⟨a, ha, hlt, hc, hd⟩ := he j y hj
  exact ⟨a, ha, Nat.lt_of_lt_of_le hlt hg.size, (h.cell hg ht hT ha (add_block ..)).trans hc, (h.cell hg ht hT ha (by show (a.add (j * 2)).block = a.block; rw [add_block])).trans hd⟩
theorem Rw.ms {A : Option Addr} {T : TypeId} {x : List Mnt} (h : Rw w0 v l w) (hg : w.grownBy w' v.ownBlock) (ht : Ty w A T) (hT : 91 ≠ T) (he : Ms w w.heap.size A x) : Ms w' w'.heap.size A x := by
  intro j y hj
  obtain ⟨a, ha, hlt, hc, hd, hf⟩ := he j y hj
  exact ⟨a, ha, Nat.lt_of_lt_of_le hlt hg.size, (h.cell hg ht hT ha (add_block ..)).trans hc, (h.cell hg ht hT ha (by show (a.add (j * 3)).block = a.block; rw [add_block])).trans hd, (h.cell hg ht hT ha (by show (a.add (j * 3)).block = a.block; rw [add_block])).trans hf⟩
theorem Rw.mem {A B : Option Addr} {n m : Nat} {s : List ByteArray} {c : List Wr} (h : Rw w0 v l w) (hg : w.grownBy w' v.ownBlock) (hm : Mem w A n B m s c) : Mem w' A n B m s c :=
  ⟨h.es hg hm.ta (by decide) hm.es, h.ws hg hm.tb (by decide) hm.ws, hm.an, hm.bn, h.ty hg hm.ta (by decide), h.ty hg hm.tb (by decide)⟩
theorem Rw.nm {n : Nod} {a : Adr} (h : Rw w0 v l w) (hg : w.grownBy w' v.ownBlock) (hn : NM w n a) : NM w' n a :=
  ⟨h.mem hg hn.t, h.es hg hn.dt (by decide) hn.d, hn.dn, h.ty hg hn.dt (by decide), h.ms hg hn.mt (by decide) hn.mi, hn.mn, h.ty hg hn.mt (by decide)⟩
theorem Rw.all {Bs : List Bk} {Ns : List (Nod × Adr)} {Ds : List Dk} (h : Rw w0 v l w) (hg : w.grownBy w' v.ownBlock) (ha : All w0 Bs Ns Ds [] w) : All w0 Bs Ns Ds [] w' :=
  ⟨ha.below.grown hg ha.below.size (fun k hk => (h.own.lt k hk).1), fun x hx => h.box hg (ha.box x hx) (ha.ap x hx).o, ha.own, ha.ap, ha.ne, fun x hx => h.nm hg (ha.nm x hx), fun x hx => h.mem hg (ha.dm x hx), by simp⟩
end
end Go.Proofs.YtabenngcmpjlhaaGreatDoor
namespace Go.Proofs.YtabenngcmpjlhaaGreatDoor
open Go.RowKit
section
variable {w0 w w' : World} {v : Value} {l : List Ou}
theorem Rw.lk {x : Lnk} {A B : Option Addr} {n m : Nat} (h : Rw w0 v l w) (hg : w.grownBy w' v.ownBlock) (hk : Lk w x A n B m) : Lk w' x A n B m :=
  ⟨h.es hg hk.ta (by decide) hk.ea, h.es hg hk.tb (by decide) hk.eb, hk.na, hk.nb, hk.la, hk.lb, h.ty hg hk.ta (by decide), h.ty hg hk.tb (by decide)⟩
theorem Rw.cm {c : Clu} {x : CAd} (h : Rw w0 v l w) (hg : w.grownBy w' v.ownBlock) (hk : CM w c x) : CM w' c x := ⟨h.nm hg hk.a, h.nm hg hk.b, h.lk hg hk.l⟩
end
structure RE (w0 w : World) (v : Value) (l : List Ou) (u : Value) (k : World) : Prop where
  rw : Rw w0 u l k
  gr : w.grownBy k v.ownBlock
  at' : ∀ j, u.ownBlock = some j → w.heap.size ≤ j ∨ v.ownBlock = some j
section
variable {w0 w k k' : World} {v u u' : Value} {l m : List Ou}
theorem gr_below {row : Option Nat} (h : w.grownBy k row) (hb : Below w.heap.size k k') : w.grownBy k' row := ⟨hb.os.trans h.os, hb.tape.trans h.tape, hb.output.trans h.output, Nat.le_trans h.size hb.size, fun i hi hn => (hb.block i hi).trans (h.block i hi hn)⟩
theorem RE.up (h : RE w0 w v l u k) (hb : Below k.heap.size k k') : RE w0 w v l u k' := ⟨h.rw.up hb, gr_below h.gr (hb.mono h.gr.size), h.at'⟩
theorem RE.st {b : Nat} {T : TypeId} {vs : List Value} (h : RE w0 w v l u k) (hx : BoxT k b T vs) (hT : Apart T) (hs : St k k' b) (hb : w.heap.size ≤ b) : RE w0 w v l u k' := ⟨h.rw.st hx hT hs, gr_below h.gr (below_st (Below.refl _ _) hb hs), h.at'⟩
theorem RE.app (h : RE w0 w v l u k) (hr : Rw w0 u' m k') (hg : k.grownBy k' u.ownBlock) (ha : u'.ownBlock = u.ownBlock ∨ u'.ownBlock = some k.heap.size) : RE w0 w v m u' k' := ⟨hr, h.gr.andThen hg h.at', fun j e => by
  rcases ha with ha | ha
  · rw [ha] at e; exact h.at' j e
  · rw [ha] at e; cases e; exact .inl h.gr.size⟩
end
theorem AC.from {w0 w : World} (h : Below w0.heap.size w0 w) : AC w0 [] [] [] [] w := ⟨⟨h, by simp, by simp, by simp, by simp, by simp, by simp, by simp⟩, by simp⟩
theorem RE.size {w0 w k : World} {v u : Value} {l : List Ou} (h : RE w0 w v l u k) : w.heap.size ≤ k.heap.size := h.gr.size
theorem AC.less {w0 w : World} {Bs Bs2 : List Bk} {Ns : List (Nod × Adr)} {Cs Cs2 : List (Clu × CAd)} {Os : List Ol} (h : AC w0 Bs Ns Cs Os w) (hB : ∀ q ∈ Bs2, q ∈ Bs) (hn : (Bs2.map fun x => x.1).Nodup) (hC : ∀ q ∈ Cs2, q ∈ Cs) : AC w0 Bs2 [] Cs2 [] w :=
  ⟨⟨h.all.below, fun q hq => h.all.box q (hB q hq), fun q hq => h.all.own q (hB q hq), fun q hq => h.all.ap q (hB q hq), hn, by simp, by simp, by simp⟩, fun q hq => h.cm q (hC q hq)⟩
def GivesC (r : Clu × List Ou) (w : World) (e : Ending) (w' : World) : Prop :=
  ∃ x v, e = .returned (.tuple #[cluV r.1 x, v]) ∧ CM w' r.1 x ∧ Rw w v r.2 w' ∧ Below w.heap.size w w'
def GivesR (w0 : World) (v : Value) (r : Clu × List Ou) (w : World) (e : Ending) (w' : World) : Prop :=
  ∃ x u, e = .returned (.tuple #[cluV r.1 x, u]) ∧ CM w' r.1 x ∧ RE w0 w v r.2 u w'
end Go.Proofs.YtabenngcmpjlhaaGreatDoor
