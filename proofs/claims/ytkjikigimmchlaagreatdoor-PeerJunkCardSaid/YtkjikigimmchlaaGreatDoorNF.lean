/- Nodes: what the document's Reply, Down, Keep answer. No other condition but that the lists lie in memory. -/
import Derived.Test.YtkjikigimmchlaaGreatDoorKD
import Derived.Test.YtkjikigimmchlaaGreatDoorNQ
import Derived.Test.YtkjikigimmchlaaGreatDoorRGb
import Derived.Test.YtkjikigimmchlaaGreatDoorPS
import Derived.Deep.CutRange
import Derived.Deep.RegionHeld3
namespace Go.Proofs.YtkjikigimmchlaaGreatDoor
open Go.RowKit
def Ms (w : World) (D : Nat) (A : Option Addr) (l : List Mnt) : Prop :=
  ∀ j x, l[j]? = some x → ∃ a, A = some a ∧ a.block < D ∧ w.cell? (a.add (j * 3)) = some (.int .u64 x.g) ∧ w.cell? ⟨(a.add (j * 3)).block, (a.add (j * 3)).off + 1, none⟩ = some (.int .u64 x.p) ∧
    w.cell? ⟨(a.add (j * 3)).block, (a.add (j * 3)).off + 2, none⟩ = some (.int .i64 x.k)
theorem Ms.below {w w' : World} {D D' : Nat} {A : Option Addr} {l : List Mnt} (h : Ms w D A l) (hb : Below D w w') (hD : D ≤ D') : Ms w' D' A l := by
  intro j x hj
  obtain ⟨a, ha, hlt, hc, hd, he⟩ := h j x hj
  exact ⟨a, ha, by omega, (hb.cell (p := a.add (j * 3)) (by rw [add_block]; exact hlt)).trans hc, (hb.cell (p := ⟨(a.add (j * 3)).block, (a.add (j * 3)).off + 1, none⟩) (by show (a.add (j * 3)).block < D; rw [add_block]; exact hlt)).trans hd,
    (hb.cell (p := ⟨(a.add (j * 3)).block, (a.add (j * 3)).off + 2, none⟩) (by show (a.add (j * 3)).block < D; rw [add_block]; exact hlt)).trans he⟩
theorem Ms.up {w w' : World} {A : Option Addr} {l : List Mnt} (h : Ms w w.heap.size A l) (hb : Below w.heap.size w w') : Ms w' w'.heap.size A l := h.below hb hb.size
end Go.Proofs.YtkjikigimmchlaaGreatDoor
namespace Go.Proofs.YtkjikigimmchlaaGreatDoor
open Go.RowKit
def BoxT (w : World) (b : Nat) (T : TypeId) (vs : List Value) : Prop := w.heap[b]? = some (.cells vs.toArray T (0, 0))
section
variable {w w' : World} {b : Nat} {T : TypeId} {vs : List Value}
theorem BoxT.box (h : BoxT w b T vs) : Box w b vs := ⟨T, h⟩
theorem BoxT.new (w : World) (vs : List Value) (T : TypeId) : BoxT (w.alloc (.cells vs.toArray T)) w.heap.size T vs := heap_alloc_new w _
theorem BoxT.lt (h : BoxT w b T vs) : b < w.heap.size := h.box.lt
theorem BoxT.below (h : BoxT w b T vs) (hb : Below w.heap.size w w') : BoxT w' b T vs := (hb.block b h.lt).trans h
theorem BoxT.alloc (h : BoxT w b T vs) (o : Obj) : BoxT (w.alloc o) b T vs := h.below below1
theorem BoxT.cell (h : BoxT w b T vs) (j : Nat) : w.cell? ⟨b, j, none⟩ = vs[j]? := h.box.cell j
theorem BoxT.frozen (h : BoxT w b T vs) (j : Nat) : w.frozen? ⟨b, j, none⟩ = false := h.box.frozen j
theorem BoxT.set (h : BoxT w b T vs) (j : Nat) (v : Value) : BoxT (w.setCell ⟨b, j, none⟩ v) b T (vs.set j v) := by
  unfold BoxT at *
  rw [heap_setCell_same w b j _ T v h]
  simp
theorem BoxT.other (h : BoxT w b T vs) {p : Addr} (hp : b ≠ p.block) (v : Value) : BoxT (w.setCell p v) b T vs := (heap_setCell_other w p b v hp).trans h
theorem BoxT.setCells : ∀ (cs vs : List Value) (o : Nat) (w : World), BoxT w b T vs → BoxT (w.setCells b o cs) b T (over vs o cs)
  | [], _, _, _, h => h
  | v :: r, vs, o, w, h => by
    rw [World.setCells]
    exact BoxT.setCells r (vs.set o v) (o + 1) _ (h.set o v)
theorem BoxT.setCellsO {c : Nat} (hn : b ≠ c) : ∀ (cs : List Value) (o : Nat) (w : World), BoxT w b T vs → BoxT (w.setCells c o cs) b T vs
  | [], _, _, h => h
  | v :: r, o, w, h => by
    rw [World.setCells]
    exact BoxT.setCellsO hn r (o + 1) _ (h.other (p := ⟨c, o, none⟩) hn v)
theorem Below.setCells {D : Nat} {w0 : World} (hb : D ≤ b) : ∀ (cs : List Value) (o : Nat) (w : World), Below D w0 w → Below D w0 (w.setCells b o cs)
  | [], _, _, h => h
  | v :: r, o, w, h => by
    rw [World.setCells]
    exact Below.setCells hb r (o + 1) _ (h.setCell (p := ⟨b, o, none⟩) hb v)
theorem Ty.setCells {A : Option Addr} {T' : TypeId} : ∀ (cs : List Value) (o : Nat) (w : World), Ty w A T' → Ty (w.setCells b o cs) A T'
  | [], _, _, h => h
  | v :: r, o, w, h => by
    rw [World.setCells]
    exact Ty.setCells r (o + 1) _ (h.set _ _)
theorem size_setCells (b : Nat) : ∀ (cs : List Value) (o : Nat) (w : World), (w.setCells b o cs).heap.size = w.heap.size
  | [], _, _ => rfl
  | v :: r, o, w => by
    rw [World.setCells, size_setCells b r]
    simp
theorem cell_setCells {p : Addr} (hp : p.block ≠ b) (cs : List Value) (o : Nat) (w : World) : (w.setCells b o cs).cell? p = w.cell? p := World.cell?_setCells_out b cs o w p fun h _ => absurd h hp
end
section
variable {w : World} {b : Nat} {T : TypeId} {vs : List Value} {A : Option Addr}
theorem Es.setCells {α : Type} {enc : α → Value} {l : List α} (h : Es enc w w.heap.size A l) (ht : ∀ a, A = some a → a.block ≠ b) (o : Nat) (cs : List Value) : Es enc (w.setCells b o cs) (w.setCells b o cs).heap.size A l := by
  intro j x hj
  obtain ⟨a, ha, hlt, hc⟩ := h j x hj
  refine ⟨a, ha, by rw [size_setCells]; exact hlt, ?_⟩
  rw [cell_setCells (by rw [add_block]; exact ht a ha)]
  exact hc
theorem Ws.setCells {l : List Wr} (h : Ws w w.heap.size A l) (ht : ∀ a, A = some a → a.block ≠ b) (o : Nat) (cs : List Value) : Ws (w.setCells b o cs) (w.setCells b o cs).heap.size A l := by
  intro j x hj
  obtain ⟨a, ha, hlt, hc, hd⟩ := h j x hj
  refine ⟨a, ha, by rw [size_setCells]; exact hlt, ?_, ?_⟩
  · rw [cell_setCells (by rw [add_block]; exact ht a ha)]
    exact hc
  · rw [cell_setCells (by show (a.add (j * 2)).block ≠ b; rw [add_block]; exact ht a ha)]
    exact hd
theorem Ms.setCells {l : List Mnt} (h : Ms w w.heap.size A l) (ht : ∀ a, A = some a → a.block ≠ b) (o : Nat) (cs : List Value) : Ms (w.setCells b o cs) (w.setCells b o cs).heap.size A l := by
  intro j x hj
  obtain ⟨a, ha, hlt, hc, hd, he⟩ := h j x hj
  refine ⟨a, ha, by rw [size_setCells]; exact hlt, ?_, ?_, ?_⟩
  · rw [cell_setCells (by rw [add_block]; exact ht a ha)]
    exact hc
  · rw [cell_setCells (by show (a.add (j * 3)).block ≠ b; rw [add_block]; exact ht a ha)]
    exact hd
  · rw [cell_setCells (by show (a.add (j * 3)).block ≠ b; rw [add_block]; exact ht a ha)]
    exact he
theorem Mem.setCells {B : Option Addr} {n m : Nat} {s : List ByteArray} {c : List Wr} (h : Mem w A n B m s c) (hx : BoxT w b T vs) (h1 : 9 ≠ T) (h2 : 151 ≠ T) (o : Nat) (cs : List Value) : Mem (w.setCells b o cs) A n B m s c :=
  ⟨h.es.setCells (fun _ ha => h.ta.ne ha hx h1) o cs, h.ws.setCells (fun _ ha => h.tb.ne ha hx h2) o cs, h.an, h.bn, Ty.setCells _ _ _ h.ta, Ty.setCells _ _ _ h.tb⟩
end
structure Adr where
  A : Option Addr
  k : Nat
  B : Option Addr
  m : Nat
  D : Option Addr
  p : Nat
  M : Option Addr
  q : Nat
def Adr.zero : Adr := ⟨none, 0, none, 0, none, 0, none, 0⟩
def nodC (n : Nod) (a : Adr) : List Value :=
  [.int .i64 n.id, .bool n.up, .slice a.A n.t.s.length a.k, .slice a.B n.t.c.length a.m, .int .i64 n.t.f, .bool n.t.x, .int .i64 n.t.b.n, .int .u64 n.t.b.c, .int .u64 n.t.b.b, .int .u64 n.t.b.o, .int .u64 n.t.b.p, .bool n.t.b.i, .bool n.t.b.r, .bool n.t.b.d, .int .u32 (n.t.m : Nat),
    .bool n.pri, .int .i64 n.st, .int .u64 n.ses, .int .i64 n.peer.n, .int .u64 n.peer.c, .int .u64 n.peer.b, .int .u64 n.peer.o, .int .u64 n.peer.p, .bool n.peer.i, .bool n.peer.r, .bool n.peer.d, .bool n.peer.q, .int .u32 (n.peer.m : Nat),
    .bool n.ppri, .bool n.rq.on, .int .i64 n.rq.id, .int .i64 n.rq.i, .string n.rq.d, .bool n.ask, .int .i64 n.askId, .int .i64 n.want, .bool n.mint, .slice a.D n.dr.length a.p, .slice a.M n.mi.length a.q]
@[reducible] def nodV (n : Nod) (a : Adr) : Value := .agg (nodC n a).toArray
structure NM (w : World) (n : Nod) (a : Adr) : Prop where
  t : Mem w a.A a.k a.B a.m n.t.s n.t.c
  d : Es (Value.int .u64) w w.heap.size a.D n.dr
  dn : (a.D = none → a.p = 0) ∧ n.dr.length ≤ a.p
  dt : Ty w a.D 31
  mi : Ms w w.heap.size a.M n.mi
  mn : a.M = none → a.q = 0
  mt : Ty w a.M 112
theorem NM.up {w w' : World} {n : Nod} {a : Adr} (h : NM w n a) (hb : Below w.heap.size w w') : NM w' n a := ⟨h.t.up hb, h.d.up hb, h.dn, h.dt.up hb, h.mi.up hb, h.mn, h.mt.up hb⟩
structure Apart (T : TypeId) : Prop where
  s : 9 ≠ T
  c : 151 ≠ T
  d : 31 ≠ T
  m : 112 ≠ T
  o : 59 ≠ T
theorem NM.setCells {w : World} {n : Nod} {a : Adr} {b : Nat} {T : TypeId} {vs : List Value} (h : NM w n a) (hx : BoxT w b T vs) (hT : Apart T) (o : Nat) (cs : List Value) : NM (w.setCells b o cs) n a :=
  ⟨h.t.setCells hx hT.s hT.c o cs, h.d.setCells (fun _ ha => h.dt.ne ha hx hT.d) o cs, h.dn, Ty.setCells _ _ _ h.dt, h.mi.setCells (fun _ ha => h.mt.ne ha hx hT.m) o cs, h.mn, Ty.setCells _ _ _ h.mt⟩
def Os (w : World) (D : Nat) (A : Option Addr) (l : List Ou) : Prop :=
  ∀ j x, l[j]? = some x → ∃ a, A = some a ∧ a.block < D ∧ w.cell? (a.add (j * 5)) = some (.int .i64 x.k) ∧ w.cell? ⟨(a.add (j * 5)).block, (a.add (j * 5)).off + 1, none⟩ = some (.int .i64 x.n) ∧
    w.cell? ⟨(a.add (j * 5)).block, (a.add (j * 5)).off + 2, none⟩ = some (.int .i64 x.id) ∧ w.cell? ⟨(a.add (j * 5)).block, (a.add (j * 5)).off + 3, none⟩ = some (.int .i64 x.e) ∧ w.cell? ⟨(a.add (j * 5)).block, (a.add (j * 5)).off + 4, none⟩ = some (.string x.d)
theorem os_nil (w : World) (D : Nat) (A : Option Addr) : Os w D A [] := by intro j x h; simp at h
theorem Os.same {w w' : World} {D D' : Nat} {A : Option Addr} {l : List Ou} (h : Os w D A l) (hD : D ≤ D') (hc : ∀ a, A = some a → a.block < D → ∀ p : Addr, p.block = a.block → w'.cell? p = w.cell? p) : Os w' D' A l := by
  intro j x hj
  obtain ⟨a, ha, hlt, h0, h1, h2, h3, h4⟩ := h j x hj
  have e := hc a ha hlt
  exact ⟨a, ha, by omega, (e _ (add_block ..)).trans h0, (e ⟨(a.add (j * 5)).block, (a.add (j * 5)).off + 1, none⟩ (add_block ..)).trans h1, (e ⟨(a.add (j * 5)).block, (a.add (j * 5)).off + 2, none⟩ (add_block ..)).trans h2, (e ⟨(a.add (j * 5)).block, (a.add (j * 5)).off + 3, none⟩ (add_block ..)).trans h3, (e ⟨(a.add (j * 5)).block, (a.add (j * 5)).off + 4, none⟩ (add_block ..)).trans h4⟩
theorem Os.up {w w' : World} {A : Option Addr} {l : List Ou} (h : Os w w.heap.size A l) (hb : Below w.heap.size w w') : Os w' w'.heap.size A l := h.same hb.size fun a _ hlt p hp => hb.cell (by rw [hp]; exact hlt)
theorem Os.setCells {w : World} {b : Nat} {A : Option Addr} {l : List Ou} (h : Os w w.heap.size A l) (ht : ∀ a, A = some a → a.block ≠ b) (o : Nat) (cs : List Value) : Os (w.setCells b o cs) (w.setCells b o cs).heap.size A l :=
  h.same (by rw [size_setCells]; exact Nat.le_refl _) fun a ha _ p hp => cell_setCells (by rw [hp]; exact ht a ha) _ _ _
structure OM (w : World) (A : Option Addr) (c : Nat) (l : List Ou) : Prop where
  o : Os w w.heap.size A l
  n : A = none → c = 0
  t : Ty w A 59
theorem OM.up {w w' : World} {A : Option Addr} {c : Nat} {l : List Ou} (h : OM w A c l) (hb : Below w.heap.size w w') : OM w' A c l := ⟨h.o.up hb, h.n, h.t.up hb⟩
theorem OM.setCells {w : World} {A : Option Addr} {c b : Nat} {l : List Ou} {T : TypeId} {vs : List Value} (h : OM w A c l) (hx : BoxT w b T vs) (hT : Apart T) (o : Nat) (cs : List Value) : OM (w.setCells b o cs) A c l :=
  ⟨h.o.setCells (fun _ ha => h.t.ne ha hx hT.o) o cs, h.n, Ty.setCells _ _ _ h.t⟩
theorem om_nil (w : World) : OM w none 0 [] := ⟨os_nil _ _ _, fun _ => rfl, ty_none _ _⟩
@[reducible] def ouC (x : Ou) : List Value := [.int .i64 x.k, .int .i64 x.n, .int .i64 x.id, .int .i64 x.e, .string x.d]
@[reducible] def ouV (x : Ou) : Value := .agg #[.int .i64 x.k, .int .i64 x.n, .int .i64 x.id, .int .i64 x.e, .string x.d]
def Fr (w : World) (O : Option Addr) : Prop := ∀ p, O = some p → w.heap.size ≤ p.block
theorem fr_nil (w : World) : Fr w none := fun _ h => by cases h
theorem fr_new {w : World} {m : Nat} (h : w.heap.size ≤ m) : Fr w (some ⟨m, 0, none⟩) := fun p e => by
  injection e with e
  subst e
  exact h
theorem fr_up {w v : World} {O : Option Addr} (h : w.heap.size ≤ v.heap.size) (hf : Fr v O) : Fr w O := fun p e => Nat.le_trans h (hf p e)
def GivesN (r : Nod × List Ou) (w : World) (e : Ending) (w' : World) : Prop :=
  ∃ a O c, e = .returned (.tuple #[nodV r.1 a, .slice O r.2.length c]) ∧ NM w' r.1 a ∧ OM w' O c r.2 ∧ Below w.heap.size w w' ∧ Fr w O
def GivesY (r : Nod × Bool) (w : World) (e : Ending) (w' : World) : Prop :=
  ∃ a, e = .returned (.tuple #[nodV r.1 a, .bool r.2]) ∧ NM w' r.1 a ∧ Below w.heap.size w w'
def GivesE (r : Nod × Int) (w : World) (e : Ending) (w' : World) : Prop :=
  ∃ a, e = .returned (.tuple #[nodV r.1 a, .int .i64 r.2]) ∧ NM w' r.1 a ∧ Below w.heap.size w w'
def GivesA (r : Nod) (w : World) (e : Ending) (w' : World) : Prop :=
  ∃ a, e = .returned (nodV r a) ∧ NM w' r a ∧ Below w.heap.size w w'
end Go.Proofs.YtkjikigimmchlaaGreatDoor
namespace Go.Proofs.YtkjikigimmchlaaGreatDoor
open Go.RowKit
section
variable (n : Nod) (a : Adr)
@[go_sem] theorem nodC_0 : (nodC n a)[0]? = some (.int .i64 n.id) := rfl
@[go_sem] theorem nodC_1 : (nodC n a)[1]? = some (.bool n.up) := rfl
@[go_sem] theorem nodC_2 : (nodC n a)[2]? = some (.slice a.A n.t.s.length a.k) := rfl
@[go_sem] theorem nodC_3 : (nodC n a)[3]? = some (.slice a.B n.t.c.length a.m) := rfl
@[go_sem] theorem nodC_4 : (nodC n a)[4]? = some (.int .i64 n.t.f) := rfl
@[go_sem] theorem nodC_5 : (nodC n a)[5]? = some (.bool n.t.x) := rfl
@[go_sem] theorem nodC_6 : (nodC n a)[6]? = some (.int .i64 n.t.b.n) := rfl
@[go_sem] theorem nodC_7 : (nodC n a)[7]? = some (.int .u64 n.t.b.c) := rfl
@[go_sem] theorem nodC_8 : (nodC n a)[8]? = some (.int .u64 n.t.b.b) := rfl
@[go_sem] theorem nodC_9 : (nodC n a)[9]? = some (.int .u64 n.t.b.o) := rfl
@[go_sem] theorem nodC_10 : (nodC n a)[10]? = some (.int .u64 n.t.b.p) := rfl
@[go_sem] theorem nodC_11 : (nodC n a)[11]? = some (.bool n.t.b.i) := rfl
@[go_sem] theorem nodC_12 : (nodC n a)[12]? = some (.bool n.t.b.r) := rfl
@[go_sem] theorem nodC_13 : (nodC n a)[13]? = some (.bool n.t.b.d) := rfl
@[go_sem] theorem nodC_14 : (nodC n a)[14]? = some (.int .u32 (n.t.m : Nat)) := rfl
@[go_sem] theorem nodC_15 : (nodC n a)[15]? = some (.bool n.pri) := rfl
@[go_sem] theorem nodC_16 : (nodC n a)[16]? = some (.int .i64 n.st) := rfl
@[go_sem] theorem nodC_17 : (nodC n a)[17]? = some (.int .u64 n.ses) := rfl
@[go_sem] theorem nodC_18 : (nodC n a)[18]? = some (.int .i64 n.peer.n) := rfl
@[go_sem] theorem nodC_19 : (nodC n a)[19]? = some (.int .u64 n.peer.c) := rfl
@[go_sem] theorem nodC_20 : (nodC n a)[20]? = some (.int .u64 n.peer.b) := rfl
@[go_sem] theorem nodC_21 : (nodC n a)[21]? = some (.int .u64 n.peer.o) := rfl
@[go_sem] theorem nodC_22 : (nodC n a)[22]? = some (.int .u64 n.peer.p) := rfl
@[go_sem] theorem nodC_23 : (nodC n a)[23]? = some (.bool n.peer.i) := rfl
@[go_sem] theorem nodC_24 : (nodC n a)[24]? = some (.bool n.peer.r) := rfl
@[go_sem] theorem nodC_25 : (nodC n a)[25]? = some (.bool n.peer.d) := rfl
@[go_sem] theorem nodC_26 : (nodC n a)[26]? = some (.bool n.peer.q) := rfl
@[go_sem] theorem nodC_27 : (nodC n a)[27]? = some (.int .u32 (n.peer.m : Nat)) := rfl
@[go_sem] theorem nodC_28 : (nodC n a)[28]? = some (.bool n.ppri) := rfl
@[go_sem] theorem nodC_29 : (nodC n a)[29]? = some (.bool n.rq.on) := rfl
@[go_sem] theorem nodC_30 : (nodC n a)[30]? = some (.int .i64 n.rq.id) := rfl
@[go_sem] theorem nodC_31 : (nodC n a)[31]? = some (.int .i64 n.rq.i) := rfl
@[go_sem] theorem nodC_32 : (nodC n a)[32]? = some (.string n.rq.d) := rfl
@[go_sem] theorem nodC_33 : (nodC n a)[33]? = some (.bool n.ask) := rfl
@[go_sem] theorem nodC_34 : (nodC n a)[34]? = some (.int .i64 n.askId) := rfl
@[go_sem] theorem nodC_35 : (nodC n a)[35]? = some (.int .i64 n.want) := rfl
@[go_sem] theorem nodC_36 : (nodC n a)[36]? = some (.bool n.mint) := rfl
@[go_sem] theorem nodC_37 : (nodC n a)[37]? = some (.slice a.D n.dr.length a.p) := rfl
@[go_sem] theorem nodC_38 : (nodC n a)[38]? = some (.slice a.M n.mi.length a.q) := rfl
end
end Go.Proofs.YtkjikigimmchlaaGreatDoor
namespace Go.Proofs.YtkjikigimmchlaaGreatDoor
open Go.RowKit
def Nod.zero : Nod := Nod.fresh 0 false ⟨[], [], 0, false, Sup.zero, 0⟩ [] []
theorem infoNz : (Tryz.prog.info? 47).map (·.zero) = some (some (.agg (nodC Nod.zero Adr.zero).toArray)) := by kernel_rfl
@[simp high] theorem nzero (w : World) : (zeroValue 47).run Tryz.prog w = .ok (.agg (nodC Nod.zero Adr.zero).toArray) w := by
  have h := infoNz
  cases hq : Tryz.prog.info? 47 with
  | none => rw [hq] at h; cases h
  | some i =>
    rw [hq] at h
    have h2 : i.zero = some (.agg (nodC Nod.zero Adr.zero).toArray) := by simpa using h
    simp [zeroValue, typeInfo, hq, h2]
def Nod.withT (n : Nod) (t : Sto) : Nod := { n with t := t }
def Adr.withT (a : Adr) (A : Option Addr) (k : Nat) (B : Option Addr) (m : Nat) : Adr := { a with A := A, k := k, B := B, m := m }
@[simp] theorem nodC_size (n : Nod) (a : Adr) : (nodC n a).length = 39 := rfl
@[simp] theorem nodC_ne (n : Nod) (a : Adr) : (nodC n a = []) = False := by simp [nodC]
section
variable {w w' w0 : World} {b c D : Nat} {n : Nod} {a : Adr} {T : TypeId} {vs : List Value}
def St (w w' : World) (b : Nat) : Prop := ∃ o cs, w' = w.setCells b o cs
theorem NM.st (h : NM w n a) (hx : BoxT w b T vs) (hT : Apart T) (hs : St w w' b) : NM w' n a := by
  obtain ⟨o, cs, rfl⟩ := hs
  exact h.setCells hx hT o cs
theorem Mem.st {A B : Option Addr} {k m : Nat} {s : List ByteArray} {l : List Wr} (h : Mem w A k B m s l) (hx : BoxT w b T vs) (hT : Apart T) (hs : St w w' b) : Mem w' A k B m s l := by
  obtain ⟨o, cs, rfl⟩ := hs
  exact h.setCells hx hT.s hT.c o cs
theorem OM.st {A : Option Addr} {k : Nat} {l : List Ou} (h : OM w A k l) (hx : BoxT w b T vs) (hT : Apart T) (hs : St w w' b) : OM w' A k l := by
  obtain ⟨o, cs, rfl⟩ := hs
  exact h.setCells hx hT o cs
theorem BoxT.st (h : BoxT w b T vs) (hn : b ≠ c) (hs : St w w' c) : BoxT w' b T vs := by
  obtain ⟨o, cs, rfl⟩ := hs
  exact BoxT.setCellsO hn cs o w h
theorem below_st (h : Below D w0 w) (hb : D ≤ b) (hs : St w w' b) : Below D w0 w' := by
  obtain ⟨o, cs, rfl⟩ := hs
  exact Below.setCells hb cs o w h
theorem NM.down (h : NM w n a) : NM w n.down a := ⟨h.t, h.d, h.dn, h.dt, h.mi, h.mn, h.mt⟩
theorem NM.withT (h : NM w n a) {t : Sto} {A B : Option Addr} {k m : Nat} (ht : Mem w A k B m t.s t.c) : NM w (n.withT t) (a.withT A k B m) := ⟨ht, h.d, h.dn, h.dt, h.mi, h.mn, h.mt⟩
end
structure Kn (w0 : World) (L : List (Nat × TypeId × List Value)) (w : World) : Prop where
  below : Below w0.heap.size w0 w
  box : ∀ x ∈ L, BoxT w x.1 x.2.1 x.2.2
section
variable {w0 w w' : World} {L : List (Nat × TypeId × List Value)} {x y z : Nat × TypeId × List Value} {c : Nat}
theorem Kn.up (h : Kn w0 L w) (hb : Below w.heap.size w w') : Kn w0 L w' := ⟨ext h.below hb, fun x hx => (h.box x hx).below hb⟩
theorem Kn.alloc (h : Kn w0 L w) (o : Obj) : Kn w0 L (w.alloc o) := h.up below1
theorem Kn.drew (h : Kn w0 L w) : Kn w0 L w.drew := h.up (Below.refl _ _).drew
theorem Kn.st (h : Kn w0 L w) (hc : ∀ x ∈ L, x.1 ≠ c) (hD : w0.heap.size ≤ c) (hs : St w w' c) : Kn w0 L w' := ⟨below_st h.below hD hs, fun x hx => (h.box x hx).st (hc x hx) hs⟩
theorem Kn.b0 (h : Kn w0 (x :: L) w) : BoxT w x.1 x.2.1 x.2.2 := h.box x (by simp)
theorem Kn.b1 (h : Kn w0 (x :: y :: L) w) : BoxT w y.1 y.2.1 y.2.2 := h.box y (by simp)
theorem Kn.b2 (h : Kn w0 (x :: y :: z :: L) w) : BoxT w z.1 z.2.1 z.2.2 := h.box z (by simp)
theorem Kn.one {w v : World} {b : Nat} {T : TypeId} {vs : List Value} (hb : Below w.heap.size w v) (hx : BoxT v b T vs) : Kn w [(b, T, vs)] v := ⟨hb, fun x h => by rw [List.mem_singleton] at h; subst h; exact hx⟩
end
end Go.Proofs.YtkjikigimmchlaaGreatDoor
namespace Go.Proofs.YtkjikigimmchlaaGreatDoor
open Go.RowKit
structure Dk where
  s : List ByteArray
  c : List Wr
  A : Option Addr
  k : Nat
  B : Option Addr
  m : Nat
structure Ol where
  l : List Ou
  A : Option Addr
  k : Nat
abbrev Bk := Nat × TypeId × List Value
structure All (w0 : World) (Bs : List Bk) (Ns : List (Nod × Adr)) (Ds : List Dk) (Os : List Ol) (w : World) : Prop where
  below : Below w0.heap.size w0 w
  box : ∀ x ∈ Bs, BoxT w x.1 x.2.1 x.2.2
  own : ∀ x ∈ Bs, w0.heap.size ≤ x.1
  ap : ∀ x ∈ Bs, Apart x.2.1
  ne : (Bs.map fun x => x.1).Nodup
  nm : ∀ x ∈ Ns, NM w x.1 x.2
  dm : ∀ x ∈ Ds, Mem w x.A x.k x.B x.m x.s x.c
  om : ∀ x ∈ Os, OM w x.A x.k x.l
section
variable {w0 w w' : World} {Bs : List Bk} {Ns : List (Nod × Adr)} {Ds : List Dk} {Os : List Ol} {x y z u : Bk}
theorem All.up (h : All w0 Bs Ns Ds Os w) (hb : Below w.heap.size w w') : All w0 Bs Ns Ds Os w' :=
  ⟨ext h.below hb, fun x hx => (h.box x hx).below hb, h.own, h.ap, h.ne, fun x hx => (h.nm x hx).up hb, fun x hx => (h.dm x hx).up hb, fun x hx => (h.om x hx).up hb⟩
theorem All.alloc (h : All w0 Bs Ns Ds Os w) (o : Obj) : All w0 Bs Ns Ds Os (w.alloc o) := h.up below1
theorem All.drew (h : All w0 Bs Ns Ds Os w) : All w0 Bs Ns Ds Os w.drew := h.up (Below.refl _ _).drew
theorem All.lay (h : All w0 Bs Ns Ds Os w) (vs : List Value) {T : TypeId} (hT : Apart T) : All w0 ((w.heap.size, T, vs) :: Bs) Ns Ds Os (w.alloc (.cells vs.toArray T)) := by
  have g := h.alloc (.cells vs.toArray T)
  refine ⟨g.below, ?_, ?_, ?_, ?_, g.nm, g.dm, g.om⟩
  · intro q hq
    rcases List.mem_cons.1 hq with rfl | hq
    · exact BoxT.new w vs T
    · exact g.box q hq
  · intro q hq
    rcases List.mem_cons.1 hq with rfl | hq
    · exact h.below.size
    · exact h.own q hq
  · intro q hq
    rcases List.mem_cons.1 hq with rfl | hq
    · exact hT
    · exact h.ap q hq
  · rw [List.map_cons, List.nodup_cons]
    refine ⟨fun hm => ?_, h.ne⟩
    obtain ⟨q, hq, e⟩ := List.mem_map.1 hm
    have := (h.box q hq).lt
    omega
theorem All.b0 (h : All w0 (x :: Bs) Ns Ds Os w) : BoxT w x.1 x.2.1 x.2.2 := h.box x (by simp)
theorem All.b1 (h : All w0 (x :: y :: Bs) Ns Ds Os w) : BoxT w y.1 y.2.1 y.2.2 := h.box y (by simp)
theorem All.b2 (h : All w0 (x :: y :: z :: Bs) Ns Ds Os w) : BoxT w z.1 z.2.1 z.2.2 := h.box z (by simp)
theorem All.b3 (h : All w0 (x :: y :: z :: u :: Bs) Ns Ds Os w) : BoxT w u.1 u.2.1 u.2.2 := h.box u (by simp)
theorem All.n0 {p : Nod × Adr} (h : All w0 Bs (p :: Ns) Ds Os w) : NM w p.1 p.2 := h.nm p (by simp)
theorem All.n1 {p q : Nod × Adr} (h : All w0 Bs (p :: q :: Ns) Ds Os w) : NM w q.1 q.2 := h.nm q (by simp)
theorem All.n2 {p q r : Nod × Adr} (h : All w0 Bs (p :: q :: r :: Ns) Ds Os w) : NM w r.1 r.2 := h.nm r (by simp)
theorem All.d0 {p : Dk} (h : All w0 Bs Ns (p :: Ds) Os w) : Mem w p.A p.k p.B p.m p.s p.c := h.dm p (by simp)
theorem All.d1 {p q : Dk} (h : All w0 Bs Ns (p :: q :: Ds) Os w) : Mem w q.A q.k q.B q.m q.s q.c := h.dm q (by simp)
theorem All.o0 {p : Ol} (h : All w0 Bs Ns Ds (p :: Os) w) : OM w p.A p.k p.l := h.om p (by simp)
theorem All.o1 {p q : Ol} (h : All w0 Bs Ns Ds (p :: q :: Os) w) : OM w q.A q.k q.l := h.om q (by simp)
theorem All.stAt (h : All w0 Bs Ns Ds Os w) {i : Nat} (hi : Bs[i]? = some x) {vs : List Value} (hs : St w w' x.1) (hn : BoxT w' x.1 x.2.1 vs) : All w0 (Bs.set i (x.1, x.2.1, vs)) Ns Ds Os w' := by
  have hx : x ∈ Bs := List.mem_of_getElem? hi
  have hb := h.box x hx
  have hT := h.ap x hx
  obtain ⟨hlt, hxi⟩ := List.getElem?_eq_some_iff.1 hi
  refine ⟨below_st h.below (h.own x hx) hs, ?_, ?_, ?_, ?_, fun q hq => (h.nm q hq).st hb hT hs, fun q hq => (h.dm q hq).st hb hT hs, fun q hq => (h.om q hq).st hb hT hs⟩
  · intro q hq
    obtain ⟨j, hj⟩ := List.getElem?_of_mem hq
    rw [List.getElem?_set] at hj
    split at hj
    · injection hj with hj
      subst hj
      exact hn
    · next hne =>
      have hqB := List.mem_of_getElem? hj
      refine (h.box q hqB).st (fun e => hne ?_) hs
      have hnd := h.ne
      obtain ⟨hjl, hqj⟩ := List.getElem?_eq_some_iff.1 hj
      have e2 : (Bs.map fun x => x.1)[i]'(by simpa using hlt) = (Bs.map fun x => x.1)[j]'(by simpa using hjl) := by
        rw [List.getElem_map, List.getElem_map, hxi, hqj]
        exact e.symm
      rcases Nat.lt_trichotomy i j with g | g | g
      · exact absurd e2 (List.pairwise_iff_getElem.1 hnd i j _ _ g)
      · exact g
      · exact absurd e2.symm (List.pairwise_iff_getElem.1 hnd j i _ _ g)
  · intro q hq
    rcases List.mem_or_eq_of_mem_set hq with hq | rfl
    · exact h.own q hq
    · exact h.own x hx
  · intro q hq
    rcases List.mem_or_eq_of_mem_set hq with hq | rfl
    · exact h.ap q hq
    · exact hT
  · rw [List.map_set]
    have e : (Bs.map fun x => x.1).set i x.1 = Bs.map fun x => x.1 := by
      rw [← hxi, ← List.getElem_map (fun x : Bk => x.1) (l := Bs) (i := i) (h := by simpa using hlt)]
      exact List.set_getElem_self _
    show ((Bs.map fun x => x.1).set i x.1).Nodup
    rw [e]
    exact h.ne
end
end Go.Proofs.YtkjikigimmchlaaGreatDoor
namespace Go.Proofs.YtkjikigimmchlaaGreatDoor
open Go.RowKit
section
variable {w0 w : World} {Bs : List Bk} {Ns : List (Nod × Adr)} {Ds : List Dk} {Os : List Ol} {x : Bk}
theorem All.tail (h : All w0 (x :: Bs) Ns Ds Os w) : All w0 Bs Ns Ds Os w :=
  ⟨h.below, fun q hq => h.box q (List.mem_cons_of_mem _ hq), fun q hq => h.own q (List.mem_cons_of_mem _ hq), fun q hq => h.ap q (List.mem_cons_of_mem _ hq), (List.nodup_cons.1 (by rw [← List.map_cons]; exact h.ne)).2, h.nm, h.dm, h.om⟩
theorem All.other {w' : World} {c : Nat} {T : TypeId} {vs : List Value} (h : All w0 Bs Ns Ds Os w) (hx : BoxT w c T vs) (hT : Apart T) (hc : ∀ x ∈ Bs, x.1 ≠ c) (hD : w0.heap.size ≤ c) (hs : St w w' c) : All w0 Bs Ns Ds Os w' :=
  ⟨below_st h.below hD hs, fun q hq => (h.box q hq).st (hc q hq) hs, h.own, h.ap, h.ne, fun q hq => (h.nm q hq).st hx hT hs, fun q hq => (h.dm q hq).st hx hT hs, fun q hq => (h.om q hq).st hx hT hs⟩
end
end Go.Proofs.YtkjikigimmchlaaGreatDoor
