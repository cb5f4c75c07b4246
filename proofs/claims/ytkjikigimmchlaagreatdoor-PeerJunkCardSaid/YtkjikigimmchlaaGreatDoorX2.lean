/- Nodes: what the document's calls of layers 16 to 21 answer, plainly; the second half. No condition but that the node may be, and lies in memory. -/
import Derived.Test.YtkjikigimmchlaaGreatDoorNF
import Derived.Test.YtkjikigimmchlaaGreatDoorYC
import Derived.Test.YtkjikigimmchlaaGreatDoorX1
namespace Go.Proofs.YtkjikigimmchlaaGreatDoor
open Go.RowKit
def cellsM (c : List Mnt) : List Value := c.flatMap fun x => [.int .u64 x.g, .int .u64 x.p, .int .i64 x.k]
theorem cellsM_append (c d : List Mnt) : cellsM (c ++ d) = cellsM c ++ cellsM d := by unfold cellsM; rw [List.flatMap_append]
theorem cellsM_length (c : List Mnt) : (cellsM c).length = c.length * 3 := by
  induction c with
  | nil => rfl
  | cons x c ih => show (cellsM c).length + 3 = (c.length + 1) * 3; rw [ih]; omega
theorem cellsM_at : ∀ (c : List Mnt) (j : Nat) (x : Mnt), c[j]? = some x → (cellsM c)[j * 3]? = some (.int .u64 x.g) ∧ (cellsM c)[j * 3 + 1]? = some (.int .u64 x.p) ∧ (cellsM c)[j * 3 + 2]? = some (.int .i64 x.k) := by
  intro c
  induction c with
  | nil => intro j x h; simp at h
  | cons y c ih =>
    intro j x h
    cases j with
    | zero => simp at h; subst h; exact ⟨rfl, rfl, rfl⟩
    | succ j =>
      obtain ⟨h1, h2, h3⟩ := ih j x (by simpa using h)
      have e : (j + 1) * 3 = j * 3 + 1 + 1 + 1 := by omega
      rw [e]
      exact ⟨h1, h2, h3⟩
theorem cellsM_one (c : List Mnt) : ∀ u ∈ cellsM c, u.oneCell' = true := by
  intro u hu
  obtain ⟨x, _, h⟩ := List.mem_flatMap.1 hu
  simp at h
  rcases h with rfl | rfl | rfl <;> rfl
theorem add_two (a : Addr) (m : Nat) : (⟨(a.add m).block, (a.add m).off + 2, none⟩ : Addr) = a.add (m + 2) := by
  have e1 : (a.add m).block = a.block := add_block a m
  have e2 : (a.add m).off = a.off + m := by unfold Addr.add; split <;> simp_all
  rw [e1, e2]
  unfold Addr.add
  rw [if_neg (by omega)]
  rfl
theorem ms_cells {w : World} {D : Nat} {a : Addr} {c : List Mnt} (h : Ms w D (some a) c) : ∀ j u, (cellsM c)[j]? = some u → w.cell? (a.add j) = some u := by
  intro j u hu
  have hj : j / 3 < c.length := by
    have := (List.getElem?_eq_some_iff.1 hu).1
    rw [cellsM_length] at this
    omega
  obtain ⟨a', ha, _, h1, h2, h3⟩ := h (j / 3) c[j / 3] (List.getElem?_eq_getElem hj)
  injection ha with ha
  subst ha
  obtain ⟨g1, g2, g3⟩ := cellsM_at c (j / 3) c[j / 3] (List.getElem?_eq_getElem hj)
  have hcases : j % 3 = 0 ∨ j % 3 = 1 ∨ j % 3 = 2 := by omega
  rcases hcases with e | e | e
  · have e' : j = j / 3 * 3 := by omega
    rw [e'] at hu ⊢
    rw [g1] at hu
    rw [h1, hu]
  · have e' : j = j / 3 * 3 + 1 := by omega
    rw [e'] at hu ⊢
    rw [g2] at hu
    rw [← add_succ, h2, hu]
  · have e' : j = j / 3 * 3 + 2 := by omega
    rw [e'] at hu ⊢
    rw [g3] at hu
    rw [← add_two, h3, hu]
theorem cells_ms {w : World} {A : Option Addr} {c : List Mnt} (hc : ∀ j u, (cellsM c)[j]? = some u → ∃ a, A = some a ∧ a.block < w.heap.size ∧ w.cell? (a.add j) = some u) : Ms w w.heap.size A c := by
  intro j x hj
  obtain ⟨g1, g2, g3⟩ := cellsM_at c j x hj
  obtain ⟨a, ha, hlt, h1⟩ := hc _ _ g1
  obtain ⟨a', ha', _, h2⟩ := hc _ _ g2
  rw [ha] at ha'
  injection ha' with ha'
  subst ha'
  obtain ⟨a', ha', _, h3⟩ := hc _ _ g3
  rw [ha] at ha'
  injection ha' with ha'
  subst ha'
  exact ⟨a, ha, hlt, h1, by rw [add_succ]; exact h2, by rw [add_two]; exact h3⟩
theorem own_ms {w : World} {base : Nat} {v : Value} {c : List Mnt} (h : w.ownsRow base 112 3 v c.length (cellsM c)) : ∃ A cap, v = .slice A c.length cap ∧ (A = none → cap = 0) ∧ Ms w w.heap.size A c := by
  obtain ⟨A, cap, hv, hA, hc⟩ := own_slice h
  exact ⟨A, cap, hv, hA, cells_ms hc⟩
theorem info32 : (Tryz.prog.info? 112).map (fun i => (i.zero, i.size, i.bytes)) = some (some (.agg #[.int .u64 0, .int .u64 0, .int .i64 0]), 3, 24) := by kernel_rfl
theorem info23 : (Tryz.prog.info? 31).map (fun i => (i.zero, i.size, i.bytes)) = some (some (.int .u64 0), 1, 8) := by kernel_rfl
theorem us_cells {w : World} {D : Nat} {a : Addr} {l : List Int} (h : Es (Value.int .u64) w D (some a) l) : ∀ j u, (l.map (Value.int .u64))[j]? = some u → w.cell? (a.add j) = some u := by
  intro j u hu
  rw [List.getElem?_map] at hu
  obtain ⟨y, hy, rfl⟩ := Option.map_eq_some_iff.1 hu
  obtain ⟨a', ha', _, hcell⟩ := h j y hy
  injection ha' with ha'
  subst ha'
  exact hcell
theorem own_us {w : World} {base : Nat} {v : Value} {l : List Int} (h : w.ownsRow base 31 1 v l.length (l.map (Value.int .u64))) : ∃ A c, v = .slice A l.length c ∧ (A = none → c = 0) ∧ Es (Value.int .u64) w w.heap.size A l := by
  obtain ⟨A, c, hv, hA, hc⟩ := own_slice h
  exact ⟨A, c, hv, hA, fun j x hj => hc j (.int .u64 x) (by simp [hj])⟩
theorem us_tail {w : World} {D n : Nat} {ad : Addr} {x : Int} {t : List Int} (h : Es (Value.int .u64) w D (some ad) (x :: t)) (hn : t.length + 1 ≤ n) : Es (Value.int .u64) w D (if n = 1 then some ad else some ⟨ad.block, ad.off + 1, none⟩) t := by
  intro j y hj
  obtain ⟨a', ha', hlt, hc⟩ := h (j + 1) y (by simpa using hj)
  injection ha' with ha'
  subst ha'
  have hj2 : j < t.length := by
    rcases Nat.lt_or_ge j t.length with q | q
    · exact q
    · rw [List.getElem?_eq_none q] at hj; cases hj
  rw [if_neg (by omega)]
  refine ⟨_, rfl, hlt, ?_⟩
  have e : (⟨ad.block, ad.off + 1, none⟩ : Addr).add j = ad.add (j + 1) := by
    unfold Addr.add
    rw [if_neg (by omega : ¬ j + 1 = 0)]
    split
    · next q => rw [q]
    · simp only [Addr.mk.injEq, true_and, and_true]
      omega
  rw [e]
  exact hc
theorem Box.grownB {X Y : World} {row : Option Nat} {b : Nat} {vs : List Value} (h : Box X b vs) (hg : X.grownBy Y row) (hn : row ≠ some b) : Box Y b vs := by
  have hl := h.lt
  obtain ⟨t, h⟩ := h
  exact ⟨t, (hg.block b hl fun e => hn e.symm).trans h⟩
structure AllC (w0 : World) (Bs : List Bk) (Ns : List (Nod × Adr)) (Ds : List Dk) (Os : List Ol) (p : Addr) (c : Value) (w : World) : Prop where
  all : All w0 Bs Ns Ds Os w
  cell : w.cell? p = some c
end Go.Proofs.YtkjikigimmchlaaGreatDoor
namespace Go.Proofs.YtkjikigimmchlaaGreatDoor
open Go.RowKit PX
set_option maxRecDepth 100000
theorem NM.withD {u : World} {n : Nod} {a : Adr} {B : Nat} {A1 : Option Addr} {c1 : Nat} {r : List Int} (h : NM u n a) (ho : u.ownsRow B 31 1 (.slice A1 r.length c1) r.length (r.map (.int .u64))) : NM u { n with dr := r } { a with D := A1, p := c1 } := by
  obtain ⟨A, c, e, h1, h2⟩ := own_us ho
  injection e with e1 e2 e3
  subst e1; subst e3
  obtain ⟨_, h3⟩ := ho
  refine ⟨h.t, h2, ⟨h1, ?_⟩, fun p hp => ?_, h.mi, h.mn, h.mt⟩
  · rcases h3 with ⟨e, e2⟩ | ⟨g, cap, cur, e, _, _, hle, _⟩
    · rw [e2]; exact Nat.zero_le _
    · injection e with _ _ e; rw [e]; exact hle
  · rcases h3 with ⟨e, _⟩ | ⟨g, cap, cur, e, _, hc, _⟩
    · injection e with e; rw [e] at hp; cases hp
    · injection e with e
      rw [e] at hp
      injection hp with hp
      subst hp
      exact ⟨_, _, hc⟩
theorem NM.withM {u : World} {n : Nod} {a : Adr} {B : Nat} {A1 : Option Addr} {c1 : Nat} {l : List Mnt} (h : NM u n a) (ho : u.ownsRow B 112 3 (.slice A1 l.length c1) l.length (cellsM l)) : NM u { n with mi := l } { a with M := A1, q := c1 } := by
  obtain ⟨A, c, e, h1, h2⟩ := own_ms ho
  injection e with e1 e2 e3
  subst e1; subst e3
  obtain ⟨_, h3⟩ := ho
  refine ⟨h.t, h.d, h.dn, h.dt, h2, h1, fun p hp => ?_⟩
  rcases h3 with ⟨e, _⟩ | ⟨g, cap, cur, e, _, hc, _⟩
  · injection e with e; rw [e] at hp; cases hp
  · injection e with e
    rw [e] at hp
    injection hp with hp
    subst hp
    exact ⟨_, _, hc⟩
section
variable {N q : Nat} {n : Nod} {a : Adr} {w : World}
theorem xmint_none (hd : n.dr = []) (hn : NM w n a) : Calls Tryz.prog 138 #[nodV n a] w (GivesE (n, 14) w) :=
  run (st_nm n a) hn (t_Y (b := ((n.dr.length : Nat) : Int) == 0) 9 (by simp [hd]) (e_e a fun _ h => h))
theorem xmint_go {g : Int} {r : List Int} (hr : r.length ≤ 1000) (hm : n.mi.length ≤ 1000) (hF : Fit n.t.s n.t.c n.t.f) (hw : (n.t.b.minted g).wide) (hn : NM w { n with dr := g :: r } a) : Calls Tryz.prog 138 #[nodV { n with dr := g :: r } a] w (GivesE (Nod.mints { n with dr := g :: r }) w) := by
  obtain ⟨A, k, B, m, D, p, M, c⟩ := a
  cases D with
  | none => obtain ⟨_, e, _⟩ := hn.d 0 g rfl; cases e
  | some D =>
  refine run (st_nm _ _) hn ?_
  refine t_N (b := (((g :: r).length : Nat) : Int) == 0) 9 (by simp; omega) ?_
  refine t_ck (p := 0 ≤ (0 : Int) ∧ (0 : Int) < ((g :: r).length : Nat)) (by simp) ?_
  refine t_load (ty := 31) (p := D) (v := .int .u64 g) (fun u hu _ => reads1 (by kernel_rfl) ?_) ?_
  · obtain ⟨a0, e, _, h0⟩ := hu.d 0 g rfl
    injection e with e
    subst e
    exact h0
  refine t_fresh 31 [] (fun r1 hr1 => ?_)
  refine t_ck (p := inB none p ∧ inB (some 1) (atB none (g :: r).length)) ⟨trivial, by decide, by simp [atB]; omega⟩ ?_
  refine t_az 44 44 31 1 8 (.int .u64 0) Tryz.underlying44 info23 rfl (by decide) rfl (by decide) r1 (if p = 1 then some D else some (D.add 1)) (p - 1) r.length (r.map (.int .u64)) (fun u hu => hu.2) hr1 (by simp) ?_ ?_ ?_ (by omega) fun A1 c1 => ?_
  · intro e
    split at e <;> cases e
  · intro u hu ad e j x hx
    have hE := us_tail hu.1.d (by have := hu.1.dn.2; simpa using this)
    rw [show (if p = 1 then some D else some ⟨D.block, D.off + 1, none⟩) = some ad from e] at hE
    exact us_cells hE j x hx
  · intro x hx
    obtain ⟨y, _, rfl⟩ := List.mem_map.1 hx
    rfl
  by_cases hg : g = 0
  · subst hg
    exact t_Y (b := (0 : Int) == 0) 9 rfl (e_e ⟨A, k, B, m, A1, c1, M, c⟩ fun u hu => NM.withD (a := ⟨A, k, B, m, some D, p, M, c⟩) hu.1.1 hu.2)
  refine t_N (b := g == 0) 0 (by simpa using hg) (t_fresh 112 [] (fun r2 hr2 => ?_))
  refine t_az 45 45 112 3 24 (.agg #[.int .u64 0, .int .u64 0, .int .i64 0]) Tryz.underlying45 info32 rfl (by decide) rfl (by decide) r2 M c n.mi.length (cellsM n.mi) (fun u hu => hu.2) hr2 (cellsM_length _) ?_ ?_ (cellsM_one _) (by omega) fun A2 c2 => ?_
  · rintro rfl
    refine ⟨hn.mn rfl, ?_⟩
    cases hmi : n.mi with
    | nil => rfl
    | cons y l => obtain ⟨_, e, _⟩ := hn.mi 0 y (by rw [hmi]; rfl); cases e
  · intro u hu ad e j x hx
    have h0 := hu.1.1.1.mi
    dsimp only at h0
    rw [e] at h0
    exact ms_cells h0 j x hx
  refine t_fresh 112 [.int .u64 g, .int .u64 n.t.b.c, .int .i64 n.id] (fun r3 hr3 => ?_)
  have hlen : (n.mi ++ [(⟨g, n.t.b.c, n.id⟩ : Mnt)]).length = n.mi.length + 1 := by simp
  refine t_ap 45 45 112 3 24 (.agg #[.int .u64 0, .int .u64 0, .int .i64 0]) Tryz.underlying45 info32 rfl (by decide) rfl (by decide) (fun u => NM u { n with dr := r } ⟨A, k, B, m, A1, c1, M, c⟩) (st_nm _ _) A2 n.mi.length c2 (cellsM n.mi) ⟨r3, 0, none⟩ 1 1 (cellsM [⟨g, n.t.b.c, n.id⟩]) (fun u hu => ⟨hu.1.2, ?_⟩) _ hlen rfl (cellsM_one _) (by omega) (fun u u' hu hb hq => ?_) fun A3 c3 => ?_
  · intro j x hx
    rw [Addr.add_mid, BoxO.cell hu.2, Nat.zero_add]
    exact hx
  · exact NM.withD (n := { n with dr := g :: r }) (a := ⟨A, k, B, m, some D, p, M, c⟩) (hn.up hb) (ownsRow.other hu.1.1.1.2 (by decide) hq)
  refine t_v (fun u _ => rmint_any n.t.b.c n.t.b.b n.t.b.o n.t.b.p g u) ?_
  have hNM : ∀ u, NM u { n with dr := r } ⟨A, k, B, m, A1, c1, M, c⟩ ∧ u.ownsRow w.heap.size 112 3 (.slice A3 (n.mi ++ [(⟨g, n.t.b.c, n.id⟩ : Mnt)]).length c3) (n.mi ++ [(⟨g, n.t.b.c, n.id⟩ : Mnt)]).length (cellsM n.mi ++ cellsM [⟨g, n.t.b.c, n.id⟩]) → NM u { n with dr := r, mi := n.mi ++ [⟨g, n.t.b.c, n.id⟩] } ⟨A, k, B, m, A1, c1, A3, c3⟩ := fun u hu => by
    have := hu.2
    rw [← cellsM_append] at this
    exact NM.withM (n := { n with dr := r }) (a := ⟨A, k, B, m, A1, c1, M, c⟩) hu.1 this
  have hc := fun u (x : Bool) hx hv => xcommitF_as (w := u) (n := { n with dr := r, mi := n.mi ++ [⟨g, n.t.b.c, n.id⟩] }) (a := ⟨A, k, B, m, A1, c1, A3, c3⟩) hF hw (x := x) hx hv
  unfold Nod.mints
  dsimp only
  rw [if_neg hg]
  cases hk : (Nod.commit { n with dr := r, mi := n.mi ++ [⟨g, n.t.b.c, n.id⟩] } (n.t.b.minted g)).2 with
  | true =>
    rw [if_pos rfl]
    refine t_y (fun u hu => hc u true hk (hNM u hu)) fun a2 => t_lit 9 (e_e a2 fun _ h => h.2.like)
  | false =>
    rw [if_neg (by decide)]
    refine t_y (fun u hu => hc u false hk (hNM u hu)) fun a2 => t_lit 9 (e_e a2 fun _ h => h.2)
theorem xmints (h : NOk N q n) (hq : q ≤ 890) (hu : n.up = true) (hn : NM w n a) : Calls Tryz.prog 138 #[nodV n a] w (GivesE n.mints w) := by
  cases hd : n.dr with
  | nil =>
    rw [show n.mints = (n, 14) by unfold Nod.mints; rw [hd]]
    exact xmint_none hd hn
  | cons g r =>
    have e : { n with dr := g :: r } = n := by cases n; simp at hd; subst hd; rfl
    have hl := h.dl
    rw [hd] at hl
    have key := xmint_go (n := n) (g := g) (r := r) (a := a) (w := w) (by simp at hl; omega) (by have := h.ml; omega) (h.fit (by omega)) (minted_wide (h.bw hu) (h.dr g (by rw [hd]; simp))) (by rw [e]; exact hn)
    rw [e] at key
    exact key
theorem t_laid {T : Tree} {K : World → Prop} (h : NOk N q n) (hq : q ≤ 890) (hu : n.up = true) (id i : Int) (d : ByteArray) (hK : ∀ u, K u → NM u n a)
    (c1 : T.hd = .call (.fn 139) [nodV n a, .int .i64 i, .string d] := by kernel_rfl)
    (c2 : ∀ a2, ((T.nv (.tuple #[nodV (n.lay i d).1 a2, .bool false])).lit 9).hd = .ret (.tuple #[nodV (n.lay i d).1 a2, .slice none 0 0]) := by intro a2; kernel_rfl)
    (c3 : ∀ a2, ((T.nv (.tuple #[nodV (n.lay i d).1 a2, .bool true])).lit 1).hd = .br ((n.lay i d).1.st == 0) := by intro a2; kernel_rfl)
    (c4 : ∀ a2, ((T.nv (.tuple #[nodV (n.lay i d).1 a2, .bool true])).lit 1).yes.hd = .call (.fn 98) [nodV (n.lay i d).1 a2, .int .i64 id, .int .i64 0, .string e1] := by intro a2; kernel_rfl)
    (c5 : ∀ a2, (((T.nv (.tuple #[nodV (n.lay i d).1 a2, .bool true])).lit 1).yes.nv (ouV ((n.lay i d).1.reply id 0 e1))).hd = .fresh 59 (ouC ((n.lay i d).1.reply id 0 e1)) := by intro a2; kernel_rfl)
    (c6 : ∀ a2 r, ((((T.nv (.tuple #[nodV (n.lay i d).1 a2, .bool true])).lit 1).yes.nv (ouV ((n.lay i d).1.reply id 0 e1))).nr r).hd = .ret (.tuple #[nodV (n.lay i d).1 a2, .slice (some ⟨r, 0, none⟩) 1 1]) := by intro a2 r; kernel_rfl)
    (c7 : ∀ a2, ((T.nv (.tuple #[nodV (n.lay i d).1 a2, .bool true])).lit 1).no.hd = .call (.fn 135) [nodV { (n.lay i d).1 with rq := ⟨true, id, i, d⟩ } a2, pktV (pkD 2 i d)] := by intro a2; kernel_rfl)
    (c8 : ∀ a2, (((T.nv (.tuple #[nodV (n.lay i d).1 a2, .bool true])).lit 1).no.nv (ouV ((n.lay i d).1.send (pkD 2 i d)))).hd = .fresh 59 (ouC ((n.lay i d).1.send (pkD 2 i d))) := by intro a2; kernel_rfl)
    (c9 : ∀ a2 r, ((((T.nv (.tuple #[nodV (n.lay i d).1 a2, .bool true])).lit 1).no.nv (ouV ((n.lay i d).1.send (pkD 2 i d)))).nr r).hd = .ret (.tuple #[nodV { (n.lay i d).1 with rq := ⟨true, id, i, d⟩ } a2, .slice (some ⟨r, 0, none⟩) 1 1]) := by intro a2 r; kernel_rfl) :
    OK ⟨Tryz.prog, tyL, w, [], []⟩ (fun v _ u => GivesN (n.laid id i d) w (.returned v) u) T K := by
  have hs := (h.lay hu i d).ses
  have hl := fun x (hx : (n.lay i d).2 = x) u (hu' : K u) => xlay_as h hq hu i d hx (hK u hu')
  unfold Nod.laid
  cases hk : (n.lay i d).2 with
  | false =>
    dsimp only
    rw [if_neg (by rw [hk]; decide)]
    exact t_y (hl _ hk) (fun a2 => t_lit 9 (e_n0 a2 (fun _ h => h.2) (c2 a2))) c1
  | true =>
    dsimp only
    rw [if_pos hk]
    refine t_y (hl _ hk) (fun a2 => t_lit 1 ?_) c1
    by_cases h0 : (n.lay i d).1.st = 0
    · rw [if_pos h0]
      exact t_yes (ieq h0) (t_v (fun u _ => yreply (n.lay i d).1 a2 id 0 e1 u) (e_n1 a2 (fun _ h => h.2) (c5 a2) (c6 a2)) (c4 a2)) (c3 a2)
    · rw [if_neg h0]
      exact t_no (ine h0) (t_v (fun u _ => ysend { (n.lay i d).1 with rq := ⟨true, id, i, d⟩ } a2 (pkD 2 i d) u hs Hel.zero_wide) (e_n1 a2 (fun _ h => h.2.like) (c8 a2) (c9 a2)) (c7 a2)) (c3 a2)
theorem wr_bad {id i : Int} {d : ByteArray} {e : Int} (he : ¬ e = 0) (hb : n.badW i d = e) : n.write id i d = n.refuse id e := by
  unfold Nod.write
  rw [hb, if_neg he]
theorem xwrite (h : NOk N q n) (hq : q ≤ 880) (id i : Int) (d : ByteArray) (hn : NM w n a) : Calls Tryz.prog 92 #[nodV n a, .int .i64 id, .int .i64 i, .string d] w (GivesN (n.write id i d) w) := by
  have hR := fun e u => yreply n a id e e1 u
  by_cases hu : n.up = false
  · rw [wr_bad (e := 7) (by decide) (by unfold Nod.badW; rw [if_pos hu])]
    exact run (st_nm n a) hn (t_Y (b := !n.up) 9 (by simp [hu]) (t_v (fun u _ => hR 7 u) (e_n1 a fun _ h => h)))
  have hu' : n.up = true := by simpa using hu
  by_cases hp : n.pri = false
  · rw [wr_bad (e := 8) (by decide) (by unfold Nod.badW; rw [if_neg hu, if_pos hp])]
    exact run (st_nm n a) hn (t_N (b := !n.up) 0 (by simp [hu']) (t_Y (b := !n.pri) 9 (by simp [hp]) (t_v (fun u _ => hR 8 u) (e_n1 a fun _ h => h))))
  by_cases hi : i < 0 ∨ n.t.b.n ≤ i
  · rw [wr_bad (e := 4) (by decide) (by unfold Nod.badW; rw [if_neg hu, if_neg hp, if_pos hi])]
    refine run (st_nm n a) hn (t_N (b := !n.up) 0 (by simp [hu']) (t_N (b := !n.pri) 0 (by simpa using hp) ?_))
    by_cases h0 : i < 0
    · exact t_N (b := !decide (i < 0)) 9 (by simpa using h0) (t_v (fun u _ => hR 4 u) (e_n1 a fun _ h => h))
    · exact t_Y (b := !decide (i < 0)) 5 (by simpa using h0) (t_Y (b := decide (i ≥ n.t.b.n)) 9 (by simpa using hi.resolve_left h0) (t_v (fun u _ => hR 4 u) (e_n1 a fun _ h => h)))
  have h0 : ¬ i < 0 := fun e => hi (.inl e)
  have h1 : ¬ n.t.b.n ≤ i := fun e => hi (.inr e)
  have go : ∀ {F : Value → S → World → Prop}, OK _ F _ (fun u => NM u n a) → OK ⟨Tryz.prog, tyL, w, [], []⟩ F (tree ⟨Tryz.prog, tyL, w, [], []⟩ 0 92 #[nodV n a, .int .i64 id, .int .i64 i, .string d].toList) fun u => NM u n a := fun H =>
    t_N (b := !n.up) 0 (by simp [hu']) (t_N (b := !n.pri) 0 (by simpa using hp) (t_Y (b := !decide (i < 0)) 5 (by simpa using h0) (t_N (b := decide (i ≥ n.t.b.n)) 0 (by simpa using h1) H)))
  by_cases hd : d.size ≠ 8
  · rw [wr_bad (e := 5) (by decide) (by unfold Nod.badW; rw [if_neg hu, if_neg hp, if_neg hi, if_pos hd])]
    exact run (st_nm n a) hn (go (t_Y (b := ((d.size : Nat) : Int) != 8) 9 (by simp; omega) (t_v (fun u _ => hR 5 u) (e_n1 a fun _ h => h))))
  have hd8 : (((d.size : Nat) : Int) != 8) = false := by simp; omega
  by_cases hr : n.rq.on = true ∨ n.st = 1
  · rw [wr_bad (e := 11) (by decide) (by unfold Nod.badW; rw [if_neg hu, if_neg hp, if_neg hi, if_neg hd, if_pos hr])]
    refine run (st_nm n a) hn (go (t_N (b := ((d.size : Nat) : Int) != 8) 0 hd8 ?_))
    by_cases hr1 : n.rq.on = true
    · exact t_N (b := !n.rq.on) 9 (by simpa using hr1) (t_v (fun u _ => hR 11 u) (e_n1 a fun _ h => h))
    · exact t_Y (b := !n.rq.on) 2 (by simpa using hr1) (t_Y 9 (ieq (hr.resolve_left hr1)) (t_v (fun u _ => hR 11 u) (e_n1 a fun _ h => h)))
  have hr1 : ¬ n.rq.on = true := fun e => hr (.inl e)
  have hr2 : ¬ n.st = 1 := fun e => hr (.inr e)
  unfold Nod.write
  rw [if_pos (by unfold Nod.badW; rw [if_neg hu, if_neg hp, if_neg hi, if_neg hd, if_neg hr])]
  refine run (st_nm n a) hn (go (t_N (b := ((d.size : Nat) : Int) != 8) 0 hd8 (t_Y (b := !n.rq.on) 2 (by simpa using hr1) (t_N 1 (ine hr2) ?_))))
  have hq' : q ≤ 890 := by omega
  by_cases hs : n.st = 0
  · refine t_Y 2 (ieq hs) ?_
    by_cases hm : n.mint = false
    · rw [if_pos ⟨hs, hm⟩]
      refine t_Y (b := !n.mint) 9 (by simp [hm]) ?_
      refine t_e (r := n.mints) (fun u hu => xmints h hq' hu' hu) fun a2 => ?_
      by_cases h6 : n.mints.2 = 6
      · rw [if_pos h6]; exact t_Y 9 (ieq h6) (e_n0 a2 fun _ h => h.2)
      rw [if_neg h6]
      by_cases h0 : n.mints.2 = 0
      · rw [if_pos h0]
        exact t_N 0 (ine h6) (t_N 0 (bne0 h0) (t_laid (h.mints hu') (by omega) (mints_up hu' h6) id i d fun _ h => h.2))
      · rw [if_neg h0]
        exact t_N 0 (ine h6) (t_Y 0 (bne1 h0) (t_v (fun u _ => yreply n.mints.1 a2 id n.mints.2 e1 u) (e_n1 a2 fun _ h => h.2)))
    · rw [if_neg (by rintro ⟨_, g⟩; exact hm g)]
      refine t_N (b := !n.mint) 9 (by simpa using hm) (t_laid h hq' hu' id i d fun _ h => h)
  · rw [if_neg (by rintro ⟨g, _⟩; exact hs g)]
    exact t_N 9 (ine hs) (t_laid h hq' hu' id i d fun _ h => h)
theorem xacked (h : NOk N q n) (hq : q ≤ 890) (hu : n.up = true) (i : Int) (hn : NM w n a) : Calls Tryz.prog 147 #[nodV n a, .int .i64 i] w (GivesN (n.acked i) w) := by
  refine run (st_nm n a) hn ?_
  unfold Nod.acked
  by_cases hr : n.rq.on = true
  · refine t_Y (b := !(!n.rq.on)) 4 (by simp [hr]) ?_
    by_cases hi : n.rq.i = i
    · rw [if_pos ⟨hr, hi⟩]
      refine t_N (b := n.rq.i != i) 1 (by simp [hi]) ?_
      refine t_v (fun u _ => yreply n a n.rq.id 0 e1 u) (t_o (n.reply n.rq.id 0 e1) fun r1 hr1 => ?_)
      have hz : NOk N q { n with rq := Req.zero } := h.as rfl rfl h.ses h.peer rfl rfl
      have hc := fun x (hx : (Nod.wipe { n with rq := Req.zero } i).2 = x) u (hu' : NM u n a) => xwipe_as (w := u) (a := a) hz (by omega) hu i hx hu'.like
      have hs := (hz.wipe hu i).ses
      cases hk : (Nod.wipe { n with rq := Req.zero } i).2 with
      | false =>
        dsimp only
        rw [if_neg (by rw [hk]; decide)]
        exact t_y (fun u hu => hc _ hk u hu.1) fun a2 => t_lit 9 (e_n (r := (_, [n.reply n.rq.id 0 e1])) a2 (some ⟨r1, 0, none⟩) 1 fun u hu => ⟨hu.2, om_box hu.1.2, fr_new hr1⟩)
      | true =>
        dsimp only
        rw [if_pos hk]
        refine t_y (fun u hu => hc _ hk u hu.1) fun a2 => t_lit 9 (t_v (fun u _ => ysend (Nod.wipe { n with rq := Req.zero } i).1 a2 (pkI 4 i) u hs Hel.zero_wide) ?_)
        exact t_push ((Nod.wipe { n with rq := Req.zero } i).1.send (pkI 4 i)) _ a2 (fun u hu => ⟨hu.2, rw_box hr1 hu.1.2⟩) fun r2 v2 => e_nr (r := (_, [n.reply n.rq.id 0 e1, (Nod.wipe { n with rq := Req.zero } i).1.send (pkI 4 i)])) a2 v2 fun u hu => hu
    · rw [if_neg (fun g => hi g.2)]
      exact t_Y (b := n.rq.i != i) 30 (by simp [hi]) (e_n0 a fun _ h => h)
  · rw [if_neg (fun g => hr g.1)]
    exact t_N (b := !(!n.rq.on)) 30 (by simpa using hr) (e_n0 a fun _ h => h)
theorem xcopied (h : NOk N q n) (hq : q ≤ 890) (hu : n.up = true) (i : Int) (hn : NM w n a) : Calls Tryz.prog 151 #[nodV n a, .int .i64 i] w (GivesN (n.copied i) w) := by
  refine run (st_nm n a) hn ?_
  unfold Nod.copied
  have go := fun a2 (u : World) => xwipe (a := a2) (w := u) h (by omega) hu i
  by_cases hr : n.rq.on = true
  · refine t_Y 4 hr ?_
    by_cases hi : n.rq.i = i
    · rw [if_pos ⟨hr, hi⟩]; exact t_Y 30 (ieq hi) (e_n0 a fun _ h => h)
    · rw [if_neg (fun g => hi g.2)]
      exact t_N 30 (ine hi) (t_y (go a) fun a2 => e_n0 a2 fun _ h => h.2)
  · rw [if_neg (fun g => hr g.1)]
    exact t_N 30 (bfalse hr) (t_y (go a) fun a2 => e_n0 a2 fun _ h => h.2)
theorem xended (h : NOk N q n) (hq : q ≤ 890) (hu : n.up = true) (hn : NM w n a) : Calls Tryz.prog 152 #[nodV n a] w (GivesN n.ended w) := by
  refine run (st_nm n a) hn (t_v (fun u _ => rretire_any n.t.b.c n.t.b.b n.t.b.o n.t.b.p u) ?_)
  unfold Nod.ended
  have hw : Sup.wide { n.t.b.retired with r := n.pri } := set_r (retired_wide (h.bw hu)) n.pri
  have hc := fun x (hx : (n.commit { n.t.b.retired with r := n.pri }).2 = x) u (hu' : NM u n a) => xcommit_as h (by omega) hw hx hu'
  have hs := (h.commit hu hw).ses
  cases hk : (n.commit { n.t.b.retired with r := n.pri }).2 with
  | false =>
    dsimp only
    rw [if_neg (by rw [hk]; decide)]
    exact t_y (hc _ hk) fun a2 => t_lit 9 (e_n0 a2 fun _ h => h.2)
  | true =>
    dsimp only
    rw [if_pos hk]
    exact t_y (hc _ hk) fun a2 => t_lit 9 (t_v (fun u _ => ysend { (n.commit { n.t.b.retired with r := n.pri }).1 with st := 2 } a2 (pk 9) u hs Hel.zero_wide) (e_n1 a2 fun _ h => h.2.like))
theorem yown (n : Nod) (a : Adr) (w : World) : Calls Tryz.prog 198 #[nodV n a] w fun e w' => e = .returned (helV n.own) ∧ Below w.heap.size w w' :=
  run_v (t_v (fun u _ => rhof_any n.t.b n.pri n.t.m u) e_r)
theorem own_wide (h : NOk N q n) (hu : n.up = true) : n.own.wide := ⟨(h.bw hu).1, (h.bw hu).2.1, (h.bw hu).2.2.1, (h.bw hu).2.2.2, h.m32 hu⟩
theorem xbegins (h : NOk N q n) (hu : n.up = true) {s : Int} (hs : B64 s) (hn : NM w n a) : Calls Tryz.prog 141 #[nodV n a, .int .u64 s] w (GivesN (n.begins s) w) :=
  run (st_nm n a) hn (t_v (fun u _ => yown { n with st := 1, ses := s, mint := false } a u) (t_v (fun u _ => ysend { n with st := 1, ses := s, mint := false } a (pkH n.own) u hs (own_wide h hu)) (e_n1 a fun _ h => h.like)))
theorem xnext (m : Nat) (v : World) : Calls Tryz.prog 240 #[.int .u32 (m : Nat), .int .i64 0] v fun e v' => e = nxE (nx m 0) ∧ Below v.heap.size v v' :=
  (rnext_any m 0 v).mono fun e v' hh => ⟨hh.1, by rw [hh.2]; exact Below.refl _ _⟩
theorem xseek (h : NOk N q n) (hq : q ≤ 890) (hu : n.up = true) (hn : NM w n a) : Calls Tryz.prog 203 #[nodV n a] w (GivesN n.seek w) := by
  refine run (st_nm n a) hn ?_
  unfold Nod.seek
  by_cases hi : n.t.b.i = false
  · rw [if_pos (.inl hi)]
    exact t_N (b := !(!n.t.b.i)) 30 (by simp [hi]) (e_n0 a fun _ h => h)
  refine t_Y (b := !(!n.t.b.i)) 2 (by simpa using hi) ?_
  by_cases hw : n.want = 0
  · rw [if_neg (by rintro (g | g); exact hi g; exact g hw)]
    refine t_N 1 (bne0 hw) (t_v (fun u _ => xnext n.t.m u) ?_)
    cases hx : nx n.t.m 0 with
    | some j =>
      have hj := (nx_some.1 hx).2.1
      dsimp only
      rw [show (j : Int) + 1 = IntKind.i64.wrap ((j : Int) + 1) from (wrap_i64 (by omega) (by omega)).symm]
      exact t_lit 1 (t_v (fun u _ => ysend { n with want := IntKind.i64.wrap ((j : Int) + 1) } a (pkI 5 j) u h.ses Hel.zero_wide) (e_n1 a fun _ h => h.like))
    | none =>
      have hwd := peer_wide h.peer n.t.b.n
      have hc := fun x (hx : (n.commit (Sup.retired ⟨n.t.b.n, n.peer.c, n.peer.b, n.peer.o, n.peer.p, false, false, false⟩)).2 = x) u (hu' : NM u n a) => xcommit_as (w := u) h (by omega) hwd hx hu'
      have hs := (h.commit hu hwd).ses
      refine t_lit 1 (t_v (fun u _ => rretire_any n.peer.c n.peer.b n.peer.o n.peer.p u) ?_)
      cases hk : (n.commit (Sup.retired ⟨n.t.b.n, n.peer.c, n.peer.b, n.peer.o, n.peer.p, false, false, false⟩)).2 with
      | false =>
        dsimp only
        rw [if_neg (by rw [hk]; decide)]
        exact t_y (hc _ hk) fun a2 => t_lit 9 (e_n0 a2 fun _ h => h.2)
      | true =>
        dsimp only
        rw [if_pos hk]
        exact t_y (hc _ hk) fun a2 => t_lit 9 (t_v (fun u _ => ysend (n.commit (Sup.retired ⟨n.t.b.n, n.peer.c, n.peer.b, n.peer.o, n.peer.p, false, false, false⟩)).1 a2 (pk 8) u hs Hel.zero_wide) (e_n1 a2 fun _ h => h.2))
  · rw [if_pos (.inr hw)]
    exact t_Y 30 (bne1 hw) (e_n0 a fun _ h => h)
end
end Go.Proofs.YtkjikigimmchlaaGreatDoor
