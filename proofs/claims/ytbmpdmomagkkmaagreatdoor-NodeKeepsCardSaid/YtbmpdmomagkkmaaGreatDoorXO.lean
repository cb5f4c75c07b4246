/- What a node keeps: the law carried out. -/
import Derived.Test.YtbmpdmomagkkmaaGreatDoorXN
namespace Go.Proofs.YtbmpdmomagkkmaaGreatDoor
open Go.RowKit PX
set_option maxRecDepth 100000
section
variable {w : World}
theorem commit_same (n : Nod) (b : Sup) : (n.commit b).1.id = n.id ∧ (n.commit b).1.dr = n.dr ∧ (n.commit b).1.mi = n.mi := by
  unfold Nod.commit Nod.keep
  split <;> exact ⟨rfl, rfl, rfl⟩
theorem promote_same (n : Nod) (id : Int) : (n.promote id).1.id = n.id ∧ (n.promote id).1.dr = n.dr ∧ (n.promote id).1.mi = n.mi := by
  unfold Nod.promote
  dsimp only
  repeat' split
  all_goals first | exact ⟨rfl, rfl, rfl⟩ | exact commit_same _ _
theorem demote_same (n : Nod) (id : Int) : (n.demote id).1.id = n.id ∧ (n.demote id).1.dr = n.dr ∧ (n.demote id).1.mi = n.mi := by
  unfold Nod.demote
  dsimp only
  repeat' split
  all_goals first | exact ⟨rfl, rfl, rfl⟩ | exact commit_same _ _
theorem discard_same (n : Nod) (id : Int) : (n.discard id).1.id = n.id ∧ (n.discard id).1.dr = n.dr ∧ (n.discard id).1.mi = n.mi := by
  unfold Nod.discard
  dsimp only
  repeat' split
  all_goals first | exact ⟨rfl, rfl, rfl⟩ | exact commit_same _ _
structure Kp where
  i : Nat
  hi : i ≤ 5
def kpL (y : Kp) : List (Nat × AV) := [(5, .lp 9 0), (6, .lp 11 0), (7, .v (.int .i64 (y.i : Nat)))]
def kpB (n m0 m1 m2 m3 m4 : Nod) (a a0 a1 a2 a3 a4 : Adr) : List (Nat × Blk) := [(9, (47, nodC n a)), (11, (66, nodC m0 a0 ++ (nodC m1 a1 ++ (nodC m2 a2 ++ (nodC m3 a3 ++ nodC m4 a4)))))]
def kpK (n m0 m1 m2 m3 m4 : Nod) (a a0 a1 a2 a3 a4 : Adr) (u : World) : Prop := NM u n a ∧ NM u m0 a0 ∧ NM u m1 a1 ∧ NM u m2 a2 ∧ NM u m3 a3 ∧ NM u m4 a4
theorem st_kp (n m0 m1 m2 m3 m4 : Nod) (a a0 a1 a2 a3 a4 : Adr) : Stab tyL (kpK n m0 m1 m2 m3 m4 a a0 a1 a2 a3 a4) := (st_nm _ _).and ((st_nm _ _).and ((st_nm _ _).and ((st_nm _ _).and ((st_nm _ _).and (st_nm _ _)))))
def AOk (n : Nod) (a : Adr) : Prop := (n.dr = [] ∨ ∃ d, a.D = some d) ∧ (n.mi = [] ∨ ∃ d, a.M = some d)
theorem aok {u : World} {n : Nod} {a : Adr} (h : NM u n a) : AOk n a := by
  constructor
  · cases hd : n.dr with
    | nil => exact .inl rfl
    | cons x r =>
      obtain ⟨d, e, _⟩ := h.d 0 x (by rw [hd]; rfl)
      exact .inr ⟨d, e⟩
  · cases hd : n.mi with
    | nil => exact .inl rfl
    | cons x r =>
      obtain ⟨d, e, _⟩ := h.mi 0 x (by rw [hd]; rfl)
      exact .inr ⟨d, e⟩
theorem some_at {α β : Type} {l : List α} {j : Nat} {o : Option β} (h : l = [] ∨ ∃ d, o = some d) (hj : j < l.length) : ∃ d, o = some d := by
  rcases h with rfl | h
  · simp at hj
  · exact h
theorem d_reads {u : World} {n : Nod} {a : Adr} {d : Addr} {j : Nat} {x : Int} (h : NM u n a) (hd : a.D = some d) (hx : n.dr[j]? = some x) : Reads Tryz.prog u 31 (d.add (j * 1)) (.int .u64 x) := by
  obtain ⟨e, he, hr⟩ := n_reads h.d hx
  rw [hd] at he
  injection he with he
  subst he
  exact hr u (Below.refl _ _)
theorem m_reads {u : World} {n : Nod} {a : Adr} {d : Addr} {j : Nat} {x : Mnt} (h : NM u n a) (hd : a.M = some d) (hx : n.mi[j]? = some x) : Reads Tryz.prog u 68 (d.add (j * 3)) (mnV x) := by
  obtain ⟨e, he, hr⟩ := ms_reads h.mi hx
  rw [hd] at he
  injection he with he
  subst he
  exact hr u (Below.refl _ _)
section
variable {F : Value → S → World → Prop} {K : World → Prop} {t : Tree} {f : FuncId} {args : Array Value}
theorem t_n' {r : Nod × List Ou} (hc : ∀ u, K u → Calls Tryz.prog f args u (GivesN r u)) (h : ∀ a O k, AOk r.1 a → OK ⟨Tryz.prog, tyL, w, [], []⟩ F (t.nv (.tuple #[nodV r.1 a, .slice O r.2.length k])) fun u => K u ∧ NM u r.1 a) (hd : t.hd = .call (.fn f) args.toList := by kernel_rfl) : OK ⟨Tryz.prog, tyL, w, [], []⟩ F t K :=
  t_call (fun u hu _ => hc u hu) (fun u e u' hu hb hr => by
    obtain ⟨a, O, k, he, h1, h2, h3, h4⟩ := hr
    exact ⟨_, _, he, h3, st_nm _ _, h1, h a O k (aok h1)⟩) hd
theorem t_a' {r : Nod} (hc : ∀ u, K u → Calls Tryz.prog f args u (GivesA r u)) (h : ∀ a, AOk r a → OK ⟨Tryz.prog, tyL, w, [], []⟩ F (t.nv (nodV r a)) fun u => K u ∧ NM u r a) (hd : t.hd = .call (.fn f) args.toList := by kernel_rfl) : OK ⟨Tryz.prog, tyL, w, [], []⟩ F t K :=
  t_call (fun u hu _ => hc u hu) (fun u e u' hu hb hr => by
    obtain ⟨a, he, h1, h3⟩ := hr
    exact ⟨_, _, he, h3, st_nm _ _, h1, h a (aok h1)⟩) hd
theorem t_eb' {r : Nod × Int} (hc : ∀ u, K u → Below w.heap.size w u → Calls Tryz.prog f args u (GivesE r u)) (h : ∀ a, AOk r.1 a → OK ⟨Tryz.prog, tyL, w, [], []⟩ F (t.nv (.tuple #[nodV r.1 a, .int .i64 r.2])) fun u => K u ∧ NM u r.1 a) (hd : t.hd = .call (.fn f) args.toList := by kernel_rfl) : OK ⟨Tryz.prog, tyL, w, [], []⟩ F t K :=
  t_call (fun u hu hb => hc u hu (base_below hb)) (fun u e u' hu hb hr => by
    obtain ⟨a, he, h1, h3⟩ := hr
    exact ⟨_, _, he, h3, st_nm _ _, h1, h a (aok h1)⟩) hd
end
structure Jk (N : Nat) where
  k : Int
  j : Nat
  hj : j ≤ N
  hk : k = j
theorem with_D {a : Adr} {d : Addr} (h : a.D = some d) : ∃ b : Adr, a = { b with D := some d } := ⟨a, by rw [← h]⟩
theorem with_M {a : Adr} {d : Addr} (h : a.M = some d) : ∃ b : Adr, a = { b with M := some d } := ⟨a, by rw [← h]⟩
def jkL (c : Nat) {N : Nat} (i : Nat) (y : Jk N) : List (Nat × AV) := [(5, .lp 9 0), (6, .lp 11 0), (7, .v (.int .i64 (i : Nat))), (8, .lp 205 0), (c, .v (.int .i64 y.k))]
def jkB (n m0 m1 m2 m3 m4 : Nod) (a a0 a1 a2 a3 a4 : Adr) (m : Nod) (b : Adr) : List (Nat × Blk) := kpB n m0 m1 m2 m3 m4 a a0 a1 a2 a3 a4 ++ [(205, (47, nodC m b))]
theorem keeps_law (b : Int) (A : Option Addr) (kl : Nat) (l : List Evt) (s : Bool) (id : Int) (g : Addr) (w : World) (hc : Cas w b A l) (hg : Glob w g) : Calls Tryz.prog 7 #[.agg #[.int .u8 b, .slice A l.length kl, .bool s], .int .i64 id] w fun e w' => e = .returned (.bool true) ∧ Below w.heap.size w w' := by
  refine run_v ?_
  refine t_vb (args := #[]) (fun u _ hb => alive_any g (hg.up hb)) (t_lit 9 ?_)
  refine t_vb (args := #[.slice A l.length kl, .int .i64 60]) (v := .bool (greatEv l)) (fun u _ hb => xgreat A kl 60 (hc.he.up hb) (by decide)) ?_
  cases hgr : greatEv l with
  | true => exact t_lit 9 (e_r2 (.bool true) rfl)
  | false =>
    have hk := case_ok hc hgr s
    have hs := case_sok b l s
    have hx := xcase kl s hc hgr
    generalize caseN b l s = n at *
    refine t_lit 9 (t_call (args := #[.agg #[.int .u8 b, .slice A l.length kl, .bool s]]) (fun u _ hb => hx u (base_below hb)) ?_)
    rintro u e u' _ _ ⟨a, rfl, hn, hb⟩
    have qa := aok hn
    refine ⟨_, fun u => NM u n a, rfl, hb, st_nm _ _, hn, ?_⟩
    have had := attach_down hk []
    refine t_n' (args := #[nodV n a, .int .i64 id]) (fun u hu => wpromote hk (by omega) hs.s0 hs.s4 id hu.2) fun a0 _ _ q0 => ?_
    refine t_ck (p := (0 : Int) ≤ 0 ∧ (0 : Int) < ((5 : Nat) : Int)) (by decide) ?_
    refine t_n' (args := #[nodV n a, .int .i64 id]) (fun u hu => wdemote hk (by omega) id hu.1.2) fun a1 _ _ q1 => ?_
    refine t_ck (p := (0 : Int) ≤ 1 ∧ (1 : Int) < ((5 : Nat) : Int)) (by decide) ?_
    refine t_n' (args := #[nodV n a, .int .i64 id]) (fun u hu => wdiscard hk (by omega) id hu.1.1.2) fun a2 _ _ q2 => ?_
    refine t_ck (p := (0 : Int) ≤ 2 ∧ (2 : Int) < ((5 : Nat) : Int)) (by decide) ?_
    refine t_a' (args := #[nodV n a]) (fun u hu => wdown2 hu.1.1.1.2) fun a3 q3 => ?_
    refine t_ck (p := (0 : Int) ≤ 3 ∧ (3 : Int) < ((5 : Nat) : Int)) (by decide) ?_
    refine t_ck (p := (0 : Int) ≤ 3 ∧ (3 : Int) < ((5 : Nat) : Int)) (by decide) ?_
    refine t_eb' (r := (Nod.fresh n.id true (att (n.down.revive []) [] 0 false) n.dr n.mi, 0)) (args := #[nodV n.down a3, .slice none 0 0]) (fun u hu hb => by rw [← had]; exact wattach hk.down (by omega) (SOk.down n).dn g (hg.up hb) none [] 0 (es_nil _ _ _ _) (by decide) hu.2) fun a4 q4 => ?_
    refine t_ck (p := (0 : Int) ≤ 4 ∧ (4 : Int) < ((5 : Nat) : Int)) (by decide) ?_
    have s0 := promote_same n id
    have s1 := demote_same n id
    have s2 := discard_same n id
    have s3 : n.down.id = n.id ∧ n.down.dr = n.dr ∧ n.down.mi = n.mi := ⟨rfl, rfl, rfl⟩
    have s4 : (Nod.fresh n.id true (att (n.down.revive []) [] 0 false) n.dr n.mi).id = n.id ∧ (Nod.fresh n.id true (att (n.down.revive []) [] 0 false) n.dr n.mi).dr = n.dr ∧ (Nod.fresh n.id true (att (n.down.revive []) [] 0 false) n.dr n.mi).mi = n.mi := ⟨rfl, rfl, rfl⟩
    generalize (Nod.fresh n.id true (att (n.down.revive []) [] 0 false) n.dr n.mi) = m4 at *
    generalize (n.promote id).1 = m0 at *
    generalize (n.demote id).1 = m1 at *
    generalize (n.discard id).1 = m2 at *
    generalize n.down = m3 at *
    refine t_loop rfl (⟨0, by omega⟩ : Kp) kpL (fun _ => kpB n m0 m1 m2 m3 m4 a a0 a1 a2 a3 a4) 200 (fun _ => kpK n m0 m1 m2 m3 m4 a a0 a1 a2 a3 a4) (fun y => 5 - y.i) (fun _ => st_kp _ _ _ _ _ _ _ _ _ _ _ _) (fun u hu _ => ⟨hu.1.1.1.1.1.2, hu.1.1.1.1.2, hu.1.1.1.2, hu.1.1.2, hu.1.2, hu.2⟩) ?_
    rintro ⟨i, hi⟩ f
    rcases (by omega : i = 0 ∨ i = 1 ∨ i = 2 ∨ i = 3 ∨ i = 4 ∨ i = 5) with rfl | rfl | rfl | rfl | rfl | rfl
    · obtain ⟨e0, e1, e2⟩ := s0
      refine t_lit 1 (t_ck (p := (0 : Int) ≤ ((0 : Nat) : Int) ∧ ((0 : Nat) : Int) < ((5 : Nat) : Int)) (by decide) ?_)
      refine t_Y (b := !(m0.id != n.id)) 6 (by simp [e0]) (t_Y (b := !((m0.dr.length : Int) != (n.dr.length : Int))) 6 (by simp [e1]) (t_N (b := !((m0.mi.length : Int) == (n.mi.length : Int))) 0 (by simp [e2]) ?_))
      refine t_loop rfl (⟨0, 0, Nat.zero_le _, rfl⟩ : Jk n.dr.length) (jkL 9 0) (fun _ => jkB n m0 m1 m2 m3 m4 a a0 a1 a2 a3 a4 m0 a0) 300 (fun _ => kpK n m0 m1 m2 m3 m4 a a0 a1 a2 a3 a4) (fun y => n.dr.length - y.j) (fun _ => st_kp _ _ _ _ _ _ _ _ _ _ _ _) (fun _ hu _ => hu) ?_
      rintro ⟨k1, j, hj, rfl⟩ f
      by_cases hjl : j < n.dr.length
      · obtain ⟨x, hx⟩ : ∃ x, n.dr[j]? = some x := ⟨n.dr[j], List.getElem?_eq_getElem hjl⟩
        obtain ⟨d1, hd1⟩ := some_at q0.1 (e1.symm ▸ hjl)
        obtain ⟨d2, hd2⟩ := some_at qa.1 hjl
        obtain ⟨b1, rfl⟩ := with_D hd1
        obtain ⟨b2, rfl⟩ := with_D hd2
        have ck : 0 ≤ (j : Int) ∧ (j : Int) < (m0.dr.length : Nat) := ⟨by omega, by rw [e1]; omega⟩
        have ck2 : 0 ≤ (j : Int) ∧ (j : Int) < (n.dr.length : Nat) := ⟨by omega, by omega⟩
        refine t_Y (b := decide ((j : Int) < (n.dr.length : Int))) 0 (by simpa using hjl) (t_ck ck ?_)
        refine t_load (ty := 31) (p := d1.add (j * 1)) (v := .int .u64 x) (fun u hu _ => d_reads hu.2.1 rfl (by rw [e1]; exact hx)) ?_
        refine t_ck ck2 (t_load (ty := 31) (p := d2.add (j * 1)) (v := .int .u64 x) (fun u hu _ => d_reads hu.1 rfl hx) ?_)
        have hw1 : IntKind.i64.wrap ((j : Int) + 1) = ((j + 1 : Nat) : Int) := by have := hk.dl; rw [wrap_i64 (by omega) (by omega)]; push_cast; rfl
        exact t_N (b := (x != x)) 0 (by simp) (t_end (jkL 9 0) (fun _ => jkB n m0 m1 m2 m3 m4 { b2 with D := some d2 } { b1 with D := some d1 } a1 a2 a3 a4 m0 { b1 with D := some d1 }) (fun _ => kpK n m0 m1 m2 m3 m4 { b2 with D := some d2 } { b1 with D := some d1 } a1 a2 a3 a4) (fun y => n.dr.length - y.j) (⟨j, j, hj, rfl⟩ : Jk n.dr.length) (⟨IntKind.i64.wrap ((j : Int) + 1), j + 1, hjl, hw1⟩ : Jk n.dr.length) (by show n.dr.length - (j + 1) < n.dr.length - j; omega) fun _ hu _ => hu)
      refine t_N (b := decide ((j : Int) < (n.dr.length : Int))) 0 (by simpa using hjl) ?_
      refine t_loop rfl (⟨0, 0, Nat.zero_le _, rfl⟩ : Jk n.mi.length) (jkL 10 0) (fun _ => jkB n m0 m1 m2 m3 m4 a a0 a1 a2 a3 a4 m0 a0) 400 (fun _ => kpK n m0 m1 m2 m3 m4 a a0 a1 a2 a3 a4) (fun y => n.mi.length - y.j) (fun _ => st_kp _ _ _ _ _ _ _ _ _ _ _ _) (fun _ hu _ => hu) ?_
      rintro ⟨k1, j, hj, rfl⟩ f
      by_cases hjl : j < n.mi.length
      · obtain ⟨x, hx⟩ : ∃ x, n.mi[j]? = some x := ⟨n.mi[j], List.getElem?_eq_getElem hjl⟩
        obtain ⟨d1, hd1⟩ := some_at q0.2 (e2.symm ▸ hjl)
        obtain ⟨d2, hd2⟩ := some_at qa.2 hjl
        obtain ⟨b1, rfl⟩ := with_M hd1
        obtain ⟨b2, rfl⟩ := with_M hd2
        have ck : 0 ≤ (j : Int) ∧ (j : Int) < (m0.mi.length : Nat) := ⟨by omega, by rw [e2]; omega⟩
        have ck2 : 0 ≤ (j : Int) ∧ (j : Int) < (n.mi.length : Nat) := ⟨by omega, by omega⟩
        refine t_Y (b := decide ((j : Int) < (n.mi.length : Int))) 0 (by simpa using hjl) (t_ck ck ?_)
        refine t_load (ty := 68) (p := d1.add (j * 3)) (v := mnV x) (fun u hu _ => m_reads hu.2.1 rfl (by rw [e2]; exact hx)) ?_
        refine t_ck ck2 (t_load (ty := 68) (p := d2.add (j * 3)) (v := mnV x) (fun u hu _ => m_reads hu.1 rfl hx) ?_)
        have hw1 : IntKind.i64.wrap ((j : Int) + 1) = ((j + 1 : Nat) : Int) := by have := hk.ml; rw [wrap_i64 (by omega) (by omega)]; push_cast; rfl
        refine t_sem (do Go.eqGuard .neq 68 (.tmp 108) (.tmp 113) (mnV x) (mnV x); Go.binOp .neq 68 (mnV x) (mnV x)) (v := .bool (!(eqM x x))) (fun u _ _ => neq_mn _ _ x x u) ?_
        exact t_N (b := !(eqM x x)) 0 (by rw [eqM_iff.2 rfl]; rfl) (t_end (jkL 10 0) (fun _ => jkB n m0 m1 m2 m3 m4 { b2 with M := some d2 } { b1 with M := some d1 } a1 a2 a3 a4 m0 { b1 with M := some d1 }) (fun _ => kpK n m0 m1 m2 m3 m4 { b2 with M := some d2 } { b1 with M := some d1 } a1 a2 a3 a4) (fun y => n.mi.length - y.j) (⟨j, j, hj, rfl⟩ : Jk n.mi.length) (⟨IntKind.i64.wrap ((j : Int) + 1), j + 1, hjl, hw1⟩ : Jk n.mi.length) (by show n.mi.length - (j + 1) < n.mi.length - j; omega) fun _ hu _ => hu)
      exact t_N (b := decide ((j : Int) < (n.mi.length : Int))) 0 (by simpa using hjl) (t_end kpL (fun _ => kpB n m0 m1 m2 m3 m4 a a0 a1 a2 a3 a4) (fun _ => kpK n m0 m1 m2 m3 m4 a a0 a1 a2 a3 a4) (fun y => 5 - y.i) (⟨0, hi⟩ : Kp) (⟨1, by omega⟩ : Kp) (by show 5 - 1 < 5 - 0; omega) fun _ hu _ => hu)
    · obtain ⟨e0, e1, e2⟩ := s1
      refine t_lit 1 (t_ck (p := (0 : Int) ≤ ((1 : Nat) : Int) ∧ ((1 : Nat) : Int) < ((5 : Nat) : Int)) (by decide) ?_)
      refine t_Y (b := !(m1.id != n.id)) 6 (by simp [e0]) (t_Y (b := !((m1.dr.length : Int) != (n.dr.length : Int))) 6 (by simp [e1]) (t_N (b := !((m1.mi.length : Int) == (n.mi.length : Int))) 0 (by simp [e2]) ?_))
      refine t_loop rfl (⟨0, 0, Nat.zero_le _, rfl⟩ : Jk n.dr.length) (jkL 9 1) (fun _ => jkB n m0 m1 m2 m3 m4 a a0 a1 a2 a3 a4 m1 a1) 300 (fun _ => kpK n m0 m1 m2 m3 m4 a a0 a1 a2 a3 a4) (fun y => n.dr.length - y.j) (fun _ => st_kp _ _ _ _ _ _ _ _ _ _ _ _) (fun _ hu _ => hu) ?_
      rintro ⟨k1, j, hj, rfl⟩ f
      by_cases hjl : j < n.dr.length
      · obtain ⟨x, hx⟩ : ∃ x, n.dr[j]? = some x := ⟨n.dr[j], List.getElem?_eq_getElem hjl⟩
        obtain ⟨d1, hd1⟩ := some_at q1.1 (e1.symm ▸ hjl)
        obtain ⟨d2, hd2⟩ := some_at qa.1 hjl
        obtain ⟨b1, rfl⟩ := with_D hd1
        obtain ⟨b2, rfl⟩ := with_D hd2
        have ck : 0 ≤ (j : Int) ∧ (j : Int) < (m1.dr.length : Nat) := ⟨by omega, by rw [e1]; omega⟩
        have ck2 : 0 ≤ (j : Int) ∧ (j : Int) < (n.dr.length : Nat) := ⟨by omega, by omega⟩
        refine t_Y (b := decide ((j : Int) < (n.dr.length : Int))) 0 (by simpa using hjl) (t_ck ck ?_)
        refine t_load (ty := 31) (p := d1.add (j * 1)) (v := .int .u64 x) (fun u hu _ => d_reads hu.2.2.1 rfl (by rw [e1]; exact hx)) ?_
        refine t_ck ck2 (t_load (ty := 31) (p := d2.add (j * 1)) (v := .int .u64 x) (fun u hu _ => d_reads hu.1 rfl hx) ?_)
        have hw1 : IntKind.i64.wrap ((j : Int) + 1) = ((j + 1 : Nat) : Int) := by have := hk.dl; rw [wrap_i64 (by omega) (by omega)]; push_cast; rfl
        exact t_N (b := (x != x)) 0 (by simp) (t_end (jkL 9 1) (fun _ => jkB n m0 m1 m2 m3 m4 { b2 with D := some d2 } a0 { b1 with D := some d1 } a2 a3 a4 m1 { b1 with D := some d1 }) (fun _ => kpK n m0 m1 m2 m3 m4 { b2 with D := some d2 } a0 { b1 with D := some d1 } a2 a3 a4) (fun y => n.dr.length - y.j) (⟨j, j, hj, rfl⟩ : Jk n.dr.length) (⟨IntKind.i64.wrap ((j : Int) + 1), j + 1, hjl, hw1⟩ : Jk n.dr.length) (by show n.dr.length - (j + 1) < n.dr.length - j; omega) fun _ hu _ => hu)
      refine t_N (b := decide ((j : Int) < (n.dr.length : Int))) 0 (by simpa using hjl) ?_
      refine t_loop rfl (⟨0, 0, Nat.zero_le _, rfl⟩ : Jk n.mi.length) (jkL 10 1) (fun _ => jkB n m0 m1 m2 m3 m4 a a0 a1 a2 a3 a4 m1 a1) 400 (fun _ => kpK n m0 m1 m2 m3 m4 a a0 a1 a2 a3 a4) (fun y => n.mi.length - y.j) (fun _ => st_kp _ _ _ _ _ _ _ _ _ _ _ _) (fun _ hu _ => hu) ?_
      rintro ⟨k1, j, hj, rfl⟩ f
      by_cases hjl : j < n.mi.length
      · obtain ⟨x, hx⟩ : ∃ x, n.mi[j]? = some x := ⟨n.mi[j], List.getElem?_eq_getElem hjl⟩
        obtain ⟨d1, hd1⟩ := some_at q1.2 (e2.symm ▸ hjl)
        obtain ⟨d2, hd2⟩ := some_at qa.2 hjl
        obtain ⟨b1, rfl⟩ := with_M hd1
        obtain ⟨b2, rfl⟩ := with_M hd2
        have ck : 0 ≤ (j : Int) ∧ (j : Int) < (m1.mi.length : Nat) := ⟨by omega, by rw [e2]; omega⟩
        have ck2 : 0 ≤ (j : Int) ∧ (j : Int) < (n.mi.length : Nat) := ⟨by omega, by omega⟩
        refine t_Y (b := decide ((j : Int) < (n.mi.length : Int))) 0 (by simpa using hjl) (t_ck ck ?_)
        refine t_load (ty := 68) (p := d1.add (j * 3)) (v := mnV x) (fun u hu _ => m_reads hu.2.2.1 rfl (by rw [e2]; exact hx)) ?_
        refine t_ck ck2 (t_load (ty := 68) (p := d2.add (j * 3)) (v := mnV x) (fun u hu _ => m_reads hu.1 rfl hx) ?_)
        have hw1 : IntKind.i64.wrap ((j : Int) + 1) = ((j + 1 : Nat) : Int) := by have := hk.ml; rw [wrap_i64 (by omega) (by omega)]; push_cast; rfl
        refine t_sem (do Go.eqGuard .neq 68 (.tmp 108) (.tmp 113) (mnV x) (mnV x); Go.binOp .neq 68 (mnV x) (mnV x)) (v := .bool (!(eqM x x))) (fun u _ _ => neq_mn _ _ x x u) ?_
        exact t_N (b := !(eqM x x)) 0 (by rw [eqM_iff.2 rfl]; rfl) (t_end (jkL 10 1) (fun _ => jkB n m0 m1 m2 m3 m4 { b2 with M := some d2 } a0 { b1 with M := some d1 } a2 a3 a4 m1 { b1 with M := some d1 }) (fun _ => kpK n m0 m1 m2 m3 m4 { b2 with M := some d2 } a0 { b1 with M := some d1 } a2 a3 a4) (fun y => n.mi.length - y.j) (⟨j, j, hj, rfl⟩ : Jk n.mi.length) (⟨IntKind.i64.wrap ((j : Int) + 1), j + 1, hjl, hw1⟩ : Jk n.mi.length) (by show n.mi.length - (j + 1) < n.mi.length - j; omega) fun _ hu _ => hu)
      exact t_N (b := decide ((j : Int) < (n.mi.length : Int))) 0 (by simpa using hjl) (t_end kpL (fun _ => kpB n m0 m1 m2 m3 m4 a a0 a1 a2 a3 a4) (fun _ => kpK n m0 m1 m2 m3 m4 a a0 a1 a2 a3 a4) (fun y => 5 - y.i) (⟨1, hi⟩ : Kp) (⟨2, by omega⟩ : Kp) (by show 5 - 2 < 5 - 1; omega) fun _ hu _ => hu)
    · obtain ⟨e0, e1, e2⟩ := s2
      refine t_lit 1 (t_ck (p := (0 : Int) ≤ ((2 : Nat) : Int) ∧ ((2 : Nat) : Int) < ((5 : Nat) : Int)) (by decide) ?_)
      refine t_Y (b := !(m2.id != n.id)) 6 (by simp [e0]) (t_Y (b := !((m2.dr.length : Int) != (n.dr.length : Int))) 6 (by simp [e1]) (t_N (b := !((m2.mi.length : Int) == (n.mi.length : Int))) 0 (by simp [e2]) ?_))
      refine t_loop rfl (⟨0, 0, Nat.zero_le _, rfl⟩ : Jk n.dr.length) (jkL 9 2) (fun _ => jkB n m0 m1 m2 m3 m4 a a0 a1 a2 a3 a4 m2 a2) 300 (fun _ => kpK n m0 m1 m2 m3 m4 a a0 a1 a2 a3 a4) (fun y => n.dr.length - y.j) (fun _ => st_kp _ _ _ _ _ _ _ _ _ _ _ _) (fun _ hu _ => hu) ?_
      rintro ⟨k1, j, hj, rfl⟩ f
      by_cases hjl : j < n.dr.length
      · obtain ⟨x, hx⟩ : ∃ x, n.dr[j]? = some x := ⟨n.dr[j], List.getElem?_eq_getElem hjl⟩
        obtain ⟨d1, hd1⟩ := some_at q2.1 (e1.symm ▸ hjl)
        obtain ⟨d2, hd2⟩ := some_at qa.1 hjl
        obtain ⟨b1, rfl⟩ := with_D hd1
        obtain ⟨b2, rfl⟩ := with_D hd2
        have ck : 0 ≤ (j : Int) ∧ (j : Int) < (m2.dr.length : Nat) := ⟨by omega, by rw [e1]; omega⟩
        have ck2 : 0 ≤ (j : Int) ∧ (j : Int) < (n.dr.length : Nat) := ⟨by omega, by omega⟩
        refine t_Y (b := decide ((j : Int) < (n.dr.length : Int))) 0 (by simpa using hjl) (t_ck ck ?_)
        refine t_load (ty := 31) (p := d1.add (j * 1)) (v := .int .u64 x) (fun u hu _ => d_reads hu.2.2.2.1 rfl (by rw [e1]; exact hx)) ?_
        refine t_ck ck2 (t_load (ty := 31) (p := d2.add (j * 1)) (v := .int .u64 x) (fun u hu _ => d_reads hu.1 rfl hx) ?_)
        have hw1 : IntKind.i64.wrap ((j : Int) + 1) = ((j + 1 : Nat) : Int) := by have := hk.dl; rw [wrap_i64 (by omega) (by omega)]; push_cast; rfl
        exact t_N (b := (x != x)) 0 (by simp) (t_end (jkL 9 2) (fun _ => jkB n m0 m1 m2 m3 m4 { b2 with D := some d2 } a0 a1 { b1 with D := some d1 } a3 a4 m2 { b1 with D := some d1 }) (fun _ => kpK n m0 m1 m2 m3 m4 { b2 with D := some d2 } a0 a1 { b1 with D := some d1 } a3 a4) (fun y => n.dr.length - y.j) (⟨j, j, hj, rfl⟩ : Jk n.dr.length) (⟨IntKind.i64.wrap ((j : Int) + 1), j + 1, hjl, hw1⟩ : Jk n.dr.length) (by show n.dr.length - (j + 1) < n.dr.length - j; omega) fun _ hu _ => hu)
      refine t_N (b := decide ((j : Int) < (n.dr.length : Int))) 0 (by simpa using hjl) ?_
      refine t_loop rfl (⟨0, 0, Nat.zero_le _, rfl⟩ : Jk n.mi.length) (jkL 10 2) (fun _ => jkB n m0 m1 m2 m3 m4 a a0 a1 a2 a3 a4 m2 a2) 400 (fun _ => kpK n m0 m1 m2 m3 m4 a a0 a1 a2 a3 a4) (fun y => n.mi.length - y.j) (fun _ => st_kp _ _ _ _ _ _ _ _ _ _ _ _) (fun _ hu _ => hu) ?_
      rintro ⟨k1, j, hj, rfl⟩ f
      by_cases hjl : j < n.mi.length
      · obtain ⟨x, hx⟩ : ∃ x, n.mi[j]? = some x := ⟨n.mi[j], List.getElem?_eq_getElem hjl⟩
        obtain ⟨d1, hd1⟩ := some_at q2.2 (e2.symm ▸ hjl)
        obtain ⟨d2, hd2⟩ := some_at qa.2 hjl
        obtain ⟨b1, rfl⟩ := with_M hd1
        obtain ⟨b2, rfl⟩ := with_M hd2
        have ck : 0 ≤ (j : Int) ∧ (j : Int) < (m2.mi.length : Nat) := ⟨by omega, by rw [e2]; omega⟩
        have ck2 : 0 ≤ (j : Int) ∧ (j : Int) < (n.mi.length : Nat) := ⟨by omega, by omega⟩
        refine t_Y (b := decide ((j : Int) < (n.mi.length : Int))) 0 (by simpa using hjl) (t_ck ck ?_)
        refine t_load (ty := 68) (p := d1.add (j * 3)) (v := mnV x) (fun u hu _ => m_reads hu.2.2.2.1 rfl (by rw [e2]; exact hx)) ?_
        refine t_ck ck2 (t_load (ty := 68) (p := d2.add (j * 3)) (v := mnV x) (fun u hu _ => m_reads hu.1 rfl hx) ?_)
        have hw1 : IntKind.i64.wrap ((j : Int) + 1) = ((j + 1 : Nat) : Int) := by have := hk.ml; rw [wrap_i64 (by omega) (by omega)]; push_cast; rfl
        refine t_sem (do Go.eqGuard .neq 68 (.tmp 108) (.tmp 113) (mnV x) (mnV x); Go.binOp .neq 68 (mnV x) (mnV x)) (v := .bool (!(eqM x x))) (fun u _ _ => neq_mn _ _ x x u) ?_
        exact t_N (b := !(eqM x x)) 0 (by rw [eqM_iff.2 rfl]; rfl) (t_end (jkL 10 2) (fun _ => jkB n m0 m1 m2 m3 m4 { b2 with M := some d2 } a0 a1 { b1 with M := some d1 } a3 a4 m2 { b1 with M := some d1 }) (fun _ => kpK n m0 m1 m2 m3 m4 { b2 with M := some d2 } a0 a1 { b1 with M := some d1 } a3 a4) (fun y => n.mi.length - y.j) (⟨j, j, hj, rfl⟩ : Jk n.mi.length) (⟨IntKind.i64.wrap ((j : Int) + 1), j + 1, hjl, hw1⟩ : Jk n.mi.length) (by show n.mi.length - (j + 1) < n.mi.length - j; omega) fun _ hu _ => hu)
      exact t_N (b := decide ((j : Int) < (n.mi.length : Int))) 0 (by simpa using hjl) (t_end kpL (fun _ => kpB n m0 m1 m2 m3 m4 a a0 a1 a2 a3 a4) (fun _ => kpK n m0 m1 m2 m3 m4 a a0 a1 a2 a3 a4) (fun y => 5 - y.i) (⟨2, hi⟩ : Kp) (⟨3, by omega⟩ : Kp) (by show 5 - 3 < 5 - 2; omega) fun _ hu _ => hu)
    · obtain ⟨e0, e1, e2⟩ := s3
      refine t_lit 1 (t_ck (p := (0 : Int) ≤ ((3 : Nat) : Int) ∧ ((3 : Nat) : Int) < ((5 : Nat) : Int)) (by decide) ?_)
      refine t_Y (b := !(m3.id != n.id)) 6 (by simp [e0]) (t_Y (b := !((m3.dr.length : Int) != (n.dr.length : Int))) 6 (by simp [e1]) (t_N (b := !((m3.mi.length : Int) == (n.mi.length : Int))) 0 (by simp [e2]) ?_))
      refine t_loop rfl (⟨0, 0, Nat.zero_le _, rfl⟩ : Jk n.dr.length) (jkL 9 3) (fun _ => jkB n m0 m1 m2 m3 m4 a a0 a1 a2 a3 a4 m3 a3) 300 (fun _ => kpK n m0 m1 m2 m3 m4 a a0 a1 a2 a3 a4) (fun y => n.dr.length - y.j) (fun _ => st_kp _ _ _ _ _ _ _ _ _ _ _ _) (fun _ hu _ => hu) ?_
      rintro ⟨k1, j, hj, rfl⟩ f
      by_cases hjl : j < n.dr.length
      · obtain ⟨x, hx⟩ : ∃ x, n.dr[j]? = some x := ⟨n.dr[j], List.getElem?_eq_getElem hjl⟩
        obtain ⟨d1, hd1⟩ := some_at q3.1 (e1.symm ▸ hjl)
        obtain ⟨d2, hd2⟩ := some_at qa.1 hjl
        obtain ⟨b1, rfl⟩ := with_D hd1
        obtain ⟨b2, rfl⟩ := with_D hd2
        have ck : 0 ≤ (j : Int) ∧ (j : Int) < (m3.dr.length : Nat) := ⟨by omega, by rw [e1]; omega⟩
        have ck2 : 0 ≤ (j : Int) ∧ (j : Int) < (n.dr.length : Nat) := ⟨by omega, by omega⟩
        refine t_Y (b := decide ((j : Int) < (n.dr.length : Int))) 0 (by simpa using hjl) (t_ck ck ?_)
        refine t_load (ty := 31) (p := d1.add (j * 1)) (v := .int .u64 x) (fun u hu _ => d_reads hu.2.2.2.2.1 rfl (by rw [e1]; exact hx)) ?_
        refine t_ck ck2 (t_load (ty := 31) (p := d2.add (j * 1)) (v := .int .u64 x) (fun u hu _ => d_reads hu.1 rfl hx) ?_)
        have hw1 : IntKind.i64.wrap ((j : Int) + 1) = ((j + 1 : Nat) : Int) := by have := hk.dl; rw [wrap_i64 (by omega) (by omega)]; push_cast; rfl
        exact t_N (b := (x != x)) 0 (by simp) (t_end (jkL 9 3) (fun _ => jkB n m0 m1 m2 m3 m4 { b2 with D := some d2 } a0 a1 a2 { b1 with D := some d1 } a4 m3 { b1 with D := some d1 }) (fun _ => kpK n m0 m1 m2 m3 m4 { b2 with D := some d2 } a0 a1 a2 { b1 with D := some d1 } a4) (fun y => n.dr.length - y.j) (⟨j, j, hj, rfl⟩ : Jk n.dr.length) (⟨IntKind.i64.wrap ((j : Int) + 1), j + 1, hjl, hw1⟩ : Jk n.dr.length) (by show n.dr.length - (j + 1) < n.dr.length - j; omega) fun _ hu _ => hu)
      refine t_N (b := decide ((j : Int) < (n.dr.length : Int))) 0 (by simpa using hjl) ?_
      refine t_loop rfl (⟨0, 0, Nat.zero_le _, rfl⟩ : Jk n.mi.length) (jkL 10 3) (fun _ => jkB n m0 m1 m2 m3 m4 a a0 a1 a2 a3 a4 m3 a3) 400 (fun _ => kpK n m0 m1 m2 m3 m4 a a0 a1 a2 a3 a4) (fun y => n.mi.length - y.j) (fun _ => st_kp _ _ _ _ _ _ _ _ _ _ _ _) (fun _ hu _ => hu) ?_
      rintro ⟨k1, j, hj, rfl⟩ f
      by_cases hjl : j < n.mi.length
      · obtain ⟨x, hx⟩ : ∃ x, n.mi[j]? = some x := ⟨n.mi[j], List.getElem?_eq_getElem hjl⟩
        obtain ⟨d1, hd1⟩ := some_at q3.2 (e2.symm ▸ hjl)
        obtain ⟨d2, hd2⟩ := some_at qa.2 hjl
        obtain ⟨b1, rfl⟩ := with_M hd1
        obtain ⟨b2, rfl⟩ := with_M hd2
        have ck : 0 ≤ (j : Int) ∧ (j : Int) < (m3.mi.length : Nat) := ⟨by omega, by rw [e2]; omega⟩
        have ck2 : 0 ≤ (j : Int) ∧ (j : Int) < (n.mi.length : Nat) := ⟨by omega, by omega⟩
        refine t_Y (b := decide ((j : Int) < (n.mi.length : Int))) 0 (by simpa using hjl) (t_ck ck ?_)
        refine t_load (ty := 68) (p := d1.add (j * 3)) (v := mnV x) (fun u hu _ => m_reads hu.2.2.2.2.1 rfl (by rw [e2]; exact hx)) ?_
        refine t_ck ck2 (t_load (ty := 68) (p := d2.add (j * 3)) (v := mnV x) (fun u hu _ => m_reads hu.1 rfl hx) ?_)
        have hw1 : IntKind.i64.wrap ((j : Int) + 1) = ((j + 1 : Nat) : Int) := by have := hk.ml; rw [wrap_i64 (by omega) (by omega)]; push_cast; rfl
        refine t_sem (do Go.eqGuard .neq 68 (.tmp 108) (.tmp 113) (mnV x) (mnV x); Go.binOp .neq 68 (mnV x) (mnV x)) (v := .bool (!(eqM x x))) (fun u _ _ => neq_mn _ _ x x u) ?_
        exact t_N (b := !(eqM x x)) 0 (by rw [eqM_iff.2 rfl]; rfl) (t_end (jkL 10 3) (fun _ => jkB n m0 m1 m2 m3 m4 { b2 with M := some d2 } a0 a1 a2 { b1 with M := some d1 } a4 m3 { b1 with M := some d1 }) (fun _ => kpK n m0 m1 m2 m3 m4 { b2 with M := some d2 } a0 a1 a2 { b1 with M := some d1 } a4) (fun y => n.mi.length - y.j) (⟨j, j, hj, rfl⟩ : Jk n.mi.length) (⟨IntKind.i64.wrap ((j : Int) + 1), j + 1, hjl, hw1⟩ : Jk n.mi.length) (by show n.mi.length - (j + 1) < n.mi.length - j; omega) fun _ hu _ => hu)
      exact t_N (b := decide ((j : Int) < (n.mi.length : Int))) 0 (by simpa using hjl) (t_end kpL (fun _ => kpB n m0 m1 m2 m3 m4 a a0 a1 a2 a3 a4) (fun _ => kpK n m0 m1 m2 m3 m4 a a0 a1 a2 a3 a4) (fun y => 5 - y.i) (⟨3, hi⟩ : Kp) (⟨4, by omega⟩ : Kp) (by show 5 - 4 < 5 - 3; omega) fun _ hu _ => hu)
    · obtain ⟨e0, e1, e2⟩ := s4
      refine t_lit 1 (t_ck (p := (0 : Int) ≤ ((4 : Nat) : Int) ∧ ((4 : Nat) : Int) < ((5 : Nat) : Int)) (by decide) ?_)
      refine t_Y (b := !(m4.id != n.id)) 6 (by simp [e0]) (t_Y (b := !((m4.dr.length : Int) != (n.dr.length : Int))) 6 (by simp [e1]) (t_N (b := !((m4.mi.length : Int) == (n.mi.length : Int))) 0 (by simp [e2]) ?_))
      refine t_loop rfl (⟨0, 0, Nat.zero_le _, rfl⟩ : Jk n.dr.length) (jkL 9 4) (fun _ => jkB n m0 m1 m2 m3 m4 a a0 a1 a2 a3 a4 m4 a4) 300 (fun _ => kpK n m0 m1 m2 m3 m4 a a0 a1 a2 a3 a4) (fun y => n.dr.length - y.j) (fun _ => st_kp _ _ _ _ _ _ _ _ _ _ _ _) (fun _ hu _ => hu) ?_
      rintro ⟨k1, j, hj, rfl⟩ f
      by_cases hjl : j < n.dr.length
      · obtain ⟨x, hx⟩ : ∃ x, n.dr[j]? = some x := ⟨n.dr[j], List.getElem?_eq_getElem hjl⟩
        obtain ⟨d1, hd1⟩ := some_at q4.1 (e1.symm ▸ hjl)
        obtain ⟨d2, hd2⟩ := some_at qa.1 hjl
        obtain ⟨b1, rfl⟩ := with_D hd1
        obtain ⟨b2, rfl⟩ := with_D hd2
        have ck : 0 ≤ (j : Int) ∧ (j : Int) < (m4.dr.length : Nat) := ⟨by omega, by rw [e1]; omega⟩
        have ck2 : 0 ≤ (j : Int) ∧ (j : Int) < (n.dr.length : Nat) := ⟨by omega, by omega⟩
        refine t_Y (b := decide ((j : Int) < (n.dr.length : Int))) 0 (by simpa using hjl) (t_ck ck ?_)
        refine t_load (ty := 31) (p := d1.add (j * 1)) (v := .int .u64 x) (fun u hu _ => d_reads hu.2.2.2.2.2 rfl (by rw [e1]; exact hx)) ?_
        refine t_ck ck2 (t_load (ty := 31) (p := d2.add (j * 1)) (v := .int .u64 x) (fun u hu _ => d_reads hu.1 rfl hx) ?_)
        have hw1 : IntKind.i64.wrap ((j : Int) + 1) = ((j + 1 : Nat) : Int) := by have := hk.dl; rw [wrap_i64 (by omega) (by omega)]; push_cast; rfl
        exact t_N (b := (x != x)) 0 (by simp) (t_end (jkL 9 4) (fun _ => jkB n m0 m1 m2 m3 m4 { b2 with D := some d2 } a0 a1 a2 a3 { b1 with D := some d1 } m4 { b1 with D := some d1 }) (fun _ => kpK n m0 m1 m2 m3 m4 { b2 with D := some d2 } a0 a1 a2 a3 { b1 with D := some d1 }) (fun y => n.dr.length - y.j) (⟨j, j, hj, rfl⟩ : Jk n.dr.length) (⟨IntKind.i64.wrap ((j : Int) + 1), j + 1, hjl, hw1⟩ : Jk n.dr.length) (by show n.dr.length - (j + 1) < n.dr.length - j; omega) fun _ hu _ => hu)
      refine t_N (b := decide ((j : Int) < (n.dr.length : Int))) 0 (by simpa using hjl) ?_
      refine t_loop rfl (⟨0, 0, Nat.zero_le _, rfl⟩ : Jk n.mi.length) (jkL 10 4) (fun _ => jkB n m0 m1 m2 m3 m4 a a0 a1 a2 a3 a4 m4 a4) 400 (fun _ => kpK n m0 m1 m2 m3 m4 a a0 a1 a2 a3 a4) (fun y => n.mi.length - y.j) (fun _ => st_kp _ _ _ _ _ _ _ _ _ _ _ _) (fun _ hu _ => hu) ?_
      rintro ⟨k1, j, hj, rfl⟩ f
      by_cases hjl : j < n.mi.length
      · obtain ⟨x, hx⟩ : ∃ x, n.mi[j]? = some x := ⟨n.mi[j], List.getElem?_eq_getElem hjl⟩
        obtain ⟨d1, hd1⟩ := some_at q4.2 (e2.symm ▸ hjl)
        obtain ⟨d2, hd2⟩ := some_at qa.2 hjl
        obtain ⟨b1, rfl⟩ := with_M hd1
        obtain ⟨b2, rfl⟩ := with_M hd2
        have ck : 0 ≤ (j : Int) ∧ (j : Int) < (m4.mi.length : Nat) := ⟨by omega, by rw [e2]; omega⟩
        have ck2 : 0 ≤ (j : Int) ∧ (j : Int) < (n.mi.length : Nat) := ⟨by omega, by omega⟩
        refine t_Y (b := decide ((j : Int) < (n.mi.length : Int))) 0 (by simpa using hjl) (t_ck ck ?_)
        refine t_load (ty := 68) (p := d1.add (j * 3)) (v := mnV x) (fun u hu _ => m_reads hu.2.2.2.2.2 rfl (by rw [e2]; exact hx)) ?_
        refine t_ck ck2 (t_load (ty := 68) (p := d2.add (j * 3)) (v := mnV x) (fun u hu _ => m_reads hu.1 rfl hx) ?_)
        have hw1 : IntKind.i64.wrap ((j : Int) + 1) = ((j + 1 : Nat) : Int) := by have := hk.ml; rw [wrap_i64 (by omega) (by omega)]; push_cast; rfl
        refine t_sem (do Go.eqGuard .neq 68 (.tmp 108) (.tmp 113) (mnV x) (mnV x); Go.binOp .neq 68 (mnV x) (mnV x)) (v := .bool (!(eqM x x))) (fun u _ _ => neq_mn _ _ x x u) ?_
        exact t_N (b := !(eqM x x)) 0 (by rw [eqM_iff.2 rfl]; rfl) (t_end (jkL 10 4) (fun _ => jkB n m0 m1 m2 m3 m4 { b2 with M := some d2 } a0 a1 a2 a3 { b1 with M := some d1 } m4 { b1 with M := some d1 }) (fun _ => kpK n m0 m1 m2 m3 m4 { b2 with M := some d2 } a0 a1 a2 a3 { b1 with M := some d1 }) (fun y => n.mi.length - y.j) (⟨j, j, hj, rfl⟩ : Jk n.mi.length) (⟨IntKind.i64.wrap ((j : Int) + 1), j + 1, hjl, hw1⟩ : Jk n.mi.length) (by show n.mi.length - (j + 1) < n.mi.length - j; omega) fun _ hu _ => hu)
      exact t_N (b := decide ((j : Int) < (n.mi.length : Int))) 0 (by simpa using hjl) (t_end kpL (fun _ => kpB n m0 m1 m2 m3 m4 a a0 a1 a2 a3 a4) (fun _ => kpK n m0 m1 m2 m3 m4 a a0 a1 a2 a3 a4) (fun y => 5 - y.i) (⟨4, hi⟩ : Kp) (⟨5, by omega⟩ : Kp) (by show 5 - 5 < 5 - 4; omega) fun _ hu _ => hu)
    · exact t_lit 9 (e_r2 (.bool true) rfl)
end
end Go.Proofs.YtbmpdmomagkkmaaGreatDoor
