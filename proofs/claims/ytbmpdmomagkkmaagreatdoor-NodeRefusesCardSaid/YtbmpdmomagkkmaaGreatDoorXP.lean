/- Who is replied an error is as it was: the law carried out. -/
import Derived.Test.YtbmpdmomagkkmaaGreatDoorXN
namespace Go.Proofs.YtbmpdmomagkkmaaGreatDoor
open Go.RowKit PX
set_option maxRecDepth 100000
section
variable {w : World}
def P2 (n m : Nod) : Prop := m.pri = true → n.pri = true ∨ (n.t.b.i = false ∧ n.t.b.d = false ∧ m.t.b.r = true)
inductive Out4 (n : Nod) : Nod × List Ou → Prop
  | err (a id e : Int) (he : ¬ e = 0) : Out4 n (n, [⟨2, a, id, e, e1⟩])
  | none (m : Nod) (hm : P2 n m) : Out4 n (m, [])
  | send (m : Nod) (a : Int) (x : ByteArray) (hm : P2 n m) : Out4 n (m, [⟨1, a, 0, 0, x⟩])
  | ok (m : Nod) (a id : Int) (x : ByteArray) (hm : P2 n m) : Out4 n (m, [⟨2, a, id, 0, x⟩])
  | two (m : Nod) (a : Int) (x : ByteArray) (a2 id : Int) (hm : P2 n m) : Out4 n (m, [⟨1, a, 0, 0, x⟩, ⟨2, a2, id, 0, e1⟩])
theorem p2_self (n : Nod) : P2 n n := fun h => .inl h
theorem p2_off {n m : Nod} (h : m.pri = false) : P2 n m := fun e => by rw [h] at e; cases e
theorem commit_p2 (n : Nod) (b : Sup) : P2 n (n.commit b).1 := by
  unfold Nod.commit Nod.keep
  split
  · exact fun h => .inl h
  · exact p2_off rfl
theorem commit_b {n : Nod} {b : Sup} (h : (n.commit b).2 = true) : (n.commit b).1.t.b = b := by
  unfold Nod.commit Nod.keep at h ⊢
  split
  · next he =>
    show (n.t.commit b).1.b = b
    unfold Sto.commit at he ⊢
    split
    · next hq => exact (Sup.same_iff.1 hq).symm
    · next hq =>
      rw [if_neg hq] at he
      unfold Sto.on
      rw [if_pos he]
  · next he =>
    rw [if_neg he] at h
    cases h
theorem take_yes {n : Nod} {p : Bool} (h : (n.commit { n.t.b with r := p }).2 = true) : n.take p = ({ (n.commit { n.t.b with r := p }).1 with pri := p }, true) := by unfold Nod.take; simp [h]
theorem take_no {n : Nod} {p : Bool} (h : (n.commit { n.t.b with r := p }).2 = false) : n.take p = ((n.commit { n.t.b with r := p }).1, false) := by unfold Nod.take; simp [h]
theorem promote_out (n : Nod) (id : Int) (h0 : 0 ≤ n.st) (h4 : n.st ≤ 4) : Out4 n (n.promote id) := by
  rw [promote_is h0 h4]
  split
  · next hm =>
    have hid : n.t.b.i = false ∧ n.t.b.d = false := by
      unfold Nod.mayP at hm
      cases hi : n.t.b.i <;> cases hd : n.t.b.d <;> simp [hi, hd] at hm ⊢
      all_goals (revert hm; repeat' split) 
      all_goals simp
    split
    · cases hc : (n.commit { n.t.b with r := true }).2 with
      | true =>
        rw [take_yes hc, if_pos rfl]
        exact .ok _ _ _ _ fun _ => .inr ⟨hid.1, hid.2, by show (n.commit { n.t.b with r := true }).1.t.b.r = true; rw [commit_b hc]⟩
      | false =>
        rw [take_no hc, if_neg (show ¬ (false = true) by decide)]
        exact .none _ (commit_p2 _ _)
    · exact .send _ _ _ fun h => .inl h
  · next hm => exact .err _ _ _ hm
theorem demote_out (n : Nod) (id : Int) : Out4 n (n.demote id) := by
  rw [demote_is]
  split
  · cases hc : (n.commit { n.t.b with r := false }).2 with
    | true =>
      rw [take_yes hc, if_pos rfl]
      split
      · exact .two _ _ _ _ _ (p2_off rfl)
      · exact .ok _ _ _ _ (p2_off rfl)
    | false =>
      rw [take_no hc, if_neg (show ¬ (false = true) by decide)]
      exact .none _ (commit_p2 _ _)
  · next hm => exact .err _ _ _ hm
theorem discard_out (n : Nod) (id : Int) : Out4 n (n.discard id) := by
  rw [discard_is]
  split
  · cases hc : (n.commit { n.t.b with d := true }).2 with
    | true => exact .ok _ _ _ _ (commit_p2 _ _)
    | false => exact .none _ (commit_p2 _ _)
  · next hm => exact .err _ _ _ hm
theorem read_out (n : Nod) (id i : Int) : (∃ a e, ¬ e = 0 ∧ n.read id i = (n, [⟨2, a, id, e, e1⟩])) ∨ (n.pri = true ∧ ∃ a x, n.read id i = (n, [⟨2, a, id, 0, x⟩])) := by
  rw [read_is]
  by_cases hm : n.mayR = 0
  · rw [if_pos hm, if_pos hm]
    have hp : n.pri = true := by
      unfold Nod.mayR at hm
      cases hp : n.pri with
      | true => rfl
      | false => cases hu : n.up <;> simp [hp, hu] at hm
    by_cases he : (n.t.read i).2 = 0
    · rw [he]
      exact .inr ⟨hp, _, _, rfl⟩
    · have hd : (n.t.read i).1 = e1 := by
        unfold Sto.read readA at he ⊢
        split
        · split
          · rfl
          · split
            · next h1 h2 h3 => rw [if_pos h1, if_neg h2, if_pos h3] at he; exact absurd rfl he
            · rfl
        · rfl
      rw [hd]
      exact .inl ⟨_, _, he, rfl⟩
  · rw [if_neg hm, if_neg hm]
    exact .inl ⟨_, _, hm, rfl⟩
section
variable {F : Value → S → World → Prop} {K : World → Prop} {t : Tree} {f : FuncId} {args : Array Value}
theorem t_n0 {m : Nod} (hc : ∀ u, K u → Calls Tryz.prog f args u (GivesN (m, []) u)) (h : ∀ a O k, OK ⟨Tryz.prog, tyL, w, [], []⟩ F (t.nv (.tuple #[nodV m a, .slice O 0 k])) fun u => K u ∧ NM u m a) (hd : t.hd = .call (.fn f) args.toList := by kernel_rfl) : OK ⟨Tryz.prog, tyL, w, [], []⟩ F t K :=
  t_call (fun u hu _ => hc u hu) (fun u e u' hu hb hr => by
    obtain ⟨a, O, k, he, h1, h2, h3, h4⟩ := hr
    exact ⟨_, _, he, h3, st_nm _ _, h1, h a O k⟩) hd
theorem t_n2 {m : Nod} {x y : Ou} (hc : ∀ u, K u → Calls Tryz.prog f args u (GivesN (m, [x, y]) u)) (h : ∀ a ad k, OK ⟨Tryz.prog, tyL, w, [], []⟩ F (t.nv (.tuple #[nodV m a, .slice (some ad) 2 k])) fun u => K u ∧ NM u m a ∧ OM u (some ad) k [x, y]) (hd : t.hd = .call (.fn f) args.toList := by kernel_rfl) : OK ⟨Tryz.prog, tyL, w, [], []⟩ F t K :=
  t_call (fun u hu _ => hc u hu) (fun u e' u' hu hb hr => by
    obtain ⟨a, O, k, he, h1, h2, h3, h4⟩ := hr
    obtain ⟨ad, rfl, _⟩ := h2.o 0 x rfl
    exact ⟨_, _, he, h3, (st_nm _ _).and (st_om _ _ _), ⟨h1, h2⟩, h a ad k⟩) hd
end
theorem o_first {u : World} {ad : Addr} {k : Nat} {x : Ou} (h : OM u (some ad) k [x]) : u.cell? ad = some (.int .i64 x.k) := by
  obtain ⟨a, e, _, h0, _⟩ := h.o 0 x rfl
  injection e with e
  subst e
  exact h0
theorem o_second {u : World} {ad : Addr} {k : Nat} {x y : Ou} (h : OM u (some ad) k [x, y]) : u.cell? ⟨ad.block, ad.off + 5, none⟩ = some (.int .i64 y.k) ∧ u.cell? ⟨ad.block, ad.off + 5 + 3, none⟩ = some (.int .i64 y.e) := by
  obtain ⟨a, e, _, h0, h1, h2, h3, h4⟩ := h.o 1 y rfl
  injection e with e
  subst e
  exact ⟨h0, h3⟩
structure Rk where
  i : Nat
  hi : i ≤ 4
def rkL (id bl : Int) (y : Rk) : List (Nat × AV) := [(1, .v (.int .i64 id)), (2, .v (.int .i64 bl)), (7, .lp 9 0), (8, .v (.int .i64 (y.i : Nat)))]
def rkB (n : Nod) (a : Adr) : List (Nat × Blk) := [(9, (47, nodC n a))]
set_option maxHeartbeats 4000000 in
theorem refuses_law (b : Int) (A : Option Addr) (kl : Nat) (l : List Evt) (s : Bool) (id bl : Int) (g : Addr) (w : World) (hc : Cas w b A l) (hg : Glob w g) : Calls Tryz.prog 6 #[.agg #[.int .u8 b, .slice A l.length kl, .bool s], .int .i64 id, .int .i64 bl] w fun e w' => e = .returned (.bool true) ∧ Below w.heap.size w w' := by
  refine run_v ?_
  refine t_vb (args := #[]) (fun u _ hb => alive_any g (hg.up hb)) (t_lit 9 ?_)
  refine t_vb (args := #[.slice A l.length kl, .int .i64 60]) (v := .bool (greatEv l)) (fun u _ hb => xgreat A kl 60 (hc.he.up hb) (by decide)) ?_
  cases hgr : greatEv l with
  | true => exact t_lit 9 (e_r2 (.bool true) rfl)
  | false =>
    have hk := case_ok hc hgr s
    have hs := case_sok b l s
    have hx := xcase kl s hc hgr
    generalize caseN b l s = n at *
    refine t_lit 9 (t_call (args := #[.agg #[.int .u8 b, .slice A l.length kl, .bool s]]) (fun u _ hb => hx u (base_below hb)) ?_)
    rintro u e u' _ _ ⟨a, rfl, hn, hb⟩
    refine ⟨_, fun u => NM u n a, rfl, hb, st_nm _ _, hn, ?_⟩
    refine t_loop rfl (⟨0, by omega⟩ : Rk) (rkL id bl) (fun _ => rkB n a) 200 (fun _ u => NM u n a) (fun y => 4 - y.i) (fun _ => st_nm _ _) (fun u hu _ => hu.2) ?_
    have ck0 : (0 : Int) ≤ 0 ∧ (0 : Int) < ((1 : Nat) : Int) := by decide
    have ck1 : 0 ≤ IntKind.i64.wrap (((1 : Nat) : Int) - 1) ∧ IntKind.i64.wrap (((1 : Nat) : Int) - 1) < ((1 : Nat) : Int) := by decide
    have ck3 : 0 ≤ IntKind.i64.wrap (((2 : Nat) : Int) - 1) ∧ IntKind.i64.wrap (((2 : Nat) : Int) - 1) < ((2 : Nat) : Int) := by decide
    rintro ⟨i, hi⟩ f
    rcases (by omega : i = 0 ∨ i = 1 ∨ i = 2 ∨ i = 3 ∨ i = 4) with rfl | rfl | rfl | rfl | rfl
    · have ho := promote_out n id hs.s0 hs.s4
      have hC := fun u (hu : NM u n a) => wpromote hk (by omega) hs.s0 hs.s4 id hu
      generalize n.promote id = r at *
      cases ho with
      | err o i2 e he =>
        refine t_lit 30 (t_n1 (args := #[nodV n a, .int .i64 id]) rfl (fun u hu => hC u hu) fun a1 A1 k1 => ?_)
        refine t_lit 5 (t_ck ck1 (t_lit 2 (t_load (ty := 3) (p := A1) (v := .int .i64 2) (fun u hu _ => reads1 (by kernel_rfl) (o_first hu.2.2)) ?_)))
        refine t_lit 6 (t_ck ck1 (t_lit 2 (t_load (ty := 58) (p := ⟨A1.block, A1.off + 3, none⟩) (v := .int .i64 e) (fun u hu _ => reads1 (by kernel_rfl) (o_field hu.2.2).2.1) ?_)))
        refine t_lit 1 (t_Y (b := !(e == 0)) 2 (by simpa using he) ?_)
        refine t_v (args := #[nodV n a1, nodV n a]) (fun u hu => hk.xs hk hu.2.1 hu.1 true (by simp)) ?_
        refine t_lit 9 (t_ck ck0 (t_lit 2 (t_load (ty := 9) (p := ⟨A1.block, A1.off + 4, none⟩) (v := .string e1) (fun u hu _ => reads1 (by kernel_rfl) (o_field hu.2.2).2.2) ?_)))
        by_cases hp : n.pri = true
        · exact t_lit 3 (t_Y (b := n.pri) 2 hp (t_N (b := !n.pri) 17 (by simp [hp]) (t_end (rkL id bl) (fun _ => rkB n a) (fun _ u => NM u n a) (fun y => 4 - y.i) (⟨0, hi⟩ : Rk) (⟨1, by omega⟩ : Rk) (by show 4 - 1 < 4 - 0; omega) fun _ hu _ => hu.1)))
        · exact t_lit 3 (t_N (b := n.pri) 20 (bfalse hp) (t_end (rkL id bl) (fun _ => rkB n a) (fun _ u => NM u n a) (fun y => 4 - y.i) (⟨0, hi⟩ : Rk) (⟨1, by omega⟩ : Rk) (by show 4 - 1 < 4 - 0; omega) fun _ hu _ => hu.1))
      | none m hm =>
        refine t_lit 30 (t_n0 (args := #[nodV n a, .int .i64 id]) (fun u hu => hC u hu) fun a1 A1 k1 => ?_)
        by_cases hp : m.pri = true
        rotate_left
        · exact t_lit 25 (t_N (b := m.pri) 20 (bfalse hp) (t_end (rkL id bl) (fun _ => rkB n a) (fun _ u => NM u n a) (fun y => 4 - y.i) (⟨0, hi⟩ : Rk) (⟨1, by omega⟩ : Rk) (by show 4 - 1 < 4 - 0; omega) fun _ hu _ => hu.1))
        refine t_lit 25 (t_Y (b := m.pri) 2 hp ?_)
        by_cases hq : n.pri = true
        · exact t_N (b := !n.pri) 17 (by simp [hq]) (t_end (rkL id bl) (fun _ => rkB n a) (fun _ u => NM u n a) (fun y => 4 - y.i) (⟨0, hi⟩ : Rk) (⟨1, by omega⟩ : Rk) (by show 4 - 1 < 4 - 0; omega) fun _ hu _ => hu.1)
        refine t_Y (b := !n.pri) 4 (by simpa using hq) ?_
        obtain ⟨h1, h2, h3⟩ := (hm hp).resolve_left hq
        exact t_Y (b := !n.t.b.i) 5 (by simp [h1]) (t_Y (b := !n.t.b.d) 5 (by simp [h2]) (t_N (b := !m.t.b.r) 9 (by simp [h3]) (t_end (rkL id bl) (fun _ => rkB n a) (fun _ u => NM u n a) (fun y => 4 - y.i) (⟨0, hi⟩ : Rk) (⟨1, by omega⟩ : Rk) (by show 4 - 1 < 4 - 0; omega) fun _ hu _ => hu.1)))
      | send m o x hm =>
        refine t_lit 30 (t_n1 (args := #[nodV n a, .int .i64 id]) rfl (fun u hu => hC u hu) fun a1 A1 k1 => ?_)
        refine t_lit 5 (t_ck ck1 (t_lit 2 (t_load (ty := 3) (p := A1) (v := .int .i64 1) (fun u hu _ => reads1 (by kernel_rfl) (o_first hu.2.2)) ?_)))
        by_cases hp : m.pri = true
        rotate_left
        · exact t_lit 18 (t_N (b := m.pri) 20 (bfalse hp) (t_end (rkL id bl) (fun _ => rkB n a) (fun _ u => NM u n a) (fun y => 4 - y.i) (⟨0, hi⟩ : Rk) (⟨1, by omega⟩ : Rk) (by show 4 - 1 < 4 - 0; omega) fun _ hu _ => hu.1))
        refine t_lit 18 (t_Y (b := m.pri) 2 hp ?_)
        by_cases hq : n.pri = true
        · exact t_N (b := !n.pri) 17 (by simp [hq]) (t_end (rkL id bl) (fun _ => rkB n a) (fun _ u => NM u n a) (fun y => 4 - y.i) (⟨0, hi⟩ : Rk) (⟨1, by omega⟩ : Rk) (by show 4 - 1 < 4 - 0; omega) fun _ hu _ => hu.1)
        refine t_Y (b := !n.pri) 4 (by simpa using hq) ?_
        obtain ⟨h1, h2, h3⟩ := (hm hp).resolve_left hq
        exact t_Y (b := !n.t.b.i) 5 (by simp [h1]) (t_Y (b := !n.t.b.d) 5 (by simp [h2]) (t_N (b := !m.t.b.r) 9 (by simp [h3]) (t_end (rkL id bl) (fun _ => rkB n a) (fun _ u => NM u n a) (fun y => 4 - y.i) (⟨0, hi⟩ : Rk) (⟨1, by omega⟩ : Rk) (by show 4 - 1 < 4 - 0; omega) fun _ hu _ => hu.1)))
      | ok m o i2 x hm =>
        refine t_lit 30 (t_n1 (args := #[nodV n a, .int .i64 id]) rfl (fun u hu => hC u hu) fun a1 A1 k1 => ?_)
        refine t_lit 5 (t_ck ck1 (t_lit 2 (t_load (ty := 3) (p := A1) (v := .int .i64 2) (fun u hu _ => reads1 (by kernel_rfl) (o_first hu.2.2)) ?_)))
        refine t_lit 6 (t_ck ck1 (t_lit 2 (t_load (ty := 58) (p := ⟨A1.block, A1.off + 3, none⟩) (v := .int .i64 0) (fun u hu _ => reads1 (by kernel_rfl) (o_field hu.2.2).2.1) ?_)))
        by_cases hp : m.pri = true
        rotate_left
        · exact t_lit 10 (t_N (b := m.pri) 20 (bfalse hp) (t_end (rkL id bl) (fun _ => rkB n a) (fun _ u => NM u n a) (fun y => 4 - y.i) (⟨0, hi⟩ : Rk) (⟨1, by omega⟩ : Rk) (by show 4 - 1 < 4 - 0; omega) fun _ hu _ => hu.1))
        refine t_lit 10 (t_Y (b := m.pri) 2 hp ?_)
        by_cases hq : n.pri = true
        · exact t_N (b := !n.pri) 17 (by simp [hq]) (t_end (rkL id bl) (fun _ => rkB n a) (fun _ u => NM u n a) (fun y => 4 - y.i) (⟨0, hi⟩ : Rk) (⟨1, by omega⟩ : Rk) (by show 4 - 1 < 4 - 0; omega) fun _ hu _ => hu.1)
        refine t_Y (b := !n.pri) 4 (by simpa using hq) ?_
        obtain ⟨h1, h2, h3⟩ := (hm hp).resolve_left hq
        exact t_Y (b := !n.t.b.i) 5 (by simp [h1]) (t_Y (b := !n.t.b.d) 5 (by simp [h2]) (t_N (b := !m.t.b.r) 9 (by simp [h3]) (t_end (rkL id bl) (fun _ => rkB n a) (fun _ u => NM u n a) (fun y => 4 - y.i) (⟨0, hi⟩ : Rk) (⟨1, by omega⟩ : Rk) (by show 4 - 1 < 4 - 0; omega) fun _ hu _ => hu.1)))
      | two m o x o2 i2 hm =>
        refine t_lit 30 (t_n2 (args := #[nodV n a, .int .i64 id]) (fun u hu => hC u hu) fun a1 A1 k1 => ?_)
        refine t_lit 5 (t_ck ck3 (t_lit 2 (t_load (ty := 3) (p := ⟨A1.block, A1.off + 5, none⟩) (v := .int .i64 2) (fun u hu _ => reads1 (by kernel_rfl) (o_second hu.2.2).1) ?_)))
        refine t_lit 6 (t_ck ck3 (t_lit 2 (t_load (ty := 58) (p := ⟨A1.block, A1.off + 5 + 3, none⟩) (v := .int .i64 0) (fun u hu _ => reads1 (by kernel_rfl) (o_second hu.2.2).2) ?_)))
        by_cases hp : m.pri = true
        rotate_left
        · exact t_lit 10 (t_N (b := m.pri) 20 (bfalse hp) (t_end (rkL id bl) (fun _ => rkB n a) (fun _ u => NM u n a) (fun y => 4 - y.i) (⟨0, hi⟩ : Rk) (⟨1, by omega⟩ : Rk) (by show 4 - 1 < 4 - 0; omega) fun _ hu _ => hu.1))
        refine t_lit 10 (t_Y (b := m.pri) 2 hp ?_)
        by_cases hq : n.pri = true
        · exact t_N (b := !n.pri) 17 (by simp [hq]) (t_end (rkL id bl) (fun _ => rkB n a) (fun _ u => NM u n a) (fun y => 4 - y.i) (⟨0, hi⟩ : Rk) (⟨1, by omega⟩ : Rk) (by show 4 - 1 < 4 - 0; omega) fun _ hu _ => hu.1)
        refine t_Y (b := !n.pri) 4 (by simpa using hq) ?_
        obtain ⟨h1, h2, h3⟩ := (hm hp).resolve_left hq
        exact t_Y (b := !n.t.b.i) 5 (by simp [h1]) (t_Y (b := !n.t.b.d) 5 (by simp [h2]) (t_N (b := !m.t.b.r) 9 (by simp [h3]) (t_end (rkL id bl) (fun _ => rkB n a) (fun _ u => NM u n a) (fun y => 4 - y.i) (⟨0, hi⟩ : Rk) (⟨1, by omega⟩ : Rk) (by show 4 - 1 < 4 - 0; omega) fun _ hu _ => hu.1)))
    · have ho := demote_out n id
      have hC := fun u (hu : NM u n a) => wdemote hk (by omega) id hu
      generalize n.demote id = r at *
      cases ho with
      | err o i2 e he =>
        refine t_lit 30 (t_n1 (args := #[nodV n a, .int .i64 id]) rfl (fun u hu => hC u hu) fun a1 A1 k1 => ?_)
        refine t_lit 5 (t_ck ck1 (t_lit 2 (t_load (ty := 3) (p := A1) (v := .int .i64 2) (fun u hu _ => reads1 (by kernel_rfl) (o_first hu.2.2)) ?_)))
        refine t_lit 6 (t_ck ck1 (t_lit 2 (t_load (ty := 58) (p := ⟨A1.block, A1.off + 3, none⟩) (v := .int .i64 e) (fun u hu _ => reads1 (by kernel_rfl) (o_field hu.2.2).2.1) ?_)))
        refine t_lit 1 (t_Y (b := !(e == 0)) 2 (by simpa using he) ?_)
        refine t_v (args := #[nodV n a1, nodV n a]) (fun u hu => hk.xs hk hu.2.1 hu.1 true (by simp)) ?_
        refine t_lit 9 (t_ck ck0 (t_lit 2 (t_load (ty := 9) (p := ⟨A1.block, A1.off + 4, none⟩) (v := .string e1) (fun u hu _ => reads1 (by kernel_rfl) (o_field hu.2.2).2.2) ?_)))
        by_cases hp : n.pri = true
        · exact t_lit 3 (t_Y (b := n.pri) 2 hp (t_N (b := !n.pri) 17 (by simp [hp]) (t_end (rkL id bl) (fun _ => rkB n a) (fun _ u => NM u n a) (fun y => 4 - y.i) (⟨1, hi⟩ : Rk) (⟨2, by omega⟩ : Rk) (by show 4 - 2 < 4 - 1; omega) fun _ hu _ => hu.1)))
        · exact t_lit 3 (t_N (b := n.pri) 20 (bfalse hp) (t_end (rkL id bl) (fun _ => rkB n a) (fun _ u => NM u n a) (fun y => 4 - y.i) (⟨1, hi⟩ : Rk) (⟨2, by omega⟩ : Rk) (by show 4 - 2 < 4 - 1; omega) fun _ hu _ => hu.1))
      | none m hm =>
        refine t_lit 30 (t_n0 (args := #[nodV n a, .int .i64 id]) (fun u hu => hC u hu) fun a1 A1 k1 => ?_)
        by_cases hp : m.pri = true
        rotate_left
        · exact t_lit 25 (t_N (b := m.pri) 20 (bfalse hp) (t_end (rkL id bl) (fun _ => rkB n a) (fun _ u => NM u n a) (fun y => 4 - y.i) (⟨1, hi⟩ : Rk) (⟨2, by omega⟩ : Rk) (by show 4 - 2 < 4 - 1; omega) fun _ hu _ => hu.1))
        refine t_lit 25 (t_Y (b := m.pri) 2 hp ?_)
        by_cases hq : n.pri = true
        · exact t_N (b := !n.pri) 17 (by simp [hq]) (t_end (rkL id bl) (fun _ => rkB n a) (fun _ u => NM u n a) (fun y => 4 - y.i) (⟨1, hi⟩ : Rk) (⟨2, by omega⟩ : Rk) (by show 4 - 2 < 4 - 1; omega) fun _ hu _ => hu.1)
        refine t_Y (b := !n.pri) 4 (by simpa using hq) ?_
        obtain ⟨h1, h2, h3⟩ := (hm hp).resolve_left hq
        exact t_Y (b := !n.t.b.i) 5 (by simp [h1]) (t_Y (b := !n.t.b.d) 5 (by simp [h2]) (t_N (b := !m.t.b.r) 9 (by simp [h3]) (t_end (rkL id bl) (fun _ => rkB n a) (fun _ u => NM u n a) (fun y => 4 - y.i) (⟨1, hi⟩ : Rk) (⟨2, by omega⟩ : Rk) (by show 4 - 2 < 4 - 1; omega) fun _ hu _ => hu.1)))
      | send m o x hm =>
        refine t_lit 30 (t_n1 (args := #[nodV n a, .int .i64 id]) rfl (fun u hu => hC u hu) fun a1 A1 k1 => ?_)
        refine t_lit 5 (t_ck ck1 (t_lit 2 (t_load (ty := 3) (p := A1) (v := .int .i64 1) (fun u hu _ => reads1 (by kernel_rfl) (o_first hu.2.2)) ?_)))
        by_cases hp : m.pri = true
        rotate_left
        · exact t_lit 18 (t_N (b := m.pri) 20 (bfalse hp) (t_end (rkL id bl) (fun _ => rkB n a) (fun _ u => NM u n a) (fun y => 4 - y.i) (⟨1, hi⟩ : Rk) (⟨2, by omega⟩ : Rk) (by show 4 - 2 < 4 - 1; omega) fun _ hu _ => hu.1))
        refine t_lit 18 (t_Y (b := m.pri) 2 hp ?_)
        by_cases hq : n.pri = true
        · exact t_N (b := !n.pri) 17 (by simp [hq]) (t_end (rkL id bl) (fun _ => rkB n a) (fun _ u => NM u n a) (fun y => 4 - y.i) (⟨1, hi⟩ : Rk) (⟨2, by omega⟩ : Rk) (by show 4 - 2 < 4 - 1; omega) fun _ hu _ => hu.1)
        refine t_Y (b := !n.pri) 4 (by simpa using hq) ?_
        obtain ⟨h1, h2, h3⟩ := (hm hp).resolve_left hq
        exact t_Y (b := !n.t.b.i) 5 (by simp [h1]) (t_Y (b := !n.t.b.d) 5 (by simp [h2]) (t_N (b := !m.t.b.r) 9 (by simp [h3]) (t_end (rkL id bl) (fun _ => rkB n a) (fun _ u => NM u n a) (fun y => 4 - y.i) (⟨1, hi⟩ : Rk) (⟨2, by omega⟩ : Rk) (by show 4 - 2 < 4 - 1; omega) fun _ hu _ => hu.1)))
      | ok m o i2 x hm =>
        refine t_lit 30 (t_n1 (args := #[nodV n a, .int .i64 id]) rfl (fun u hu => hC u hu) fun a1 A1 k1 => ?_)
        refine t_lit 5 (t_ck ck1 (t_lit 2 (t_load (ty := 3) (p := A1) (v := .int .i64 2) (fun u hu _ => reads1 (by kernel_rfl) (o_first hu.2.2)) ?_)))
        refine t_lit 6 (t_ck ck1 (t_lit 2 (t_load (ty := 58) (p := ⟨A1.block, A1.off + 3, none⟩) (v := .int .i64 0) (fun u hu _ => reads1 (by kernel_rfl) (o_field hu.2.2).2.1) ?_)))
        by_cases hp : m.pri = true
        rotate_left
        · exact t_lit 10 (t_N (b := m.pri) 20 (bfalse hp) (t_end (rkL id bl) (fun _ => rkB n a) (fun _ u => NM u n a) (fun y => 4 - y.i) (⟨1, hi⟩ : Rk) (⟨2, by omega⟩ : Rk) (by show 4 - 2 < 4 - 1; omega) fun _ hu _ => hu.1))
        refine t_lit 10 (t_Y (b := m.pri) 2 hp ?_)
        by_cases hq : n.pri = true
        · exact t_N (b := !n.pri) 17 (by simp [hq]) (t_end (rkL id bl) (fun _ => rkB n a) (fun _ u => NM u n a) (fun y => 4 - y.i) (⟨1, hi⟩ : Rk) (⟨2, by omega⟩ : Rk) (by show 4 - 2 < 4 - 1; omega) fun _ hu _ => hu.1)
        refine t_Y (b := !n.pri) 4 (by simpa using hq) ?_
        obtain ⟨h1, h2, h3⟩ := (hm hp).resolve_left hq
        exact t_Y (b := !n.t.b.i) 5 (by simp [h1]) (t_Y (b := !n.t.b.d) 5 (by simp [h2]) (t_N (b := !m.t.b.r) 9 (by simp [h3]) (t_end (rkL id bl) (fun _ => rkB n a) (fun _ u => NM u n a) (fun y => 4 - y.i) (⟨1, hi⟩ : Rk) (⟨2, by omega⟩ : Rk) (by show 4 - 2 < 4 - 1; omega) fun _ hu _ => hu.1)))
      | two m o x o2 i2 hm =>
        refine t_lit 30 (t_n2 (args := #[nodV n a, .int .i64 id]) (fun u hu => hC u hu) fun a1 A1 k1 => ?_)
        refine t_lit 5 (t_ck ck3 (t_lit 2 (t_load (ty := 3) (p := ⟨A1.block, A1.off + 5, none⟩) (v := .int .i64 2) (fun u hu _ => reads1 (by kernel_rfl) (o_second hu.2.2).1) ?_)))
        refine t_lit 6 (t_ck ck3 (t_lit 2 (t_load (ty := 58) (p := ⟨A1.block, A1.off + 5 + 3, none⟩) (v := .int .i64 0) (fun u hu _ => reads1 (by kernel_rfl) (o_second hu.2.2).2) ?_)))
        by_cases hp : m.pri = true
        rotate_left
        · exact t_lit 10 (t_N (b := m.pri) 20 (bfalse hp) (t_end (rkL id bl) (fun _ => rkB n a) (fun _ u => NM u n a) (fun y => 4 - y.i) (⟨1, hi⟩ : Rk) (⟨2, by omega⟩ : Rk) (by show 4 - 2 < 4 - 1; omega) fun _ hu _ => hu.1))
        refine t_lit 10 (t_Y (b := m.pri) 2 hp ?_)
        by_cases hq : n.pri = true
        · exact t_N (b := !n.pri) 17 (by simp [hq]) (t_end (rkL id bl) (fun _ => rkB n a) (fun _ u => NM u n a) (fun y => 4 - y.i) (⟨1, hi⟩ : Rk) (⟨2, by omega⟩ : Rk) (by show 4 - 2 < 4 - 1; omega) fun _ hu _ => hu.1)
        refine t_Y (b := !n.pri) 4 (by simpa using hq) ?_
        obtain ⟨h1, h2, h3⟩ := (hm hp).resolve_left hq
        exact t_Y (b := !n.t.b.i) 5 (by simp [h1]) (t_Y (b := !n.t.b.d) 5 (by simp [h2]) (t_N (b := !m.t.b.r) 9 (by simp [h3]) (t_end (rkL id bl) (fun _ => rkB n a) (fun _ u => NM u n a) (fun y => 4 - y.i) (⟨1, hi⟩ : Rk) (⟨2, by omega⟩ : Rk) (by show 4 - 2 < 4 - 1; omega) fun _ hu _ => hu.1)))
    · have ho := discard_out n id
      have hC := fun u (hu : NM u n a) => wdiscard hk (by omega) id hu
      generalize n.discard id = r at *
      cases ho with
      | err o i2 e he =>
        refine t_lit 30 (t_n1 (args := #[nodV n a, .int .i64 id]) rfl (fun u hu => hC u hu) fun a1 A1 k1 => ?_)
        refine t_lit 5 (t_ck ck1 (t_lit 2 (t_load (ty := 3) (p := A1) (v := .int .i64 2) (fun u hu _ => reads1 (by kernel_rfl) (o_first hu.2.2)) ?_)))
        refine t_lit 6 (t_ck ck1 (t_lit 2 (t_load (ty := 58) (p := ⟨A1.block, A1.off + 3, none⟩) (v := .int .i64 e) (fun u hu _ => reads1 (by kernel_rfl) (o_field hu.2.2).2.1) ?_)))
        refine t_lit 1 (t_Y (b := !(e == 0)) 2 (by simpa using he) ?_)
        refine t_v (args := #[nodV n a1, nodV n a]) (fun u hu => hk.xs hk hu.2.1 hu.1 true (by simp)) ?_
        refine t_lit 9 (t_ck ck0 (t_lit 2 (t_load (ty := 9) (p := ⟨A1.block, A1.off + 4, none⟩) (v := .string e1) (fun u hu _ => reads1 (by kernel_rfl) (o_field hu.2.2).2.2) ?_)))
        by_cases hp : n.pri = true
        · exact t_lit 3 (t_Y (b := n.pri) 2 hp (t_N (b := !n.pri) 17 (by simp [hp]) (t_end (rkL id bl) (fun _ => rkB n a) (fun _ u => NM u n a) (fun y => 4 - y.i) (⟨2, hi⟩ : Rk) (⟨3, by omega⟩ : Rk) (by show 4 - 3 < 4 - 2; omega) fun _ hu _ => hu.1)))
        · exact t_lit 3 (t_N (b := n.pri) 20 (bfalse hp) (t_end (rkL id bl) (fun _ => rkB n a) (fun _ u => NM u n a) (fun y => 4 - y.i) (⟨2, hi⟩ : Rk) (⟨3, by omega⟩ : Rk) (by show 4 - 3 < 4 - 2; omega) fun _ hu _ => hu.1))
      | none m hm =>
        refine t_lit 30 (t_n0 (args := #[nodV n a, .int .i64 id]) (fun u hu => hC u hu) fun a1 A1 k1 => ?_)
        by_cases hp : m.pri = true
        rotate_left
        · exact t_lit 25 (t_N (b := m.pri) 20 (bfalse hp) (t_end (rkL id bl) (fun _ => rkB n a) (fun _ u => NM u n a) (fun y => 4 - y.i) (⟨2, hi⟩ : Rk) (⟨3, by omega⟩ : Rk) (by show 4 - 3 < 4 - 2; omega) fun _ hu _ => hu.1))
        refine t_lit 25 (t_Y (b := m.pri) 2 hp ?_)
        by_cases hq : n.pri = true
        · exact t_N (b := !n.pri) 17 (by simp [hq]) (t_end (rkL id bl) (fun _ => rkB n a) (fun _ u => NM u n a) (fun y => 4 - y.i) (⟨2, hi⟩ : Rk) (⟨3, by omega⟩ : Rk) (by show 4 - 3 < 4 - 2; omega) fun _ hu _ => hu.1)
        refine t_Y (b := !n.pri) 4 (by simpa using hq) ?_
        obtain ⟨h1, h2, h3⟩ := (hm hp).resolve_left hq
        exact t_Y (b := !n.t.b.i) 5 (by simp [h1]) (t_Y (b := !n.t.b.d) 5 (by simp [h2]) (t_N (b := !m.t.b.r) 9 (by simp [h3]) (t_end (rkL id bl) (fun _ => rkB n a) (fun _ u => NM u n a) (fun y => 4 - y.i) (⟨2, hi⟩ : Rk) (⟨3, by omega⟩ : Rk) (by show 4 - 3 < 4 - 2; omega) fun _ hu _ => hu.1)))
      | send m o x hm =>
        refine t_lit 30 (t_n1 (args := #[nodV n a, .int .i64 id]) rfl (fun u hu => hC u hu) fun a1 A1 k1 => ?_)
        refine t_lit 5 (t_ck ck1 (t_lit 2 (t_load (ty := 3) (p := A1) (v := .int .i64 1) (fun u hu _ => reads1 (by kernel_rfl) (o_first hu.2.2)) ?_)))
        by_cases hp : m.pri = true
        rotate_left
        · exact t_lit 18 (t_N (b := m.pri) 20 (bfalse hp) (t_end (rkL id bl) (fun _ => rkB n a) (fun _ u => NM u n a) (fun y => 4 - y.i) (⟨2, hi⟩ : Rk) (⟨3, by omega⟩ : Rk) (by show 4 - 3 < 4 - 2; omega) fun _ hu _ => hu.1))
        refine t_lit 18 (t_Y (b := m.pri) 2 hp ?_)
        by_cases hq : n.pri = true
        · exact t_N (b := !n.pri) 17 (by simp [hq]) (t_end (rkL id bl) (fun _ => rkB n a) (fun _ u => NM u n a) (fun y => 4 - y.i) (⟨2, hi⟩ : Rk) (⟨3, by omega⟩ : Rk) (by show 4 - 3 < 4 - 2; omega) fun _ hu _ => hu.1)
        refine t_Y (b := !n.pri) 4 (by simpa using hq) ?_
        obtain ⟨h1, h2, h3⟩ := (hm hp).resolve_left hq
        exact t_Y (b := !n.t.b.i) 5 (by simp [h1]) (t_Y (b := !n.t.b.d) 5 (by simp [h2]) (t_N (b := !m.t.b.r) 9 (by simp [h3]) (t_end (rkL id bl) (fun _ => rkB n a) (fun _ u => NM u n a) (fun y => 4 - y.i) (⟨2, hi⟩ : Rk) (⟨3, by omega⟩ : Rk) (by show 4 - 3 < 4 - 2; omega) fun _ hu _ => hu.1)))
      | ok m o i2 x hm =>
        refine t_lit 30 (t_n1 (args := #[nodV n a, .int .i64 id]) rfl (fun u hu => hC u hu) fun a1 A1 k1 => ?_)
        refine t_lit 5 (t_ck ck1 (t_lit 2 (t_load (ty := 3) (p := A1) (v := .int .i64 2) (fun u hu _ => reads1 (by kernel_rfl) (o_first hu.2.2)) ?_)))
        refine t_lit 6 (t_ck ck1 (t_lit 2 (t_load (ty := 58) (p := ⟨A1.block, A1.off + 3, none⟩) (v := .int .i64 0) (fun u hu _ => reads1 (by kernel_rfl) (o_field hu.2.2).2.1) ?_)))
        by_cases hp : m.pri = true
        rotate_left
        · exact t_lit 10 (t_N (b := m.pri) 20 (bfalse hp) (t_end (rkL id bl) (fun _ => rkB n a) (fun _ u => NM u n a) (fun y => 4 - y.i) (⟨2, hi⟩ : Rk) (⟨3, by omega⟩ : Rk) (by show 4 - 3 < 4 - 2; omega) fun _ hu _ => hu.1))
        refine t_lit 10 (t_Y (b := m.pri) 2 hp ?_)
        by_cases hq : n.pri = true
        · exact t_N (b := !n.pri) 17 (by simp [hq]) (t_end (rkL id bl) (fun _ => rkB n a) (fun _ u => NM u n a) (fun y => 4 - y.i) (⟨2, hi⟩ : Rk) (⟨3, by omega⟩ : Rk) (by show 4 - 3 < 4 - 2; omega) fun _ hu _ => hu.1)
        refine t_Y (b := !n.pri) 4 (by simpa using hq) ?_
        obtain ⟨h1, h2, h3⟩ := (hm hp).resolve_left hq
        exact t_Y (b := !n.t.b.i) 5 (by simp [h1]) (t_Y (b := !n.t.b.d) 5 (by simp [h2]) (t_N (b := !m.t.b.r) 9 (by simp [h3]) (t_end (rkL id bl) (fun _ => rkB n a) (fun _ u => NM u n a) (fun y => 4 - y.i) (⟨2, hi⟩ : Rk) (⟨3, by omega⟩ : Rk) (by show 4 - 3 < 4 - 2; omega) fun _ hu _ => hu.1)))
      | two m o x o2 i2 hm =>
        refine t_lit 30 (t_n2 (args := #[nodV n a, .int .i64 id]) (fun u hu => hC u hu) fun a1 A1 k1 => ?_)
        refine t_lit 5 (t_ck ck3 (t_lit 2 (t_load (ty := 3) (p := ⟨A1.block, A1.off + 5, none⟩) (v := .int .i64 2) (fun u hu _ => reads1 (by kernel_rfl) (o_second hu.2.2).1) ?_)))
        refine t_lit 6 (t_ck ck3 (t_lit 2 (t_load (ty := 58) (p := ⟨A1.block, A1.off + 5 + 3, none⟩) (v := .int .i64 0) (fun u hu _ => reads1 (by kernel_rfl) (o_second hu.2.2).2) ?_)))
        by_cases hp : m.pri = true
        rotate_left
        · exact t_lit 10 (t_N (b := m.pri) 20 (bfalse hp) (t_end (rkL id bl) (fun _ => rkB n a) (fun _ u => NM u n a) (fun y => 4 - y.i) (⟨2, hi⟩ : Rk) (⟨3, by omega⟩ : Rk) (by show 4 - 3 < 4 - 2; omega) fun _ hu _ => hu.1))
        refine t_lit 10 (t_Y (b := m.pri) 2 hp ?_)
        by_cases hq : n.pri = true
        · exact t_N (b := !n.pri) 17 (by simp [hq]) (t_end (rkL id bl) (fun _ => rkB n a) (fun _ u => NM u n a) (fun y => 4 - y.i) (⟨2, hi⟩ : Rk) (⟨3, by omega⟩ : Rk) (by show 4 - 3 < 4 - 2; omega) fun _ hu _ => hu.1)
        refine t_Y (b := !n.pri) 4 (by simpa using hq) ?_
        obtain ⟨h1, h2, h3⟩ := (hm hp).resolve_left hq
        exact t_Y (b := !n.t.b.i) 5 (by simp [h1]) (t_Y (b := !n.t.b.d) 5 (by simp [h2]) (t_N (b := !m.t.b.r) 9 (by simp [h3]) (t_end (rkL id bl) (fun _ => rkB n a) (fun _ u => NM u n a) (fun y => 4 - y.i) (⟨2, hi⟩ : Rk) (⟨3, by omega⟩ : Rk) (by show 4 - 3 < 4 - 2; omega) fun _ hu _ => hu.1)))
    · have hC := fun u (hu : NM u n a) => wread hk (by omega) id bl hu
      rcases read_out n id bl with ⟨o, e, he, hr⟩ | ⟨hp, o, x, hr⟩
      · rw [hr] at hC
        refine t_lit 30 (t_n1 (args := #[nodV n a, .int .i64 id, .int .i64 bl]) rfl (fun u hu => hC u hu) fun a1 A1 k1 => ?_)
        refine t_lit 5 (t_ck ck1 (t_lit 2 (t_load (ty := 3) (p := A1) (v := .int .i64 2) (fun u hu _ => reads1 (by kernel_rfl) (o_first hu.2.2)) ?_)))
        refine t_lit 6 (t_ck ck1 (t_lit 2 (t_load (ty := 58) (p := ⟨A1.block, A1.off + 3, none⟩) (v := .int .i64 e) (fun u hu _ => reads1 (by kernel_rfl) (o_field hu.2.2).2.1) ?_)))
        refine t_lit 1 (t_Y (b := !(e == 0)) 2 (by simpa using he) ?_)
        refine t_v (args := #[nodV n a1, nodV n a]) (fun u hu => hk.xs hk hu.2.1 hu.1 true (by simp)) ?_
        refine t_lit 9 (t_ck ck0 (t_lit 2 (t_load (ty := 9) (p := ⟨A1.block, A1.off + 4, none⟩) (v := .string e1) (fun u hu _ => reads1 (by kernel_rfl) (o_field hu.2.2).2.2) ?_)))
        by_cases hp : n.pri = true
        · exact t_lit 3 (t_Y (b := n.pri) 2 hp (t_N (b := !n.pri) 11 (by simp [hp]) (t_N (b := !n.pri) 9 (by simp [hp]) (t_end (rkL id bl) (fun _ => rkB n a) (fun _ u => NM u n a) (fun y => 4 - y.i) (⟨3, hi⟩ : Rk) (⟨4, by omega⟩ : Rk) (by show 4 - 4 < 4 - 3; omega) fun _ hu _ => hu.1))))
        refine t_lit 3 (t_N (b := n.pri) 14 (bfalse hp) (t_Y (b := !n.pri) 5 (by simpa using hp) (t_ck ck0 (t_lit 2 (t_load (ty := 58) (p := ⟨A1.block, A1.off + 3, none⟩) (v := .int .i64 e) (fun u hu _ => reads1 (by kernel_rfl) (o_field hu.2.2).2.1) ?_)))))
        exact t_lit 2 (t_N (b := decide (e = 0)) 9 (by simpa using he) (t_end (rkL id bl) (fun _ => rkB n a) (fun _ u => NM u n a) (fun y => 4 - y.i) (⟨3, hi⟩ : Rk) (⟨4, by omega⟩ : Rk) (by show 4 - 4 < 4 - 3; omega) fun _ hu _ => hu.1))
      · rw [hr] at hC
        refine t_lit 30 (t_n1 (args := #[nodV n a, .int .i64 id, .int .i64 bl]) rfl (fun u hu => hC u hu) fun a1 A1 k1 => ?_)
        refine t_lit 5 (t_ck ck1 (t_lit 2 (t_load (ty := 3) (p := A1) (v := .int .i64 2) (fun u hu _ => reads1 (by kernel_rfl) (o_first hu.2.2)) ?_)))
        refine t_lit 6 (t_ck ck1 (t_lit 2 (t_load (ty := 58) (p := ⟨A1.block, A1.off + 3, none⟩) (v := .int .i64 0) (fun u hu _ => reads1 (by kernel_rfl) (o_field hu.2.2).2.1) ?_)))
        exact t_lit 10 (t_Y (b := n.pri) 2 hp (t_N (b := !n.pri) 11 (by simp [hp]) (t_N (b := !n.pri) 9 (by simp [hp]) (t_end (rkL id bl) (fun _ => rkB n a) (fun _ u => NM u n a) (fun y => 4 - y.i) (⟨3, hi⟩ : Rk) (⟨4, by omega⟩ : Rk) (by show 4 - 4 < 4 - 3; omega) fun _ hu _ => hu.1))))
    · exact t_lit 9 (e_r2 (.bool true) rfl)
end
end Go.Proofs.YtbmpdmomagkkmaaGreatDoor
