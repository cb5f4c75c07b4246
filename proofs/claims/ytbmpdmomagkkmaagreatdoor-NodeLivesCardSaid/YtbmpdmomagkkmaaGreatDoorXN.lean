/- Roles that are taken and left; nodes that go down and come up: the laws carried out. -/
import Derived.Test.YtbmpdmomagkkmaaGreatDoorXM
namespace Go.Proofs.YtbmpdmomagkkmaaGreatDoor
open Go.RowKit PX
set_option maxRecDepth 100000
section
variable {w : World}
theorem t_eb {F : Value → S → World → Prop} {K : World → Prop} {t : Tree} {f : FuncId} {args : Array Value} {r : Nod × Int} (hc : ∀ u, K u → Below w.heap.size w u → Calls Tryz.prog f args u (GivesE r u)) (h : ∀ a, OK ⟨Tryz.prog, tyL, w, [], []⟩ F (t.nv (.tuple #[nodV r.1 a, .int .i64 r.2])) fun u => K u ∧ NM u r.1 a) (hd : t.hd = .call (.fn f) args.toList := by kernel_rfl) : OK ⟨Tryz.prog, tyL, w, [], []⟩ F t K :=
  t_call (fun u hu hb => hc u hu (base_below hb)) (fun u e u' hu hb hr => by
    obtain ⟨a, he, h1, h3⟩ := hr
    exact ⟨_, _, he, h3, st_nm _ _, h1, h a⟩) hd
theorem roles_law (b : Int) (A : Option Addr) (kl : Nat) (l : List Evt) (s : Bool) (id : Int) (g : Addr) (w : World) (hc : Cas w b A l) (hg : Glob w g) : Calls Tryz.prog 3 #[.agg #[.int .u8 b, .slice A l.length kl, .bool s], .int .i64 id] w fun e w' => e = .returned (.bool true) ∧ Below w.heap.size w w' := by
  refine run_v ?_
  refine t_vb (args := #[]) (fun u _ hb => alive_any g (hg.up hb)) (t_lit 9 ?_)
  refine t_vb (args := #[.slice A l.length kl, .int .i64 60]) (v := .bool (greatEv l)) (fun u _ hb => xgreat A kl 60 (hc.he.up hb) (by decide)) ?_
  cases hgr : greatEv l with
  | true => exact t_lit 9 (e_r2 (.bool true) rfl)
  | false =>
    have hk := case_ok hc hgr s
    have hs := case_sok b l s
    have hx := xcase kl s hc hgr
    generalize caseN b l s = n at *
    refine t_lit 9 (t_call (args := #[.agg #[.int .u8 b, .slice A l.length kl, .bool s]]) (fun u _ hb => hx u (base_below hb)) ?_)
    rintro u e u' _ _ ⟨a, rfl, hn, hb⟩
    refine ⟨_, fun u => NM u n a, rfl, hb, st_nm _ _, hn, ?_⟩
    have o1 := out_promote (n := n) id
    have o2 := out_demote (n := n) id
    have o3 := out_discard (n := n) id
    have k1 := hk.promote id
    have k2 := hk.demote id
    have k3 := hk.discard id
    refine t_n (args := #[nodV n a, .int .i64 id]) (fun u hu => wpromote hk (by omega) hs.s0 hs.s4 id hu.2) fun a1 A1 c1 => ?_
    refine t_n (args := #[nodV n a, .int .i64 id]) (fun u hu => xpromote hk (by omega) id hu.1.2) fun a2 A2 c2 => ?_
    refine t_n (args := #[nodV n a, .int .i64 id]) (fun u hu => wdemote hk (by omega) id hu.1.1.2) fun a3 A3 c3 => ?_
    refine t_n (args := #[nodV n a, .int .i64 id]) (fun u hu => xdemote hk (by omega) id hu.1.1.1.2) fun a4 A4 c4 => ?_
    refine t_n (args := #[nodV n a, .int .i64 id]) (fun u hu => wdiscard hk (by omega) id hu.1.1.1.1.2) fun a5 A5 c5 => ?_
    refine t_n (args := #[nodV n a, .int .i64 id]) (fun u hu => xdiscard hk (by omega) id hu.1.1.1.1.1.2) fun a6 A6 c6 => ?_
    generalize n.promote id = r1 at *
    generalize n.demote id = r2 at *
    generalize n.discard id = r3 at *
    refine t_v (args := #[nodV r1.1 a1, nodV r1.1 a2]) (fun u hu => k1.xs k1 hu.1.1.1.1.1.2.1 hu.1.1.1.1.2.1 true (by simp)) ?_
    refine t_lit 30 (t_v (args := #[.slice A1 r1.2.length c1, .slice A2 r1.2.length c2]) (fun u hu => xouts A1 c1 A2 c2 hu.1.1.1.1.1.2.2.1 hu.1.1.1.1.2.2.1 (by omega) true (by simp)) ?_)
    refine t_lit 30 (t_v (args := #[nodV r2.1 a3, nodV r2.1 a4]) (fun u hu => k2.xs k2 hu.1.1.1.2.1 hu.1.1.2.1 true (by simp)) ?_)
    refine t_lit 30 (t_v (args := #[.slice A3 r2.2.length c3, .slice A4 r2.2.length c4]) (fun u hu => xouts A3 c3 A4 c4 hu.1.1.1.2.2.1 hu.1.1.2.2.1 (by omega) true (by simp)) ?_)
    refine t_lit 30 (t_v (args := #[nodV r3.1 a5, nodV r3.1 a6]) (fun u hu => k3.xs k3 hu.1.2.1 hu.2.1 true (by simp)) ?_)
    exact t_lit 30 (t_v (args := #[.slice A5 r3.2.length c5, .slice A6 r3.2.length c6]) (fun u hu => xouts A5 c5 A6 c6 hu.1.2.2.1 hu.2.2.1 (by omega) true (by simp)) (t_lit 30 (e_r2 (.bool true) rfl)))
theorem attach_down {N q : Nat} {n : Nod} (h : NOk N q n) (l : List Bool) : n.down.attach l = (Nod.fresh n.id true (att (n.down.revive l) [] 0 false) n.dr n.mi, 0) := by
  obtain ⟨t', hw, hs, hc, hf, he, ha⟩ := kept_again h.down.fine l
  have hx : attE (n.down.revive l) [] false = 0 := by rw [show n.down.revive l = t'.s from hs.symm]; exact he
  unfold Nod.attach
  rw [if_neg (by show ¬ (false = true); decide), if_pos hx]
  rfl
theorem lives_law (b : Int) (A : Option Addr) (kl : Nat) (l : List Evt) (s : Bool) (b2 : Int) (A2 : Option Addr) (kl2 : Nat) (l2 : List Evt) (s2 : Bool) (K : Option Addr) (kc : Nat) (lk : List Bool) (g : Addr) (w : World) (hc : Cas w b A l) (hc2 : Cas w b2 A2 l2) (hk0 : Es Value.bool w w.heap.size K lk) (hg : Glob w g) : Calls Tryz.prog 5 #[.agg #[.int .u8 b, .slice A l.length kl, .bool s], .agg #[.int .u8 b2, .slice A2 l2.length kl2, .bool s2], .slice K lk.length kc] w fun e w' => e = .returned (.bool true) ∧ Below w.heap.size w w' := by
  refine run_v ?_
  refine t_vb (args := #[]) (fun u _ hb => alive_any g (hg.up hb)) (t_lit 9 ?_)
  refine t_vb (args := #[.slice A l.length kl, .int .i64 60]) (v := .bool (greatEv l)) (fun u _ hb => xgreat A kl 60 (hc.he.up hb) (by decide)) ?_
  cases hgr : greatEv l with
  | true => exact t_lit 9 (e_r2 (.bool true) rfl)
  | false =>
  refine t_lit 9 (t_vb (args := #[.slice A2 l2.length kl2, .int .i64 60]) (v := .bool (greatEv l2)) (fun u _ hb => xgreat A2 kl2 60 (hc2.he.up hb) (by decide)) ?_)
  cases hgr2 : greatEv l2 with
  | true => exact t_lit 9 (e_r2 (.bool true) rfl)
  | false =>
  have hk := case_ok hc hgr s
  have hk2 := case_ok hc2 hgr2 s2
  have hs := case_sok b l s
  have hx := xcase kl s hc hgr
  have hx2 := xcase kl2 s2 hc2 hgr2
  generalize caseN b l s = n at *
  generalize caseN b2 l2 s2 = n2 at *
  by_cases h50 : 50 < (lk.length : Int)
  · exact t_lit 3 (t_Y (b := decide (50 < (lk.length : Int))) 9 (decide_eq_true h50) (e_r2 (.bool true) rfl))
  have hlk : lk.length ≤ maxLen := by unfold maxLen; omega
  refine t_lit 3 (t_N (b := decide (50 < (lk.length : Int))) 0 (decide_eq_false h50) ?_)
  refine t_call (args := #[.agg #[.int .u8 b, .slice A l.length kl, .bool s]]) (fun u _ hb => hx u (base_below hb)) ?_
  rintro u e u' _ _ ⟨a, rfl, hn, hb⟩
  refine ⟨_, fun u => NM u n a, rfl, hb, st_nm _ _, hn, ?_⟩
  have ka := hk.attach lk
  have kd := hk.down
  have had := attach_down hk lk
  obtain ⟨bb, hbb⟩ : ∃ bb : Bool, bb = true ↔ n = n2 := by
    by_cases h : n = n2
    · exact ⟨true, by simp [h]⟩
    · exact ⟨false, by simp [h]⟩
  refine t_eb (args := #[nodV n a, .slice K lk.length kc]) (fun u hu hb => wattach hk (by omega) hs.dn g (hg.up hb) K lk kc (hk0.up hb) hlk hu.2) fun a1 => ?_
  refine t_eb (args := #[nodV n a, .slice K lk.length kc]) (fun u hu hb => xattach hk (by omega) K lk kc (hk0.up hb) hlk hu.1.2) fun a2 => ?_
  generalize n.attach lk = r at *
  refine t_v (args := #[nodV r.1 a1, nodV r.1 a2]) (fun u hu => ka.xs ka hu.1.2 hu.2 true (by simp)) ?_
  refine t_lit 3 (t_Y (b := !(r.2 != r.2)) 2 (by simp) ?_)
  refine t_a (args := #[nodV n a]) (fun u hu => wdown2 hu.1.1.2) fun a3 => ?_
  refine t_lit 1 (t_a (args := #[nodV n a]) (fun u hu => ydown n a u hu.1.1.1.2) fun a4 => ?_)
  refine t_lit 9 (t_v (args := #[nodV n.down a3, nodV n.down a4]) (fun u hu => kd.xs kd hu.1.2 hu.2 true (by simp)) ?_)
  refine t_lit 6 (t_call (args := #[.agg #[.int .u8 b2, .slice A2 l2.length kl2, .bool s2]]) (fun u _ hb => hx2 u (base_below hb)) ?_)
  rintro u e u' _ _ ⟨a5, rfl, hn5, hb5⟩
  refine ⟨_, fun u => NM u n2 a5, rfl, hb5, st_nm _ _, hn5, ?_⟩
  refine t_lit 9 (t_v (args := #[nodV n a, nodV n2 a5]) (fun u hu => hk.ws hk2 hu.1.1.1.1.1.2 hu.2 bb hbb) ?_)
  refine t_lit 1 (t_call (args := #[.agg #[.int .u8 b2, .slice A2 l2.length kl2, .bool s2]]) (fun u _ hb => hx2 u (base_below hb)) ?_)
  rintro u e u' _ _ ⟨a6, rfl, hn6, hb6⟩
  refine ⟨_, fun u => NM u n2 a6, rfl, hb6, st_nm _ _, hn6, ?_⟩
  refine t_lit 9 (t_v (args := #[nodV n a, nodV n2 a6]) (fun u hu => hk.xs hk2 hu.1.1.1.1.1.1.2 hu.2 bb hbb) ?_)
  refine t_lit 1 (t_N (b := !(bb == bb)) 0 (by simp) ?_)
  refine t_a (args := #[nodV n a]) (fun u hu => wdown2 hu.1.1.1.1.1.1.2) fun a7 => ?_
  refine t_eb (r := (Nod.fresh n.id true (att (n.down.revive lk) [] 0 false) n.dr n.mi, 0)) (args := #[nodV n.down a7, .slice K lk.length kc]) (fun u hu hb => by rw [← had]; exact wattach kd (by omega) (SOk.down n).dn g (hg.up hb) K lk kc (hk0.up hb) hlk hu.2) fun a8 => ?_
  generalize att (n.down.revive lk) [] 0 false = t2 at *
  exact t_lit 30 (e_r2 (.bool (decide (n.id = n.id))) (by simp))
end
end Go.Proofs.YtbmpdmomagkkmaaGreatDoor
