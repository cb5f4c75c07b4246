/- Two that meet, plainly: with no fuse lit, one gives and the other one takes the same blocks, or both are linked, or both close. -/
import Derived.Test.YtabenngcmpjlhaaGreatDoorPE
import Derived.Test.YtabenngcmpjlhaaGreatDoorGX
import Derived.Test.YtabenngcmpjlhaaGreatDoorXQ
import Derived.Test.YtabenngcmpjlhaaGreatDoorRF
namespace Go.Proofs.YtabenngcmpjlhaaGreatDoor
open Go.RowKit PX
set_option maxRecDepth 100000
section
variable {w : World}
theorem xside19 (b : Int) (A : Option Addr) (k : Nat) (l : List Evt) (s : Bool) (w : World) : Calls Tryz.prog 69 #[.agg #[.int .u8 b, .slice A l.length k, .bool s]] w fun e w' => e = .returned (.int .i64 (if s = true then 1 else 0)) ∧ Below w.heap.size w w' := by
  refine run_v ?_
  cases s
  · exact t_lit 9 (e_r2 (.int .i64 0) rfl)
  · exact t_lit 9 (e_r2 (.int .i64 1) rfl)
def Nod.idle (n : Nod) : Bool := n.up && decide (n.st = 0)
def GivesI (n : Nod) (w : World) (e : Ending) (w' : World) : Prop := ∃ a, e = .returned (.tuple #[nodV n a, .bool n.idle]) ∧ NM w' n a ∧ Below w.heap.size w w'
theorem e_c {n : Nod} (a : Adr) {t : Tree} {K : World → Prop} (x : Value) (hx : x = .tuple #[nodV n a, .bool n.idle]) (hk : ∀ u, K u → NM u n a) (hd : t.hd = .ret x := by kernel_rfl) : OK ⟨Tryz.prog, tyL, w, [], []⟩ (fun x _ u => GivesI n w (.returned x) u) t K :=
  t_ret x (fun u hu hb _ => ⟨a, by rw [hx], hk u hu, base_below hb⟩) hd
theorem xnode19 {b : Int} (h0 : 0 ≤ b) (h1 : b < 256) (A : Option Addr) (l : List Evt) (kl : Nat) (s : Bool) (hl : l.length ≤ 60) (hw : ∀ v ∈ l, v.wide ∧ (v.d.size : Int) ≤ 3000) (he : Evs w A l) : Calls Tryz.prog 33 #[.agg #[.int .u8 b, .slice A l.length kl, .bool s]] w (GivesI ((reachC (blks b) l).nd (if s = true then 1 else 0)) w) := by
  refine run (K := fun _ => True) (st_p _) trivial ?_
  refine t_call (args := #[.int .u8 b, .slice A l.length kl]) (fun u _ hb => xreach h0 h1 A l kl hl hw (he.up (base_below hb))) ?_
  rintro u e u' _ _ ⟨x, rfl, hc, hb⟩
  refine ⟨_, fun u => CM u (reachC (blks b) l) x, rfl, hb, st_cm _ _, hc, ?_⟩
  have hS := fun u => xside19 b A kl l s u
  generalize reachC (blks b) l = c at *
  cases s with
  | false =>
    have e : c.nd (if false = true then 1 else 0) = c.a := rfl
    rw [e]
    refine t_v (fun u _ => hS u) ?_
    by_cases hu : c.a.up = true
    · exact t_Y (b := c.a.up) 9 hu (e_c x.a (.tuple #[nodV c.a x.a, .bool (decide (c.a.st = 0))]) (by unfold Nod.idle; rw [hu]; rfl) fun _ h => h.2.a)
    · exact t_N (b := c.a.up) 9 (by simpa using hu) (e_c x.a (.tuple #[nodV c.a x.a, .bool false]) (by unfold Nod.idle; rw [bfalse hu]; rfl) fun _ h => h.2.a)
  | true =>
    have e : c.nd (if true = true then 1 else 0) = c.b := rfl
    rw [e]
    refine t_v (fun u _ => hS u) ?_
    by_cases hu : c.b.up = true
    · exact t_Y (b := c.b.up) 9 hu (e_c x.b (.tuple #[nodV c.b x.b, .bool (decide (c.b.st = 0))]) (by unfold Nod.idle; rw [hu]; rfl) fun _ h => h.2.b)
    · exact t_N (b := c.b.up) 9 (by simpa using hu) (e_c x.b (.tuple #[nodV c.b x.b, .bool false]) (by unfold Nod.idle; rw [bfalse hu]; rfl) fun _ h => h.2.b)
theorem xcase19 {b : Int} {A : Option Addr} {l : List Evt} (kl : Nat) (s : Bool) (h : Cas w b A l) (hg : greatEv l = false) (u : World) (hb : Below w.heap.size w u) : Calls Tryz.prog 33 #[.agg #[.int .u8 b, .slice A l.length kl, .bool s]] u (GivesI (caseN b l s) u) :=
  xnode19 h.h0 h.h1 A l kl s (small hg).1 (fun v hv => ⟨h.hw v hv, (small hg).2 v hv⟩) (h.he.up hb)
section
variable {N q : Nat} {n : Nod} {a : Adr}
theorem yown19 (n : Nod) (a : Adr) (w : World) : Calls Tryz.prog 40 #[nodV n a] w fun e w' => e = .returned (helV n.own) ∧ Below w.heap.size w w' :=
  run_v (t_v (fun u _ => yown n a u) e_r)
theorem xBegin19 (h : NOk N q n) (hu : n.up = true) {s : Int} (hs : B64 s) (hn : NM w n a) : Calls Tryz.prog 35 #[nodV n a, .int .u64 s] w (GivesN (n.begins s) w) := run (st_nm n a) hn (e_t fun u hu' => xbegins h hu hs hu')
theorem xMet19 (h : NOk N q n) (hq : q ≤ 880) (hu : n.up = true) {p : Hel} (hw : p.wide) (hp : Meets p) (hn : NM w n a) : Calls Tryz.prog 38 #[nodV n a, helV p] w (GivesN (n.met p) w) := run (st_nm n a) hn (e_t fun u hu' => xmet h hq hu hw hp hu')
end
def tx : ByteArray := ⟨#[97, 98, 99, 100, 101, 102, 103, 104]⟩
def evg (k n : Int) : Evt := ⟨k, n, 0, 0, e1, 0, []⟩
def LG : List Evt := [evg 1 0, ⟨13, 0, 0, 0, e1, 9, []⟩, ⟨5, 0, 1, 1, tx, 0, []⟩]
theorem lg_ok : ∀ v ∈ LG, (v.wide ∧ (v.d.size : Int) ≤ 3000) ∧ v.keeps = [] := by
  intro v hv
  simp only [LG, List.mem_cons, List.not_mem_nil, or_false] at hv
  rcases hv with rfl | rfl | rfl <;> exact ⟨⟨⟨by decide, by decide⟩, by decide⟩, rfl⟩
def cG : Clu := reachC (blks 1) []
def cW : Clu := reachC (blks 1) LG
def gx : Nod := (cG.a.begins 4).1
def gy : Nod := (cG.b.begins 4).1
def gu : Nod := (cW.a.begins 4).1
def gv : Nod := (cW.b.begins 4).1
def ox : Ou := (cG.a.begins 4).2.headD ⟨0, 0, 0, 0, e1⟩
def oy : Ou := (cG.b.begins 4).2.headD ⟨0, 0, 0, 0, e1⟩
def gp : Nod := (gx.met gy.own).1
def gq : Nod := (gy.met gx.own).1
def gs : Nod := (gu.met gv.own).1
def gt : Nod := (gv.met gu.own).1
def ot : Ou := (gv.met gu.own).2.headD ⟨0, 0, 0, 0, e1⟩
def hz : Hel := ⟨2, 77, 0, 0, 0, false, false, false, false, 0⟩
theorem g0 : cG.a.begins 4 = (gx, [ox]) := Prod.ext rfl (by kernel_rfl)
theorem g1 : cG.b.begins 4 = (gy, [oy]) := Prod.ext rfl (by kernel_rfl)
theorem g2 : gx.met gy.own = (gp, []) := Prod.ext rfl (by kernel_rfl)
theorem g3 : gy.met gx.own = (gq, []) := Prod.ext rfl (by kernel_rfl)
theorem g4 : gu.met gv.own = (gs, []) := Prod.ext rfl (by kernel_rfl)
theorem g5 : gv.met gu.own = (gt, [ot]) := Prod.ext rfl (by kernel_rfl)
theorem g6 : gx.met hz = (gx, [⟨3, 0, 0, 0, e1⟩]) := by kernel_rfl
theorem kG : COk 2 300 cG := (COk.play [] (new_ok (by decide) (by decide)) fun v hv => by simp at hv).mono (by decide)
theorem kW : COk 2 300 cW := (COk.play LG (new_ok (by decide) (by decide)) fun v hv => (lg_ok v hv).1.1).mono (by decide)
end
end Go.Proofs.YtabenngcmpjlhaaGreatDoor
namespace Go.Proofs.YtabenngcmpjlhaaGreatDoor
open Go.RowKit PX
set_option maxRecDepth 100000
section
variable {w : World}
theorem ko {n : Nod} (h : NOk 2 300 n) (hu : n.up = true) : Meets n.own ∧ n.own.wide := ⟨own_meets h hu, own_wide h hu⟩
theorem b64 : B64 4 := ⟨by decide, by decide⟩
theorem kx : NOk 2 300 gx := kG.a.begins b64
theorem ky : NOk 2 300 gy := kG.b.begins b64
theorem ku : NOk 2 300 gu := kW.a.begins b64
theorem kv : NOk 2 300 gv := kW.b.begins b64
theorem gaU : cG.a.up = true := by kernel_rfl
theorem gbU : cG.b.up = true := by kernel_rfl
theorem waU : cW.a.up = true := by kernel_rfl
theorem wbU : cW.b.up = true := by kernel_rfl
theorem t_0B {F : Value → S → World → Prop} {K : World → Prop} {t : Tree} {f : FuncId} {args : Array Value} {m : Nod} {r : Nod × List Ou} (e : r = (m, [])) (hc : ∀ u, K u → Below w.heap.size w u → Calls Tryz.prog f args u (GivesN r u)) (h : ∀ a O k, OK ⟨Tryz.prog, tyE, w, [], []⟩ F (t.nv (.tuple #[nodV m a, .slice O 0 k])) fun u => K u ∧ NM u m a) (hd : t.hd = .call (.fn f) args.toList := by kernel_rfl) : OK ⟨Tryz.prog, tyE, w, [], []⟩ F t K :=
  t_call (fun u hu hb => hc u hu (base_belowE hb)) (fun u e' u' hu hb hr => by
    subst e
    obtain ⟨a, O, k, he, h1, h2, h3, h4⟩ := hr
    exact ⟨_, _, he, h3, stE (st_nm _ _), h1, h a O k⟩) hd
theorem t_1B {F : Value → S → World → Prop} {K : World → Prop} {t : Tree} {f : FuncId} {args : Array Value} {m : Nod} {x : Ou} {r : Nod × List Ou} (e : r = (m, [x])) (hc : ∀ u, K u → Below w.heap.size w u → Calls Tryz.prog f args u (GivesN r u)) (h : ∀ a ad k, OK ⟨Tryz.prog, tyE, w, [], []⟩ F (t.nv (.tuple #[nodV m a, .slice (some ad) 1 k])) fun u => K u ∧ NM u m a ∧ OM u (some ad) k [x]) (hd : t.hd = .call (.fn f) args.toList := by kernel_rfl) : OK ⟨Tryz.prog, tyE, w, [], []⟩ F t K :=
  t_call (fun u hu hb => hc u hu (base_belowE hb)) (fun u e' u' hu hb hr => by
    subst e
    obtain ⟨a, O, k, he, h1, h2, h3, h4⟩ := hr
    obtain ⟨ad, rfl, _⟩ := h2.o 0 x rfl
    exact ⟨_, _, he, h3, (stE (st_nm _ _)).and (stE (st_om _ _ _)), ⟨h1, h2⟩, h a ad k⟩) hd
set_option maxHeartbeats 4000000 in
theorem alive19_any (hT : Tab w) : Calls Tryz.prog 32 #[] w fun e w' => e = .returned (.bool true) ∧ Below w.heap.size w w' := by
  refine run_vE ?_
  refine t_call (args := #[.int .u8 1, .slice none 0 0]) (fun u _ _ => xreach (l := []) (by decide) (by decide) none 0 (by decide) (fun v hv => by simp at hv) (fun j v hj => by simp at hj)) ?_
  rintro u e u' _ _ ⟨c, rfl, hc, hb⟩
  refine ⟨_, fun u => CM u cG c, rfl, hb, stE (st_cm _ _), hc, ?_⟩
  have hTu : ∀ u, Below w.heap.size w u → Tab u := fun u hb => hT.below hb hT.size
  have hT2 : ∀ u, (⟨Tryz.prog, tyE, w, [], []⟩ : Cx).base u → Tab u := fun u hb => hTu u (base_belowE hb)
  have ck0 : (0 : Int) ≤ 0 ∧ (0 : Int) < ((2 : Nat) : Int) := by decide
  have ck1 : (0 : Int) ≤ 1 ∧ (1 : Int) < ((2 : Nat) : Int) := by decide
  refine t_ck ck0 ?_
  refine t_1E (args := #[nodV cG.a c.a, .int .u64 4]) g0 (fun u hu => gbegin kG.a gaU b64 hu.2.a) fun a0 A0 k0 => ?_
  refine t_ck ck1 ?_
  refine t_1E (args := #[nodV cG.b c.b, .int .u64 4]) g1 (fun u hu => gbegin kG.b gbU b64 hu.1.2.b) fun a1 A1 k1 => ?_
  refine t_vE (args := #[nodV gy a1]) (fun u _ _ => yown19 gy a1 u) ?_
  refine t_0B (args := #[nodV gx a0, helV gy.own]) g2 (fun u hu hb => gmet kx (by omega) gaU (.inl rfl) (ko ky gbU).2 (ko ky gbU).1 (hTu u hb) hu.1.2.1) fun a2 O2 k2 => ?_
  refine t_vE (args := #[nodV gx a0]) (fun u _ _ => yown19 gx a0 u) ?_
  refine t_0B (args := #[nodV gy a1, helV gx.own]) g3 (fun u hu hb => gmet ky (by omega) gbU (.inr rfl) (ko kx gaU).2 (ko kx gaU).1 (hTu u hb) hu.1.2.1) fun a3 O3 k3 => ?_
  refine t_lit 40 (t_reachE LG 1 3 _ rfl rfl (by decide) (by decide) (by decide) lg_ok (fun r x => ?_))
  refine t_ck ck0 ?_
  refine t_nE (args := #[nodV cW.a x.a, .int .u64 4]) (r := cW.a.begins 4) (fun u hu => gbegin kW.a waU b64 hu.2.a) fun a4 A4 k4 => ?_
  refine t_ck ck1 ?_
  refine t_nE (args := #[nodV cW.b x.b, .int .u64 4]) (r := cW.b.begins 4) (fun u hu => gbegin kW.b wbU b64 hu.1.2.b) fun a5 A5 k5 => ?_
  refine t_vE (args := #[nodV gv a5]) (fun u _ _ => yown19 gv a5 u) ?_
  refine t_0B (args := #[nodV gu a4, helV gv.own]) g4 (fun u hu hb => gmet ku (by omega) waU (.inl rfl) (ko kv wbU).2 (ko kv wbU).1 (hTu u hb) hu.1.2.1) fun a6 O6 k6 => ?_
  refine t_vE (args := #[nodV gu a4]) (fun u _ _ => yown19 gu a4 u) ?_
  refine t_1B (args := #[nodV gv a5, helV gu.own]) g5 (fun u hu hb => gmet kv (by omega) wbU (.inr rfl) (ko ku waU).2 (ko ku waU).1 (hTu u hb) hu.1.2.1) fun a7 A7 k7 => ?_
  refine t_1B (args := #[nodV gx a0, helV hz]) g6 (fun u hu hb => gmet kx (by omega) gaU (.inl rfl) ⟨by decide, by decide, by decide, by decide, by decide⟩ ⟨by decide, by decide, by decide⟩ (hTu u hb) hu.1.1.1.1.1.1.1.1.1.2.1) fun a8 A8 k8 => ?_
  have ck2 : (0 : Int) ≤ 0 ∧ (0 : Int) < ((1 : Nat) : Int) := by decide
  refine t_lit 40 (t_ck ck2 (t_lit 40 (t_load (ty := 3) (p := A0) (v := .int .i64 1) (fun u hu _ => reads1 (by kernel_rfl) (o_field hu.1.1.1.1.1.1.1.1.1.1.2.2 rfl).1) ?_)))
  refine t_lit 40 (t_ck ck2 (t_lit 40 (t_load (ty := 3) (p := ⟨A1.block, A1.off + 1, none⟩) (v := .int .i64 1) (fun u hu _ => reads1 (by kernel_rfl) (o_field hu.1.1.1.1.1.1.1.1.1.2.2 rfl).2.1) ?_)))
  refine t_lit 40 (t_ck ck2 (t_lit 40 (t_load (ty := 91) (p := A8) (v := ouV ⟨3, 0, 0, 0, e1⟩) (fun u hu _ => o_reads hu.2.2) ?_)))
  refine t_lit 40 (t_sem (do Go.eqGuard .eql 91 (.tmp 1) (.tmp 1) (ouV ⟨3, 0, 0, 0, e1⟩) (ouV ⟨3, 0, 0, 0, e1⟩); Go.binOp .eql 91 (ouV ⟨3, 0, 0, 0, e1⟩) (ouV ⟨3, 0, 0, 0, e1⟩)) (v := .bool true) (fun u _ _ => by rw [eql_ouS, eqO_iff.2 rfl]) ?_)
  exact t_lit 60 (e_r2E (.bool true) rfl)
end
end Go.Proofs.YtabenngcmpjlhaaGreatDoor
namespace Go.Proofs.YtabenngcmpjlhaaGreatDoor
open Go.RowKit PX
set_option maxRecDepth 100000
section
variable {w : World}
theorem t_nC {F : Value → S → World → Prop} {K : World → Prop} {t : Tree} {f : FuncId} {args : Array Value} {r : Nod × List Ou} (hc : ∀ u, K u → Below w.heap.size w u → Calls Tryz.prog f args u (GivesN r u)) (h : ∀ a O k, OK ⟨Tryz.prog, tyL, w, [], []⟩ F (t.nv (.tuple #[nodV r.1 a, .slice O r.2.length k])) fun u => K u ∧ (NM u r.1 a ∧ OM u O k r.2)) (hd : t.hd = .call (.fn f) args.toList := by kernel_rfl) : OK ⟨Tryz.prog, tyL, w, [], []⟩ F t K :=
  t_call (fun u hu hb => hc u hu (base_below hb)) (fun u e u' hu hb hr => by
    obtain ⟨a, O, k, he, h1, h2, h3, h4⟩ := hr
    exact ⟨_, _, he, h3, (st_nm _ _).and (st_om _ _ _), ⟨h1, h2⟩, h a O k⟩) hd
theorem right_meets {h : Hel} (hw : h.wide) (hr : h.right = true) : Meets h := ⟨(Hel.right_n hr).2.2, hw.2.2.2.2, (Hel.right_n hr).1, (Hel.right_n hr).2.1⟩
theorem idle_is {n : Nod} (h : n.idle = true) : n.up = true ∧ n.st = 0 := by
  unfold Nod.idle at h
  simpa using h
theorem case_id {b : Int} {A : Option Addr} {l : List Evt} (h : Cas w b A l) (s : Bool) : (caseN b l s).id = 0 ∨ (caseN b l s).id = 1 := by
  have e := (case_ps h s).2.id
  cases s
  · exact .inl e
  · exact .inr e
theorem begins_law (b : Int) (A : Option Addr) (kl : Nat) (l : List Evt) (s : Bool) (g : Int) (w : World) (hc : Cas w b A l) (hT : Tab w) (hg : 0 ≤ g ∧ g < 18446744073709551616) : Calls Tryz.prog 6 #[.agg #[.int .u8 b, .slice A l.length kl, .bool s], .int .u64 g] w fun e w' => e = .returned (.bool true) ∧ Below w.heap.size w w' := by
  refine run_v ?_
  have hTu : ∀ u, Below w.heap.size w u → Tab u := fun u hb => hT.below hb hT.size
  refine t_vb (args := #[]) (fun u _ hb => alive19_any (hTu u hb)) (t_lit 9 ?_)
  refine t_vb (args := #[.slice A l.length kl, .int .i64 60]) (v := .bool (greatEv l)) (fun u _ hb => xgreat A kl 60 (hc.he.up hb) (by decide)) ?_
  cases hgr : greatEv l with
  | true => exact t_lit 9 (e_r2 (.bool true) rfl)
  | false =>
  have hk := case_ok hc hgr s
  have hx := xcase19 kl s hc hgr
  generalize caseN b l s = n at *
  refine t_lit 9 (t_call (args := #[.agg #[.int .u8 b, .slice A l.length kl, .bool s]]) (fun u _ hb => hx u (base_below hb)) ?_)
  rintro u e u' _ _ ⟨a, rfl, hn, hb⟩
  refine ⟨_, fun u => NM u n a, rfl, hb, st_nm _ _, hn, ?_⟩
  by_cases hi : n.idle = true
  rotate_left
  · exact t_Y (b := !n.idle) 30 (by simpa using hi) (e_r2 (.bool true) rfl)
  refine t_N (b := !n.idle) 0 (by simpa using hi) ?_
  obtain ⟨hu, _⟩ := idle_is hi
  have k1 := hk.begins hg
  have o1 : (n.begins g).2.length ≤ 3 := by unfold Nod.begins; simp
  refine t_nC (args := #[nodV n a, .int .u64 g]) (fun u hu' hb => gbegin hk hu hg hu'.2) fun a1 O1 c1 => ?_
  refine t_nC (args := #[nodV n a, .int .u64 g]) (fun u hu' hb => xBegin19 hk hu hg hu'.1.2) fun a2 O2 c2 => ?_
  generalize n.begins g = r1 at *
  refine t_v (args := #[nodV r1.1 a1, nodV r1.1 a2]) (fun u hu => k1.xs k1 hu.1.2.1 hu.2.1 true (by simp)) ?_
  refine t_lit 30 (t_v (args := #[.slice O1 r1.2.length c1, .slice O2 r1.2.length c2]) (fun u hu => xouts O1 c1 O2 c2 hu.1.2.2 hu.2.2 (by omega) true (by simp)) ?_)
  exact t_lit 30 (e_r2 (.bool true) rfl)
theorem meets_law (b : Int) (A : Option Addr) (kl : Nat) (l : List Evt) (s : Bool) (h : Hel) (g : Int) (w : World) (hc : Cas w b A l) (hT : Tab w) (hh : h.wide) (hg : 0 ≤ g ∧ g < 18446744073709551616) : Calls Tryz.prog 7 #[.agg #[.int .u8 b, .slice A l.length kl, .bool s], helV h, .int .u64 g] w fun e w' => e = .returned (.bool true) ∧ Below w.heap.size w w' := by
  refine run_v ?_
  have hTu : ∀ u, Below w.heap.size w u → Tab u := fun u hb => hT.below hb hT.size
  refine t_vb (args := #[]) (fun u _ hb => alive19_any (hTu u hb)) (t_lit 9 ?_)
  refine t_vb (args := #[.slice A l.length kl, .int .i64 60]) (v := .bool (greatEv l)) (fun u _ hb => xgreat A kl 60 (hc.he.up hb) (by decide)) ?_
  cases hgr : greatEv l with
  | true => exact t_lit 9 (e_r2 (.bool true) rfl)
  | false =>
  refine t_lit 9 (t_v (args := #[helV h]) (fun u _ => rhright_any h u hh.2.2.2.2) (t_lit 1 ?_))
  by_cases hr : h.right = true
  rotate_left
  · exact t_Y (b := !h.right) 30 (by simpa using hr) (e_r2 (.bool true) rfl)
  refine t_N (b := !h.right) 0 (by simpa using hr) ?_
  have hk := case_ok hc hgr s
  have hx := xcase19 kl s hc hgr
  have hid := case_id hc s
  generalize caseN b l s = n at *
  refine t_lit 9 (t_call (args := #[.agg #[.int .u8 b, .slice A l.length kl, .bool s]]) (fun u _ hb => hx u (base_below hb)) ?_)
  rintro u e u' _ _ ⟨a, rfl, hn, hb⟩
  refine ⟨_, fun u => NM u n a, rfl, hb, st_nm _ _, hn, ?_⟩
  by_cases hi : n.idle = true
  rotate_left
  · exact t_Y (b := !n.idle) 30 (by simpa using hi) (e_r2 (.bool true) rfl)
  refine t_N (b := !n.idle) 0 (by simpa using hi) ?_
  obtain ⟨hu, _⟩ := idle_is hi
  have k1 := hk.begins hg
  have u1 : (n.begins g).1.up = true := hu
  have i1 : (n.begins g).1.id = 0 ∨ (n.begins g).1.id = 1 := hid
  refine t_nC (args := #[nodV n a, .int .u64 g]) (fun u hu' hb => xBegin19 hk hu hg hu'.2) fun a1 O1 c1 => ?_
  generalize n.begins g = r1 at *
  obtain ⟨m, ro⟩ := r1
  obtain ⟨r2, hr2⟩ : ∃ r, r = m.met h := ⟨_, rfl⟩
  have k2 : NOk (blks b) (300 + 3) r2.1 := by rw [hr2]; exact k1.met u1 hh
  have o2 : r2.2.length ≤ 3 := by rw [hr2]; exact out_met (n := m) h
  refine t_nC (r := r2) (args := #[nodV m a1, helV h]) (fun u hu' hb => by rw [hr2]; exact gmet k1 (by omega) u1 i1 hh (right_meets hh hr) (hTu u hb) hu'.2.1) fun a2 O2 c2 => ?_
  refine t_nC (r := r2) (args := #[nodV m a1, helV h]) (fun u hu' hb => by rw [hr2]; exact xMet19 k1 (by omega) u1 hh (right_meets hh hr) hu'.1.2.1) fun a3 O3 c3 => ?_
  refine t_v (args := #[nodV r2.1 a2, nodV r2.1 a3]) (fun u hu => k2.xs k2 hu.1.2.1 hu.2.1 true (by simp)) ?_
  refine t_lit 30 (t_v (args := #[.slice O2 r2.2.length c2, .slice O3 r2.2.length c3]) (fun u hu => xouts O2 c2 O3 c3 hu.1.2.2 hu.2.2 (by omega) true (by simp)) ?_)
  exact t_lit 30 (e_r2 (.bool true) rfl)
end
end Go.Proofs.YtabenngcmpjlhaaGreatDoor
namespace Go.Proofs.YtabenngcmpjlhaaGreatDoor
open Go.RowKit PX
set_option maxRecDepth 100000
section
variable {w : World}
theorem t_1L {F : Value → S → World → Prop} {K : World → Prop} {t : Tree} {f : FuncId} {args : Array Value} {m : Nod} {x : Ou} {r : Nod × List Ou} (e : r = (m, [x])) (hc : ∀ u, K u → Below w.heap.size w u → Calls Tryz.prog f args u (GivesN r u)) (h : ∀ a ad k, OK ⟨Tryz.prog, tyL, w, [], []⟩ F (t.nv (.tuple #[nodV m a, .slice (some ad) 1 k])) fun u => K u ∧ NM u m a ∧ OM u (some ad) k [x]) (hd : t.hd = .call (.fn f) args.toList := by kernel_rfl) : OK ⟨Tryz.prog, tyL, w, [], []⟩ F t K :=
  t_call (fun u hu hb => hc u hu (base_below hb)) (fun u e' u' hu hb hr => by
    subst e
    obtain ⟨a, O, k, he, h1, h2, h3, h4⟩ := hr
    obtain ⟨ad, rfl, _⟩ := h2.o 0 x rfl
    exact ⟨_, _, he, h3, (st_nm _ _).and (st_om _ _ _), ⟨h1, h2⟩, h a ad k⟩) hd
theorem own_right {N q : Nat} {n : Nod} (h : NOk N q n) (hu : n.up = true) (hi : n.pri = true → n.t.b.i = false) : n.own.right = true := by
  have hl := h.live hu
  have hc := (own_meets h hu).c
  have hm : mrightB n.own.m n.own.n = true := by
    show mrightB n.t.m n.t.b.n = true
    rw [hl.bn]; exact hl.mr
  unfold Hel.right
  rw [hm]
  have e : (n.own.q && (n.own.r || n.own.i)) = false := by
    show (n.pri && ((n.t.b.r && !n.pri) || n.t.b.i)) = false
    cases hp : n.pri with
    | false => rfl
    | true => rw [hi hp]; cases n.t.b.r <;> rfl
  rw [e]
  simp [hc]
def Nod.say (n : Nod) (g : Int) : Pkt := ⟨1, g, n.own, 0, e1⟩
theorem say_right {n : Nod} {g : Int} (h : n.own.right = true) : (n.say g).right = true := by
  unfold Pkt.right Nod.say
  rw [h]
  rfl
theorem say_wide {n : Nod} {g : Int} (h : n.own.wide) (hg : B64 g) : (n.say g).wide := by
  exact ⟨hg, h⟩
theorem say_read {n : Nod} {g : Int} (hr : n.own.right = true) (hw : n.own.wide) (hg : B64 g) : readP (n.say g).encT g = (n.say g, 0) := by
  unfold readP
  rw [decP_encT (say_wide hw hg) (say_right hr)]
  show (if (0 : Int) = 0 then (if g = g then (n.say g, (0 : Int)) else _) else _) = _
  rw [if_pos rfl, if_pos rfl]
theorem same_law (b : Int) (A : Option Addr) (kl : Nat) (l : List Evt) (s : Bool) (g : Int) (w : World) (hc : Cas w b A l) (hT : Tab w) (hg : 0 ≤ g ∧ g < 18446744073709551616) : Calls Tryz.prog 9 #[.agg #[.int .u8 b, .slice A l.length kl, .bool s], .int .u64 g] w fun e w' => e = .returned (.bool true) ∧ Below w.heap.size w w' := by
  refine run_v ?_
  have hTu : ∀ u, Below w.heap.size w u → Tab u := fun u hb => hT.below hb hT.size
  refine t_vb (args := #[]) (fun u _ hb => alive19_any (hTu u hb)) (t_lit 9 ?_)
  refine t_vb (args := #[.slice A l.length kl, .int .i64 60]) (v := .bool (greatEv l)) (fun u _ hb => xgreat A kl 60 (hc.he.up hb) (by decide)) ?_
  cases hgr : greatEv l with
  | true => exact t_lit 9 (e_r2 (.bool true) rfl)
  | false =>
  have hk := case_ok hc hgr s
  have hx := xcase19 kl s hc hgr
  have hpi := (case_ps hc s).2.pi
  generalize caseN b l s = n at *
  refine t_lit 9 (t_call (args := #[.agg #[.int .u8 b, .slice A l.length kl, .bool s]]) (fun u _ hb => hx u (base_below hb)) ?_)
  rintro u e u' _ _ ⟨a, rfl, hn, hb⟩
  refine ⟨_, fun u => NM u n a, rfl, hb, st_nm _ _, hn, ?_⟩
  by_cases hi : n.idle = true
  rotate_left
  · exact t_Y (b := !n.idle) 30 (by simpa using hi) (e_r2 (.bool true) rfl)
  refine t_N (b := !n.idle) 0 (by simpa using hi) ?_
  obtain ⟨hu, _⟩ := idle_is hi
  have hr := own_right hk hu hpi
  have hw := own_wide hk hu
  have hrd := say_read hr hw hg
  have hsz : (((n.say g).encT).size : Int) ≤ 3000 := by have := encT_small (n.say g); omega
  obtain ⟨T, hTd⟩ : ∃ T, T = (n.say g).encT := ⟨_, rfl⟩
  rw [← hTd] at hrd hsz
  refine t_1L (args := #[nodV n a, .int .u64 g]) (m := { n with st := 1, ses := g, mint := false }) (x := ⟨1, n.id, 0, 0, T⟩) (by rw [hTd]; rfl) (fun u hu' hb => gbegin hk hu hg hu'.2) fun a1 A1 c1 => ?_
  have ck2 : (0 : Int) ≤ 0 ∧ (0 : Int) < ((1 : Nat) : Int) := by decide
  refine t_lit 9 (t_ck ck2 (t_lit 9 (t_load (ty := 3) (p := A1) (v := .int .i64 1) (fun u hu _ => reads1 (by kernel_rfl) (o_field hu.2.2 rfl).1) ?_)))
  refine t_lit 9 (t_ck ck2 (t_lit 9 (t_load (ty := 3) (p := ⟨A1.block, A1.off + 1, none⟩) (v := .int .i64 n.id) (fun u hu _ => reads1 (by kernel_rfl) (o_field hu.2.2 rfl).2.1) ?_)))
  refine t_lit 3 (t_N (b := n.id != n.id) 9 (by simp) ?_)
  refine t_ck ck2 (t_lit 9 (t_load (ty := 9) (p := ⟨A1.block, A1.off + 4, none⟩) (v := .string T) (fun u hu _ => reads1 (by kernel_rfl) (o_field hu.2.2 rfl).2.2.2.2) ?_))
  refine t_lit 9 (t_v (args := #[.string T, .int .u64 g]) (v := .tuple #[pktV (n.say g), .int .i64 0]) (fun u _ => by have := rpread_any T g u hsz; rw [hrd] at this; exact this) ?_)
  refine t_lit 9 (t_v (args := #[nodV n a]) (fun u _ => yown19 n a u) ?_)
  refine t_lit 9 (t_sem (do Go.eqGuard .eql 41 (.tmp 1) (.tmp 1) (helV n.own) (helV n.own); Go.binOp .eql 41 (helV n.own) (helV n.own)) (v := .bool true) (fun u _ _ => by rw [eql_helS, eqH_self]) ?_)
  refine t_lit 9 (t_v (args := #[nodV n a1, nodV n a]) (fun u hu => hk.xs hk hu.2.1.like hu.1.2 true (by simp)) ?_)
  exact t_lit 7 (t_Y (b := decide (g = g)) 9 (by simp) (e_r2 (.bool true) rfl))
end
end Go.Proofs.YtabenngcmpjlhaaGreatDoor
namespace Go.Proofs.YtabenngcmpjlhaaGreatDoor
open Go.RowKit PX
set_option maxRecDepth 100000
theorem kind_1 {s t : Hel} (h : kindI s t = 1) : plH s t.c = 0 ∧ s.m = 0 ∧ t.m = 0 ∧ t.i = false ∧ t.d = false := by
  revert h
  unfold kindI byPlace
  cases t.q <;> cases t.i <;> cases s.d <;> cases t.d <;> simp
  all_goals
    repeat' split
    all_goals simp_all
theorem dec_1 (x y : Hel) (hx : x.c ≠ 0) (hy : y.c ≠ 0) (h : decK x y = 1) : x.c = y.c ∧ x.m = 0 ∧ y.m = 0 ∧ x.i = false ∧ y.i = false ∧ x.d = false ∧ y.d = false := by
  rcases src_turn x y with ⟨_, h1 | h1 | h1⟩ | ⟨h1, _⟩
  · rw [(dec_none h1).1] at h; omega
  all_goals
    first
      | (obtain ⟨a, _⟩ := dec_first h1
         rw [a] at h
         obtain ⟨k0, k1, k2, k3, k4⟩ := kind_1 h
         obtain ⟨_, g2, g3⟩ := src_first h1
         refine ⟨(place_zero x.c x.b x.o x.p y.c hy).1 k0, k1, k2, g2, k3, ?_, k4⟩
         rcases g3 with g3 | g3
         · rw [k3] at g3; simp at g3
         · exact g3)
      | (obtain ⟨a, _⟩ := dec_second h1
         rw [a] at h
         obtain ⟨k0, k1, k2, k3, k4⟩ := kind_1 h
         obtain ⟨_, g2, g3⟩ := src_second h1
         refine ⟨((place_zero y.c y.b y.o y.p x.c hx).1 k0).symm, k2, k1, k3, g2, k4, ?_⟩
         rcases g3 with g3 | g3
         · rw [k3] at g3; simp at g3
         · exact g3)
section
variable {N : Nat} {t : Sto} {b : Sup}
theorem mright_is {m : Nat} {n : Int} (h : mrightB m n = true) : (1 ≤ n ∧ n ≤ 32) ∧ m < 2 ^ n.toNat := by
  unfold mrightB at h
  simpa using h
theorem mright_of {m : Nat} {n : Int} (h : 1 ≤ n ∧ n ≤ 32) (hm : m < 2 ^ n.toNat) : mrightB m n = true := by
  unfold mrightB
  simp [h, hm]
theorem right_uni {m k : Nat} {n : Int} (h : mrightB m n = true) (hk : mrightB k n = true) : mrightB (m ||| k) n = true :=
  mright_of (mright_is h).1 (Nat.or_lt_two_pow (mright_is h).2 (mright_is hk).2)
theorem right_allB {n : Int} (h : 1 ≤ n ∧ n ≤ 32) : mrightB (allB n) n = true := by
  refine mright_of h ?_
  unfold allB
  rw [if_pos h]
  have : 0 < 2 ^ n.toNat := Nat.two_pow_pos _
  omega
theorem or_allB {m : Nat} {n : Int} (h : mrightB m n = true) : m ||| allB n = allB n := by
  obtain ⟨h1, h2⟩ := mright_is h
  unfold allB
  rw [if_pos h1]
  refine Nat.eq_of_testBit_eq fun j => ?_
  rw [Nat.testBit_or, Nat.testBit_two_pow_sub_one]
  by_cases hj : j < n.toNat
  · simp [hj]
  · rw [Nat.testBit_lt_two_pow (Nat.lt_of_lt_of_le h2 (Nat.pow_le_pow_right (by decide) (by omega)))]
    simp
theorem uni_two (m k : Nat) : uniB [m, k] = m ||| k := by
  unfold uniB
  simp
theorem join_sure (h : Whole N t) (hf : t.f = 0) {k : Nat} (hk : mrightB k (N : Int) = true) : ∃ t', t.join k = (t', 0) ∧ Whole N t' ∧ t'.f = 0 ∧ t'.m = t.m ||| k ∧ t'.b = t.b := by
  unfold Sto.join
  rw [uni_two]
  have hq : mrightB (t.m ||| k) (N : Int) = true := right_uni h.mr hk
  have g := goes_save h (t.m ||| k)
  unfold Sto.save at g ⊢
  by_cases he : t.m ||| k = t.m
  · rw [if_pos he]
    exact ⟨t, rfl, h, hf, he.symm, rfl⟩
  rw [if_neg he] at g ⊢
  have hl := h.fine.len
  have en : ((t.s.length : Int) - 2) = (N : Int) := by rw [hl]; omega
  have e : saveB t.s t.c t.f t.x (t.m ||| k) = ⟨layL t.s (t.c ++ [(1, bytesM (t.m ||| k))]), [], 0, false, 0⟩ := by
    unfold saveB
    rw [en, if_pos hq, h.live, if_neg (by simp), hf]
    rfl
  rw [e] at g ⊢
  exact ⟨_, rfl, g.live rfl, rfl, rfl, rfl⟩
theorem commit_sure (h : Whole N t) (hf : t.f = 0) (hw : b.wide) (hr : b.right = true) (hn : b.n = (N : Int)) : ∃ t', t.commit b = (t', 0) ∧ Whole N t' ∧ t'.f = 0 ∧ t'.m = t.m ∧ t'.b = b := by
  have g := goes_commit h hw
  have hb := @commit_b t b
  unfold Sto.commit at g hb ⊢
  by_cases he : b.same t.b = true
  · rw [if_pos he] at hb ⊢
    exact ⟨t, rfl, h, hf, rfl, hb rfl⟩
  rw [if_neg he] at g ⊢
  have hl := h.fine.len
  have en : ((t.s.length : Int) - 2) = (N : Int) := by rw [hl]; omega
  have e : commitD t.s t.c t.f t.x b = ⟨layL t.s (t.c ++ [(0, b.bytes)]), [], 0, false, 0⟩ := by
    unfold commitD
    rw [en, hn, hr, if_pos (by simp), h.live, if_neg (by simp), hf]
    rfl
  rw [e] at g ⊢
  exact ⟨_, rfl, g.live rfl, rfl, rfl, rfl⟩
end
section
variable {N q : Nat} {n : Nod} {h : Hel}
theorem keep_ok (n : Nod) (t : Sto) : n.keep (t, 0) = ({ n with t := t }, true) := rfl
theorem seek_st (hk : Whole N n.t) (hf : n.t.f = 0) (hp : Sup.wide ⟨n.t.b.n, n.peer.c, n.peer.b, n.peer.o, n.peer.p, false, false, false⟩) (hc : n.peer.c ≠ 0) : n.seek.1.st = n.st ∧ n.seek.1.t.m = n.t.m := by
  unfold Nod.seek
  split
  · exact ⟨rfl, rfl⟩
  split
  · exact ⟨rfl, rfl⟩
  have hr : (Sup.retired ⟨n.t.b.n, n.peer.c, n.peer.b, n.peer.o, n.peer.p, false, false, false⟩).right = true := by
    have hn1 := hk.fine.n1
    have hn2 := hk.fine.n32
    show (decide (1 ≤ n.t.b.n) && decide (n.t.b.n ≤ 32) && !decide (n.peer.c = 0)) = true
    rw [hk.bn]
    simp [hc]
    omega
  obtain ⟨t', e, _, _, hm, _⟩ := commit_sure hk hf (retired_wide hp) hr hk.bn
  have e2 : n.commit (Sup.retired ⟨n.t.b.n, n.peer.c, n.peer.b, n.peer.o, n.peer.p, false, false, false⟩) = ({ n with t := t' }, true) := by
    unfold Nod.commit
    rw [e]
    rfl
  dsimp only
  rw [e2]
  exact ⟨rfl, hm⟩
theorem give_role (hk : NOk N q n) (hu : n.up = true) (hf : n.t.f = 0) (hb : mrightB (n.verB h) (N : Int) = true) (h4 : n.verK h ≠ 4) (h1 : n.verK h ≠ 1) (hs : n.verS h = n.id) : (n.met h).1.st = 3 ∧ (n.met h).1.t.m = n.t.m ||| n.verB h ∧ (n.met h).1.t.b = n.t.b := by
  obtain ⟨t', e, _, _, hm, hbb⟩ := join_sure (hk.live hu) hf hb
  rw [met_is, if_neg h4, if_neg h1, if_pos hs, e, keep_ok]
  exact ⟨rfl, hm, hbb⟩
theorem take_role (hk : NOk N q n) (hu : n.up = true) (hf : n.t.f = 0) (hw : h.wide) (hp : Meets h) (hb : mrightB (n.verB h) (N : Int) = true) (h4 : n.verK h ≠ 4) (h1 : n.verK h ≠ 1) (hs : n.verS h ≠ n.id) : (n.met h).1.st = 4 ∧ (n.met h).1.t.m = n.t.m ||| n.verB h := by
  obtain ⟨t', e, hW, hf2, hm, hbb⟩ := join_sure (hk.live hu) hf hb
  have hbw := hk.bw hu
  have hr := (hk.live hu).br
  have hr2 : Sup.right { n.t.b with i := true, r := false, b := h.c } = true := hr
  obtain ⟨t2, e2, hW2, hf3, hm2, hb2⟩ := commit_sure hW hf2 (b := { n.t.b with i := true, r := false, b := h.c }) ⟨hbw.1, hw.1, hbw.2.2.1, hbw.2.2.2⟩ hr2 (hk.live hu).bn
  rw [met_is, if_neg h4, if_neg h1, if_neg hs]
  unfold Nod.takeC
  rw [e, keep_ok]
  dsimp only
  rw [if_pos rfl]
  unfold Nod.commit
  dsimp only
  rw [e2, keep_ok]
  dsimp only
  rw [if_pos rfl]
  have := seek_st (N := N) (n := { n with t := t2, st := 4, ppri := h.q, peer := h }) hW2 hf3 ⟨hw.1, hw.2.1, hw.2.2.1, hw.2.2.2.1⟩ hp.c
  exact ⟨this.1, this.2.trans (hm2.trans hm)⟩
theorem none_role (hk : NOk N q n) (hu : n.up = true) (hf : n.t.f = 0) (h1 : n.verK h = 1) : ∃ p, n.met h = (p, []) ∧ p.st = 2 ∧ p.t.m = n.t.m ∧ p.t.b.c = n.t.b.c := by
  have hr := (hk.live hu).br
  have hr2 : Sup.right { n.t.b.retired with r := n.pri } = true := hr
  obtain ⟨t2, e2, hW2, hf3, hm2, hb2⟩ := commit_sure (hk.live hu) hf (b := { n.t.b.retired with r := n.pri }) (set_r (retired_wide (hk.bw hu)) n.pri) hr2 (hk.live hu).bn
  rw [met_is, if_neg (by rw [h1]; decide), if_pos h1]
  unfold Nod.commit
  rw [e2, keep_ok]
  dsimp only
  rw [if_pos rfl]
  exact ⟨_, rfl, rfl, hm2, by rw [hb2]; rfl⟩
end
end Go.Proofs.YtabenngcmpjlhaaGreatDoor
