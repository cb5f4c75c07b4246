/- The laws of layer 18 carried out. -/
import Derived.Test.YtabenngcmpjlhaaGreatDoorXQ
import Derived.Test.YtabenngcmpjlhaaGreatDoorPE
import Derived.Test.YtabenngcmpjlhaaGreatDoorWY
import Derived.Test.YtabenngcmpjlhaaGreatDoorWZ
namespace Go.Proofs.YtabenngcmpjlhaaGreatDoor
open Go.RowKit PX
set_option maxRecDepth 100000
section
variable {w : World}
theorem xside18 (b : Int) (A : Option Addr) (k : Nat) (l : List Evt) (s : Bool) (w : World) : Calls Tryz.prog 46 #[.agg #[.int .u8 b, .slice A l.length k, .bool s]] w fun e w' => e = .returned (.int .i64 (if s = true then 1 else 0)) ∧ Below w.heap.size w w' := by
  refine run_v ?_
  cases s
  · exact t_lit 9 (e_r2 (.int .i64 0) rfl)
  · exact t_lit 9 (e_r2 (.int .i64 1) rfl)
theorem xnode18 {b : Int} (h0 : 0 ≤ b) (h1 : b < 256) (A : Option Addr) (l : List Evt) (kl : Nat) (s : Bool) (hl : l.length ≤ 60) (hw : ∀ v ∈ l, v.wide ∧ (v.d.size : Int) ≤ 3000) (he : Evs w A l) : Calls Tryz.prog 12 #[.agg #[.int .u8 b, .slice A l.length kl, .bool s]] w (GivesA ((reachC (blks b) l).nd (if s = true then 1 else 0)) w) := by
  refine run (K := fun _ => True) (st_p _) trivial ?_
  refine t_call (args := #[.int .u8 b, .slice A l.length kl]) (fun u _ hb => xreach h0 h1 A l kl hl hw (he.up (base_below hb))) ?_
  rintro u e u' _ _ ⟨x, rfl, hc, hb⟩
  refine ⟨_, fun u => CM u (reachC (blks b) l) x, rfl, hb, st_cm _ _, hc, ?_⟩
  have hS := fun u => xside18 b A kl l s u
  generalize reachC (blks b) l = c at *
  cases s with
  | false =>
    have e : c.nd (if false = true then 1 else 0) = c.a := rfl
    rw [e]
    exact t_v (fun u _ => hS u) (e_a x.a fun _ h => h.2.a)
  | true =>
    have e : c.nd (if true = true then 1 else 0) = c.b := rfl
    rw [e]
    exact t_v (fun u _ => hS u) (e_a x.b fun _ h => h.2.b)
theorem xcase18 {b : Int} {A : Option Addr} {l : List Evt} (kl : Nat) (s : Bool) (h : Cas w b A l) (hg : greatEv l = false) (u : World) (hb : Below w.heap.size w u) : Calls Tryz.prog 12 #[.agg #[.int .u8 b, .slice A l.length kl, .bool s]] u (GivesA (caseN b l s) u) :=
  xnode18 h.h0 h.h1 A l kl s (small hg).1 (fun v hv => ⟨h.hw v hv, (small hg).2 v hv⟩) (h.he.up hb)
end
end Go.Proofs.YtabenngcmpjlhaaGreatDoor
namespace Go.Proofs.YtabenngcmpjlhaaGreatDoor
open Go.RowKit PX
set_option maxRecDepth 100000
section
variable {w : World}
theorem vec_sem (a b : Operand) (c d o p : Int) (w : World) : (do Go.eqGuard .eql 34 a b (vecV c d o p) (vecV c d o p); Go.binOp .eql 34 (vecV c d o p) (vecV c d o p) : Sem Value).run Tryz.prog w = .ok (.bool true) w := by
  have h := eql_vec4 9998 c d o p c d o p w
  simp [go_sem] at h ⊢
def abc : ByteArray := ⟨#[97, 98, 99, 100, 101, 102, 103, 104]⟩
def zz : ByteArray := ⟨#[122, 122, 122, 122, 122, 122, 122, 122]⟩
def yy : ByteArray := ⟨#[121, 121, 121, 121, 121, 121, 121, 121]⟩
def ev (k n : Int) : Evt := ⟨k, n, 0, 0, e1, 0, []⟩
def L3 : List Evt := [ev 1 0, ⟨13, 0, 0, 0, e1, 9, []⟩, ⟨5, 0, 1, 1, abc, 0, []⟩, ev 6 0, ev 6 1, ev 9 0, ev 9 1]
theorem l3_ok : ∀ v ∈ L3, (v.wide ∧ (v.d.size : Int) ≤ 3000) ∧ v.keeps = [] := by
  intro v hv
  simp only [L3, List.mem_cons, List.not_mem_nil, or_false] at hv
  rcases hv with rfl | rfl | rfl | rfl | rfl | rfl | rfl <;> exact ⟨⟨⟨by decide, by decide⟩, by decide⟩, rfl⟩
def cS : Clu := reachC (blks 1) L3
def oA : Ou := (cS.a.give 1).2.headD ⟨0, 0, 0, 0, e1⟩
def nX : Nod := (cS.b.got 1 abc).1
def oB : Ou := (cS.b.got 1 abc).2.headD ⟨0, 0, 0, 0, e1⟩
def oC : Ou := (cS.b.got 1 abc).2.getD 1 ⟨0, 0, 0, 0, e1⟩
def nU : Nod := (cS.a.copied 1).1
def nV : Nod := nU.ended.1
def oV : Ou := nU.ended.2.headD ⟨0, 0, 0, 0, e1⟩
theorem r0 : cS.a.give 1 = (cS.a, [oA]) := by
  refine Prod.ext rfl ?_
  kernel_rfl
theorem r1 : cS.b.got 1 abc = (nX, [oB, oC]) := by
  refine Prod.ext rfl ?_
  kernel_rfl
theorem r2 : cS.b.got 0 zz = (cS.b, []) := by kernel_rfl
theorem r3 : cS.a.copied 1 = (nU, []) := by
  refine Prod.ext rfl ?_
  kernel_rfl
theorem r4 : nU.ended = (nV, [oV]) := by
  refine Prod.ext rfl ?_
  kernel_rfl
theorem r5 : cS.b.seek = (cS.b, []) := by kernel_rfl
theorem r6 : decP oA.d = (⟨6, 1, Hel.zero, 1, abc⟩, 0) := by kernel_rfl
theorem kS : COk 2 300 cS := (COk.play L3 (new_ok (by decide) (by decide)) fun v hv => (l3_ok v hv).1.1).mono (by decide)
theorem uS : cS.a.up = true := by kernel_rfl
theorem uT : cS.b.up = true := by kernel_rfl
theorem uU : nU.up = true := by kernel_rfl
theorem eS : (cS.a.t.read 1).2 = 0 := by kernel_rfl
theorem kU : NOk 2 301 nU := kS.a.copied uS 1
theorem started_any : Calls Tryz.prog 43 #[] w fun e w' => ∃ x, e = .returned (cluV cS x) ∧ CM w' cS x ∧ Below w.heap.size w w' := by
  refine run_ok (ap := tyE) (U := 0) (rows := []) (K := fun _ => True) rfl (st_p True) trivial ?_
  refine t_reachE L3 1 7 _ rfl rfl (by decide) (by decide) (by decide) l3_ok (fun r x => ?_)
  exact t_ret (cluV cS x) (fun u hu hb _ => ⟨x, rfl, hu.2, base_belowE hb⟩)
set_option maxHeartbeats 4000000 in
theorem alive18_any (hT : Tab w) : Calls Tryz.prog 10 #[] w fun e w' => e = .returned (.bool true) ∧ Below w.heap.size w w' := by
  refine run_vE ?_
  refine t_call (args := #[]) (fun u _ _ => started_any) ?_
  rintro u e u' _ _ ⟨x, rfl, hc, hb⟩
  refine ⟨_, fun u => CM u cS x, rfl, hb, stE (st_cm _ _), hc, ?_⟩
  have hTu : ∀ u, Below w.heap.size w u → Tab u := fun u hb => hT.below hb hT.size
  refine t_ck (p := (0 : Int) ≤ 0 ∧ (0 : Int) < ((2 : Nat) : Int)) (by decide) (t_ck (p := (0 : Int) ≤ 1 ∧ (1 : Int) < ((2 : Nat) : Int)) (by decide) ?_)
  refine t_lit 9 (t_1E (args := #[nodV cS.a x.a, .int .i64 1]) r0 (fun u hu => wGive kS.a (by omega) 1 eS hu.2.a) fun a0 A0 k0 => ?_)
  refine t_call (args := #[nodV cS.b x.b, .int .i64 1, .string abc]) (fun u hu hb => wGot kS.b (by omega) uT 1 (by decide) (by decide) abc (hTu u (base_belowE hb)) hu.1.2.b) ?_
  rintro u e u' _ _ ⟨a1, O, k1, rfl, h1, h2, h3, _⟩
  rw [r1] at h1 h2 ⊢
  obtain ⟨A1, rfl, _⟩ := h2.o 0 oB rfl
  refine ⟨_, fun u => NM u nX a1 ∧ OM u (some A1) k1 [oB, oC], rfl, h3, (stE (st_nm _ _)).and (stE (st_om _ _ _)), ⟨h1, h2⟩, ?_⟩
  refine t_call (args := #[nodV cS.b x.b, .int .i64 0, .string zz]) (fun u hu hb => wGot kS.b (by omega) uT 0 (by decide) (by decide) zz (hTu u (base_belowE hb)) hu.1.1.2.b) ?_
  rintro u e u' _ _ ⟨a2, O2, k2, rfl, h1, h2, h3, _⟩
  rw [r2] at h1 h2 ⊢
  refine ⟨_, fun u => NM u cS.b a2, rfl, h3, stE (st_nm _ _), h1, ?_⟩
  refine t_0E (args := #[nodV cS.a x.a, .int .i64 1]) r3 (fun u hu => wCopied kS.a (by omega) uS 1 hu.1.1.1.2.a) fun a3 O3 k3 => ?_
  refine t_1E (args := #[nodV nU a3]) r4 (fun u hu => wEnded kU (by omega) uU hu.2) fun a4 A4 k4 => ?_
  refine t_aE (args := #[nodV nX a1]) (fun u hu => wDone hu.1.1.1.2.1) fun a5 => ?_
  refine t_call (args := #[nodV cS.b x.b]) (fun u hu hb => wSeek kS.b (by omega) uT (hTu u (base_belowE hb)) hu.1.1.1.1.1.1.2.b) ?_
  rintro u e u' _ _ ⟨a6, O6, k6, rfl, h1, h2, h3, _⟩
  rw [r5] at h1 h2 ⊢
  refine ⟨_, fun u => NM u cS.b a6, rfl, h3, stE (st_nm _ _), h1, ?_⟩
  refine t_lit 40 (t_ck (p := (0 : Int) ≤ 0 ∧ (0 : Int) < ((1 : Nat) : Int)) (by decide) (t_lit 9 (t_load (ty := 9) (p := ⟨A0.block, A0.off + 4, none⟩) (v := .string oA.d) (fun u hu _ => reads1 (by kernel_rfl) (o_field hu.1.1.1.1.1.1.2.2 rfl).2.2.2.2) ?_)))
  refine t_lit 9 (t_vE (args := #[.string oA.d]) (v := .tuple #[pktV ⟨6, 1, Hel.zero, 1, abc⟩, .int .i64 0]) (fun u _ _ => by have := rpdecode_any oA.d u (by decide +kernel); rw [r6] at this; exact this) ?_)
  refine t_lit 40 (t_vE (args := #[]) (v := .int .u64 7) (fun u _ _ => xfirst u) ?_)
  refine t_lit 40 (t_sem (do Go.eqGuard .eql 34 (.tmp 1) (.tmp 1) (vecV 9 0 7 0) (vecV 9 0 7 0); Go.binOp .eql 34 (vecV 9 0 7 0) (vecV 9 0 7 0)) (v := .bool true) (fun u _ _ => vec_sem _ _ 9 0 7 0 u) ?_)
  refine t_lit 40 (t_vE (args := #[nodV cS.b a2, nodV cS.b x.b]) (v := .bool true) (fun u hu _ => kS.b.xs kS.b hu.1.1.1.1.2 hu.1.1.1.1.1.1.1.2.b true (by simp)) ?_)
  refine t_lit 40 (t_sem (do Go.eqGuard .eql 34 (.tmp 1) (.tmp 1) (vecV 9 0 7 0) (vecV 9 0 7 0); Go.binOp .eql 34 (vecV 9 0 7 0) (vecV 9 0 7 0)) (v := .bool true) (fun u _ _ => vec_sem _ _ 9 0 7 0 u) ?_)
  exact t_lit 60 (e_r2E (.bool true) rfl)
theorem st_up {n : Nod} (h : SOk n) (hs : n.st ≠ 0) : n.up = true := by
  cases e : n.up with
  | true => rfl
  | false => exact absurd (h.zero e) hs
section
variable {N q : Nat} {n : Nod} {a : Adr}
theorem xSeek18 (h : NOk N q n) (hq : q ≤ 880) (hu : n.up = true) (hn : NM w n a) : Calls Tryz.prog 14 #[nodV n a] w (GivesN n.seek w) := run (st_nm n a) hn (e_t fun u hu' => xseek h (by omega) hu hu')
theorem xGive18 (h : NOk N q n) (hq : q ≤ 880) (i : Int) (hn : NM w n a) : Calls Tryz.prog 22 #[nodV n a, .int .i64 i] w (GivesN (n.give i) w) := run (st_nm n a) hn (e_t fun u hu' => xgive h (by omega) i hu')
theorem xGot18 (h : NOk N q n) (hq : q ≤ 880) (hu : n.up = true) (i : Int) (d : ByteArray) (hi0 : 0 ≤ i) (hi1 : i < 32) (hn : NM w n a) : Calls Tryz.prog 16 #[nodV n a, .int .i64 i, .string d] w (GivesN (n.got i d) w) := run (st_nm n a) hn (e_t fun u hu' => xgot h hq hu i d hi0 hi1 hu')
theorem xCopied18 (h : NOk N q n) (hq : q ≤ 880) (hu : n.up = true) (i : Int) (hn : NM w n a) : Calls Tryz.prog 24 #[nodV n a, .int .i64 i] w (GivesN (n.copied i) w) := run (st_nm n a) hn (e_t fun u hu' => xcopied h (by omega) hu i hu')
theorem xEnded18 (h : NOk N q n) (hq : q ≤ 880) (hu : n.up = true) (hn : NM w n a) : Calls Tryz.prog 26 #[nodV n a] w (GivesN n.ended w) := run (st_nm n a) hn (e_t fun u hu' => xended h (by omega) hu hu')
theorem xDone18 (hn : NM w n a) : Calls Tryz.prog 20 #[nodV n a] w (GivesA n.done w) := run (st_nm n a) hn (t_a (fun u hu' => xdone hu') fun a2 => e_a a2 fun _ h => h.2)
end
theorem t_nB {F : Value → S → World → Prop} {K : World → Prop} {t : Tree} {f : FuncId} {args : Array Value} {r : Nod × List Ou} (hc : ∀ u, K u → Below w.heap.size w u → Calls Tryz.prog f args u (GivesN r u)) (h : ∀ a O k, OK ⟨Tryz.prog, tyL, w, [], []⟩ F (t.nv (.tuple #[nodV r.1 a, .slice O r.2.length k])) fun u => K u ∧ (NM u r.1 a ∧ OM u O k r.2)) (hd : t.hd = .call (.fn f) args.toList := by kernel_rfl) : OK ⟨Tryz.prog, tyL, w, [], []⟩ F t K :=
  t_call (fun u hu hb => hc u hu (base_below hb)) (fun u e u' hu hb hr => by
    obtain ⟨a, O, k, he, h1, h2, h3, h4⟩ := hr
    exact ⟨_, _, he, h3, (st_nm _ _).and (st_om _ _ _), ⟨h1, h2⟩, h a O k⟩) hd
theorem targets_law (b : Int) (A : Option Addr) (kl : Nat) (l : List Evt) (s : Bool) (i : Int) (d : ByteArray) (w : World) (hc : Cas w b A l) (hT : Tab w) : Calls Tryz.prog 3 #[.agg #[.int .u8 b, .slice A l.length kl, .bool s], .int .i64 i, .string d] w fun e w' => e = .returned (.bool true) ∧ Below w.heap.size w w' := by
  refine run_v ?_
  have hTu : ∀ u, Below w.heap.size w u → Tab u := fun u hb => hT.below hb hT.size
  refine t_vb (args := #[]) (fun u _ hb => alive18_any (hTu u hb)) (t_lit 9 ?_)
  refine t_vb (args := #[.slice A l.length kl, .int .i64 60]) (v := .bool (greatEv l)) (fun u _ hb => xgreat A kl 60 (hc.he.up hb) (by decide)) ?_
  cases hgr : greatEv l with
  | true => exact t_lit 9 (e_r2 (.bool true) rfl)
  | false =>
  have hk := case_ok hc hgr s
  have hs := case_sok b l s
  have hx := xcase18 kl s hc hgr
  have hN := (blks_le b).2
  generalize blks b = N at *
  generalize caseN b l s = n at *
  by_cases h8 : d.size = 8
  rotate_left
  · exact t_lit 3 (t_Y (b := (d.size : Int) != 8) 9 (by simp; omega) (e_r2 (.bool true) rfl))
  refine t_lit 3 (t_N (b := (d.size : Int) != 8) 0 (by simp; omega) ?_)
  refine t_call (args := #[.agg #[.int .u8 b, .slice A l.length kl, .bool s]]) (fun u _ hb => hx u (base_below hb)) ?_
  rintro u e u' _ _ ⟨a, rfl, hn, hb⟩
  refine ⟨_, fun u => NM u n a, rfl, hb, st_nm _ _, hn, ?_⟩
  by_cases h4 : n.st = 4
  rotate_left
  · exact t_N (b := !(n.st != 4)) 30 (by simpa using h4) (e_r2 (.bool true) rfl)
  refine t_Y (b := !(n.st != 4)) 1 (by simpa using h4) ?_
  by_cases hi0 : i < 0
  · exact t_N (b := !(decide (i < 0))) 30 (by simp [hi0]) (e_r2 (.bool true) rfl)
  refine t_Y (b := !(decide (i < 0))) 5 (by simpa using hi0) ?_
  by_cases hi1 : n.t.b.n ≤ i
  · exact t_Y (b := decide (n.t.b.n ≤ i)) 30 (by simpa using hi1) (e_r2 (.bool true) rfl)
  refine t_N (b := decide (n.t.b.n ≤ i)) 0 (by simpa using hi1) ?_
  have hu := st_up hs (by rw [h4]; decide)
  have hbn := (hk.live hu).bn
  have hiN : i < 32 := by omega
  have k1 := hk.seek hu
  have k2 := hk.got hu i d
  have o1 := out_seek (n := n)
  have o2 := out_got (n := n) i d
  refine t_nB (args := #[nodV n a]) (fun u hu' hb => wSeek hk (by omega) hu (hTu u hb) hu'.2) fun a1 O1 c1 => ?_
  refine t_nB (args := #[nodV n a]) (fun u hu' hb => xSeek18 hk (by omega) hu hu'.1.2) fun a2 O2 c2 => ?_
  refine t_nB (args := #[nodV n a, .int .i64 i, .string d]) (fun u hu' hb => wGot hk (by omega) hu i (by omega) (by omega) d (hTu u hb) hu'.1.1.2) fun a3 O3 c3 => ?_
  refine t_nB (args := #[nodV n a, .int .i64 i, .string d]) (fun u hu' hb => xGot18 hk (by omega) hu i d (by omega) hiN hu'.1.1.1.2) fun a4 O4 c4 => ?_
  generalize n.seek = r1 at *
  generalize n.got i d = r2 at *
  refine t_v (args := #[nodV r1.1 a1, nodV r1.1 a2]) (fun u hu => k1.xs k1 hu.1.1.1.2.1 hu.1.1.2.1 true (by simp)) ?_
  refine t_lit 30 (t_v (args := #[.slice O1 r1.2.length c1, .slice O2 r1.2.length c2]) (fun u hu => xouts O1 c1 O2 c2 hu.1.1.1.2.2 hu.1.1.2.2 (by omega) true (by simp)) ?_)
  refine t_lit 30 (t_v (args := #[nodV r2.1 a3, nodV r2.1 a4]) (fun u hu => k2.xs k2 hu.1.2.1 hu.2.1 true (by simp)) ?_)
  refine t_lit 30 (t_v (args := #[.slice O3 r2.2.length c3, .slice O4 r2.2.length c4]) (fun u hu => xouts O3 c3 O4 c4 hu.1.2.2 hu.2.2 (by omega) true (by simp)) ?_)
  refine t_lit 30 (t_a (args := #[nodV n a]) (fun u hu => wDone hu.1.1.1.1.2) fun a5 => ?_)
  refine t_lit 30 (t_a (args := #[nodV n a]) (fun u hu => xDone18 hu.1.1.1.1.1.2) fun a6 => ?_)
  refine t_lit 30 (t_v (args := #[nodV n.done a5, nodV n.done a6]) (fun u hu => hk.done.xs hk.done hu.1.2 hu.2 true (by simp)) ?_)
  exact t_lit 30 (e_r2 (.bool true) rfl)
theorem sources_law (b : Int) (A : Option Addr) (kl : Nat) (l : List Evt) (s : Bool) (i : Int) (w : World) (hc : Cas w b A l) (hT : Tab w) : Calls Tryz.prog 4 #[.agg #[.int .u8 b, .slice A l.length kl, .bool s], .int .i64 i] w fun e w' => e = .returned (.bool true) ∧ Below w.heap.size w w' := by
  refine run_v ?_
  have hTu : ∀ u, Below w.heap.size w u → Tab u := fun u hb => hT.below hb hT.size
  refine t_vb (args := #[]) (fun u _ hb => alive18_any (hTu u hb)) (t_lit 9 ?_)
  refine t_vb (args := #[.slice A l.length kl, .int .i64 60]) (v := .bool (greatEv l)) (fun u _ hb => xgreat A kl 60 (hc.he.up hb) (by decide)) ?_
  cases hgr : greatEv l with
  | true => exact t_lit 9 (e_r2 (.bool true) rfl)
  | false =>
  have hk := case_ok hc hgr s
  have hs := case_sok b l s
  have hx := xcase18 kl s hc hgr
  have hN := (blks_le b).2
  generalize blks b = N at *
  generalize caseN b l s = n at *
  refine t_lit 9 (t_call (args := #[.agg #[.int .u8 b, .slice A l.length kl, .bool s]]) (fun u _ hb => hx u (base_below hb)) ?_)
  rintro u e u' _ _ ⟨a, rfl, hn, hb⟩
  refine ⟨_, fun u => NM u n a, rfl, hb, st_nm _ _, hn, ?_⟩
  by_cases h4 : n.st = 3
  rotate_left
  · exact t_N (b := !(n.st != 3)) 30 (by simpa using h4) (e_r2 (.bool true) rfl)
  refine t_Y (b := !(n.st != 3)) 1 (by simpa using h4) ?_
  by_cases hi0 : i < 0
  · exact t_N (b := !(decide (i < 0))) 30 (by simp [hi0]) (e_r2 (.bool true) rfl)
  refine t_Y (b := !(decide (i < 0))) 5 (by simpa using hi0) ?_
  by_cases hi1 : n.t.b.n ≤ i
  · exact t_Y (b := decide (n.t.b.n ≤ i)) 30 (by simpa using hi1) (e_r2 (.bool true) rfl)
  refine t_N (b := decide (n.t.b.n ≤ i)) 0 (by simpa using hi1) ?_
  have hu := st_up hs (by rw [h4]; decide)
  have hbn := (hk.live hu).bn
  have he : (n.t.read i).2 = 0 := by rw [read_in (hk.live hu) (by omega) (by omega)]
  have k1 : NOk N 300 (n.give i).1 := hk
  have k2 := hk.copied hu i
  have k3 := hk.ended hu
  have o1 : (n.give i).2.length ≤ 3 := by unfold Nod.give; simp
  have o2 := out_copied (n := n) i
  have o3 := out_ended (n := n)
  refine t_nB (args := #[nodV n a, .int .i64 i]) (fun u hu' hb => wGive hk (by omega) i he hu'.2) fun a1 O1 c1 => ?_
  refine t_nB (args := #[nodV n a, .int .i64 i]) (fun u hu' hb => xGive18 hk (by omega) i hu'.1.2) fun a2 O2 c2 => ?_
  refine t_nB (args := #[nodV n a, .int .i64 i]) (fun u hu' hb => wCopied hk (by omega) hu i hu'.1.1.2) fun a3 O3 c3 => ?_
  refine t_nB (args := #[nodV n a, .int .i64 i]) (fun u hu' hb => xCopied18 hk (by omega) hu i hu'.1.1.1.2) fun a4 O4 c4 => ?_
  refine t_nB (args := #[nodV n a]) (fun u hu' hb => wEnded hk (by omega) hu hu'.1.1.1.1.2) fun a5 O5 c5 => ?_
  refine t_nB (args := #[nodV n a]) (fun u hu' hb => xEnded18 hk (by omega) hu hu'.1.1.1.1.1.2) fun a6 O6 c6 => ?_
  generalize n.give i = r1 at *
  generalize n.copied i = r2 at *
  generalize n.ended = r3 at *
  refine t_v (args := #[nodV r1.1 a1, nodV r1.1 a2]) (fun u hu => k1.xs k1 hu.1.1.1.1.1.2.1 hu.1.1.1.1.2.1 true (by simp)) ?_
  refine t_lit 30 (t_v (args := #[.slice O1 r1.2.length c1, .slice O2 r1.2.length c2]) (fun u hu => xouts O1 c1 O2 c2 hu.1.1.1.1.1.2.2 hu.1.1.1.1.2.2 (by omega) true (by simp)) ?_)
  refine t_lit 30 (t_v (args := #[nodV r2.1 a3, nodV r2.1 a4]) (fun u hu => k2.xs k2 hu.1.1.1.2.1 hu.1.1.2.1 true (by simp)) ?_)
  refine t_lit 30 (t_v (args := #[.slice O3 r2.2.length c3, .slice O4 r2.2.length c4]) (fun u hu => xouts O3 c3 O4 c4 hu.1.1.1.2.2 hu.1.1.2.2 (by omega) true (by simp)) ?_)
  refine t_lit 30 (t_v (args := #[nodV r3.1 a5, nodV r3.1 a6]) (fun u hu => k3.xs k3 hu.1.2.1 hu.2.1 true (by simp)) ?_)
  exact t_lit 30 (t_v (args := #[.slice O5 r3.2.length c5, .slice O6 r3.2.length c6]) (fun u hu => xouts O5 c5 O6 c6 hu.1.2.2 hu.2.2 (by omega) true (by simp)) (t_lit 30 (e_r2 (.bool true) rfl)))
end
end Go.Proofs.YtabenngcmpjlhaaGreatDoor
