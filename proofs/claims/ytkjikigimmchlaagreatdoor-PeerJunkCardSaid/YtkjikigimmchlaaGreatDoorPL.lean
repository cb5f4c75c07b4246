/- The fixed fact of layer 20's laws, and the law: bytes that are no packet, or of another session. -/
import Derived.Test.YtkjikigimmchlaaGreatDoorPE
import Derived.Test.YtkjikigimmchlaaGreatDoorXK
import Derived.Test.YtkjikigimmchlaaGreatDoorPR
namespace Go.Proofs.YtkjikigimmchlaaGreatDoor
open Go.RowKit PX
set_option maxRecDepth 100000
section
variable {w : World}
theorem xside20 (b : Int) (A : Option Addr) (k : Nat) (l : List Evt) (s : Bool) (w : World) : Calls Tryz.prog 13 #[.agg #[.int .u8 b, .slice A l.length k, .bool s]] w fun e w' => e = .returned (.int .i64 (if s = true then 1 else 0)) ∧ Below w.heap.size w w' := by
  refine run_v ?_
  cases s
  · exact t_lit 9 (e_r2 (.int .i64 0) rfl)
  · exact t_lit 9 (e_r2 (.int .i64 1) rfl)
theorem xnode20 {b : Int} (h0 : 0 ≤ b) (h1 : b < 256) (A : Option Addr) (l : List Evt) (kl : Nat) (s : Bool) (hl : l.length ≤ 60) (hw : ∀ v ∈ l, v.wide ∧ (v.d.size : Int) ≤ 3000) (he : Evs w A l) : Calls Tryz.prog 6 #[.agg #[.int .u8 b, .slice A l.length kl, .bool s]] w (GivesA ((reachC (blks b) l).nd (if s = true then 1 else 0)) w) := by
  refine run (K := fun _ => True) (st_p _) trivial ?_
  refine t_call (args := #[.int .u8 b, .slice A l.length kl]) (fun u _ hb => xreach h0 h1 A l kl hl hw (he.up (base_below hb))) ?_
  rintro u e u' _ _ ⟨x, rfl, hc, hb⟩
  refine ⟨_, fun u => CM u (reachC (blks b) l) x, rfl, hb, st_cm _ _, hc, ?_⟩
  have hS := fun u => xside20 b A kl l s u
  generalize reachC (blks b) l = c at *
  cases s with
  | false =>
    have e : c.nd (if false = true then 1 else 0) = c.a := rfl
    rw [e]
    exact t_v (fun u _ => hS u) (e_a x.a fun _ h => h.2.a)
  | true =>
    have e : c.nd (if true = true then 1 else 0) = c.b := rfl
    rw [e]
    exact t_v (fun u _ => hS u) (e_a x.b fun _ h => h.2.b)
theorem xcase20 {b : Int} {A : Option Addr} {l : List Evt} (kl : Nat) (s : Bool) (h : Cas w b A l) (hg : greatEv l = false) (u : World) (hb : Below w.heap.size w u) : Calls Tryz.prog 6 #[.agg #[.int .u8 b, .slice A l.length kl, .bool s]] u (GivesA (caseN b l s) u) :=
  xnode20 h.h0 h.h1 A l kl s (small hg).1 (fun v hv => ⟨h.hw v hv, (small hg).2 v hv⟩) (h.he.up hb)
end
end Go.Proofs.YtkjikigimmchlaaGreatDoor
namespace Go.Proofs.YtkjikigimmchlaaGreatDoor
open Go.RowKit PX
set_option maxRecDepth 100000
section
variable {w : World}
theorem t_0P {F : Value → S → World → Prop} {K : World → Prop} {t : Tree} {f : FuncId} {args : Array Value} {m : Nod} {r : Nod × List Ou} (e : r = (m, [])) (hc : ∀ u, K u → Below w.heap.size w u → Calls Tryz.prog f args u (GivesN r u)) (h : ∀ a O k, OK ⟨Tryz.prog, tyE, w, [], []⟩ F (t.nv (.tuple #[nodV m a, .slice O 0 k])) fun u => K u ∧ NM u m a) (hd : t.hd = .call (.fn f) args.toList := by kernel_rfl) : OK ⟨Tryz.prog, tyE, w, [], []⟩ F t K :=
  t_call (fun u hu hb => hc u hu (base_belowE hb)) (fun u e' u' hu hb hr => by
    subst e
    obtain ⟨a, O, k, he, h1, h2, h3, h4⟩ := hr
    exact ⟨_, _, he, h3, stE (st_nm _ _), h1, h a O k⟩) hd
theorem t_1P {F : Value → S → World → Prop} {K : World → Prop} {t : Tree} {f : FuncId} {args : Array Value} {m : Nod} {x : Ou} {r : Nod × List Ou} (e : r = (m, [x])) (hc : ∀ u, K u → Below w.heap.size w u → Calls Tryz.prog f args u (GivesN r u)) (h : ∀ a ad k, OK ⟨Tryz.prog, tyE, w, [], []⟩ F (t.nv (.tuple #[nodV m a, .slice (some ad) 1 k])) fun u => K u ∧ NM u m a ∧ OM u (some ad) k [x]) (hd : t.hd = .call (.fn f) args.toList := by kernel_rfl) : OK ⟨Tryz.prog, tyE, w, [], []⟩ F t K :=
  t_call (fun u hu hb => hc u hu (base_belowE hb)) (fun u e' u' hu hb hr => by
    subst e
    obtain ⟨a, O, k, he, h1, h2, h3, h4⟩ := hr
    obtain ⟨ad, rfl, _⟩ := h2.o 0 x rfl
    exact ⟨_, _, he, h3, (stE (st_nm _ _)).and (stE (st_om _ _ _)), ⟨h1, h2⟩, h a ad k⟩) hd
theorem xbytes20 (p : Pkt) (s : Int) (hs : B64 s) (hw : p.wide) (w : World) : Calls Tryz.prog 11 #[pktV p, .int .u64 s] w fun e w' => e = .returned (.string (Pkt.encT { p with s := s })) ∧ Below w.heap.size w w' :=
  run_v (t_v (fun u _ => rpencode_any { p with s := s } u ⟨hs, hw.2⟩) e_r)
def ep (k n id : Int) : Evt := ⟨k, n, id, 0, e1, 0, []⟩
def LP : List Evt := [ep 6 0 0, ep 6 1 0, ep 9 0 0, ep 9 1 0, ep 1 0 5]
theorem lp_ok : ∀ v ∈ LP, (v.wide ∧ (v.d.size : Int) ≤ 3000) ∧ v.keeps = [] := by
  intro v hv
  simp only [LP, List.mem_cons, List.not_mem_nil, or_false] at hv
  rcases hv with rfl | rfl | rfl | rfl | rfl <;> exact ⟨⟨⟨by decide, by decide⟩, by decide⟩, rfl⟩
def cP : Clu := reachC (blks 1) LP
def junk : ByteArray := ⟨#[106, 117, 110, 107]⟩
def bk (k s : Int) : ByteArray := Pkt.encT ⟨k, s, Hel.zero, 0, e1⟩
def nP : Nod := cP.a
def mP : Nod := cP.b
def xP : Nod := (nP.receive (bk 11 1)).1
def yP : Nod := (mP.receive (bk 10 1)).1
def zP : Nod := (nP.receive (bk 12 1)).1
def vP : Nod := (xP.receive (bk 10 1)).1
theorem p0 : nP.receive junk = (nP, [⟨3, 0, 0, 0, e1⟩]) := by kernel_rfl
theorem p1 : nP.receive (bk 11 2) = (nP, []) := by kernel_rfl
theorem p2 : nP.receive (bk 11 1) = (xP, [⟨2, 0, 5, 0, e1⟩]) := Prod.ext rfl (by kernel_rfl)
theorem p3 : mP.receive (bk 10 1) = (yP, [⟨1, 1, 0, 0, bk 11 1⟩]) := Prod.ext rfl (by kernel_rfl)
theorem p4 : nP.receive (bk 12 1) = (zP, [⟨2, 0, 5, 12, e1⟩]) := Prod.ext rfl (by kernel_rfl)
theorem p5 : xP.receive (bk 10 1) = (vP, [⟨1, 0, 0, 0, bk 12 1⟩]) := Prod.ext rfl (by kernel_rfl)
theorem p6 : nP.fits ⟨10, 0, Hel.zero, 0, e1⟩ = true := by kernel_rfl
theorem p7 : nP.fits ⟨8, 0, Hel.zero, 0, e1⟩ = false := by kernel_rfl
theorem pU : nP.up = true := by kernel_rfl
theorem kP : COk 2 300 cP := (COk.play LP (new_ok (by decide) (by decide)) fun v hv => (lp_ok v hv).1.1).mono (by decide)
theorem kx20 : NOk 2 305 xP := NOk.mono (kP.a.receive _ (read_wide _ _)) (by decide)
set_option maxHeartbeats 4000000 in
theorem alive20_any (hT : Tab w) (hE : Etyp w) : Calls Tryz.prog 4 #[] w fun e w' => e = .returned (.bool true) ∧ Below w.heap.size w w' := by
  refine run_vE ?_
  have hTu : ∀ u, Below w.heap.size w u → Tab u := fun u hb => hT.below hb hT.size
  have ck0 : (0 : Int) ≤ 0 ∧ (0 : Int) < ((2 : Nat) : Int) := by decide
  have ck1 : (0 : Int) ≤ 1 ∧ (1 : Int) < ((2 : Nat) : Int) := by decide
  have ck2 : (0 : Int) ≤ 0 ∧ (0 : Int) < ((1 : Nat) : Int) := by decide
  refine t_reachE LP 1 5 _ rfl rfl (by decide) (by decide) (by decide) lp_ok (fun r x => ?_)
  refine t_ck ck0 (t_ck ck1 (t_lit 40 ?_))
  have R0 := fun (s : ByteArray) (hs : (s.size : Int) ≤ 3000) (u : World) (a : Adr) (hu : NM u nP a) (hb : Below w.heap.size w u) => preceive (w := u) kP.a (by omega) (.inl rfl) s hs (hTu u hb) (hE.up hb) hu
  have R1 := fun (s : ByteArray) (hs : (s.size : Int) ≤ 3000) (u : World) (a : Adr) (hu : NM u mP a) (hb : Below w.heap.size w u) => preceive (w := u) kP.b (by omega) (.inr rfl) s hs (hTu u hb) (hE.up hb) hu
  have R2 := fun (s : ByteArray) (hs : (s.size : Int) ≤ 3000) (u : World) (a : Adr) (hu : NM u xP a) (hb : Below w.heap.size w u) => preceive (w := u) kx20 (by omega) (.inl rfl) s hs (hTu u hb) (hE.up hb) hu
  refine t_1P (args := #[nodV nP x.a, .string junk]) p0 (fun u hu hb => R0 junk (by decide) u x.a hu.2.a hb) fun a0 A0 k0 => ?_
  have z2 : ((bk 11 2).size : Int) ≤ 3000 := by decide +kernel
  have z1 : ((bk 11 1).size : Int) ≤ 3000 := by decide +kernel
  have za : ((bk 10 1).size : Int) ≤ 3000 := by decide +kernel
  have zd : ((bk 12 1).size : Int) ≤ 3000 := by decide +kernel
  refine t_vE (args := #[pktV ⟨11, 0, Hel.zero, 0, e1⟩, .int .u64 2]) (v := .string (bk 11 2)) (fun u _ _ => xbytes20 ⟨11, 0, Hel.zero, 0, e1⟩ 2 ⟨by decide, by decide⟩ ⟨⟨by decide, by decide⟩, Hel.zero_wide⟩ u) ?_
  refine t_0P (args := #[nodV nP x.a, .string (bk 11 2)]) p1 (fun u hu hb => R0 _ z2 u x.a hu.1.2.a hb) fun a1 O1 k1 => ?_
  refine t_vE (args := #[pktV ⟨11, 0, Hel.zero, 0, e1⟩, .int .u64 1]) (v := .string (bk 11 1)) (fun u _ _ => xbytes20 ⟨11, 0, Hel.zero, 0, e1⟩ 1 ⟨by decide, by decide⟩ ⟨⟨by decide, by decide⟩, Hel.zero_wide⟩ u) ?_
  refine t_1P (args := #[nodV nP x.a, .string (bk 11 1)]) p2 (fun u hu hb => R0 _ z1 u x.a hu.1.1.2.a hb) fun a2 A2 k2 => ?_
  refine t_vE (args := #[pktV ⟨10, 0, Hel.zero, 0, e1⟩, .int .u64 1]) (v := .string (bk 10 1)) (fun u _ _ => xbytes20 ⟨10, 0, Hel.zero, 0, e1⟩ 1 ⟨by decide, by decide⟩ ⟨⟨by decide, by decide⟩, Hel.zero_wide⟩ u) ?_
  refine t_1P (args := #[nodV mP x.b, .string (bk 10 1)]) p3 (fun u hu hb => R1 _ za u x.b hu.1.1.1.2.b hb) fun a3 A3 k3 => ?_
  refine t_vE (args := #[pktV ⟨12, 0, Hel.zero, 0, e1⟩, .int .u64 1]) (v := .string (bk 12 1)) (fun u _ _ => xbytes20 ⟨12, 0, Hel.zero, 0, e1⟩ 1 ⟨by decide, by decide⟩ ⟨⟨by decide, by decide⟩, Hel.zero_wide⟩ u) ?_
  refine t_1P (args := #[nodV nP x.a, .string (bk 12 1)]) p4 (fun u hu hb => R0 _ zd u x.a hu.1.1.1.1.2.a hb) fun a4 A4 k4 => ?_
  refine t_vE (args := #[pktV ⟨10, 0, Hel.zero, 0, e1⟩, .int .u64 1]) (v := .string (bk 10 1)) (fun u _ _ => xbytes20 ⟨10, 0, Hel.zero, 0, e1⟩ 1 ⟨by decide, by decide⟩ ⟨⟨by decide, by decide⟩, Hel.zero_wide⟩ u) ?_
  refine t_1P (args := #[nodV xP a2, .string (bk 10 1)]) p5 (fun u hu hb => R2 _ za u a2 hu.1.1.2.1 hb) fun a5 A5 k5 => ?_
  refine t_lit 40 ?_
  refine t_ck ck2 (t_lit 40 (t_load (ty := 59) (p := A0) (v := ouV ⟨3, 0, 0, 0, e1⟩) (fun u hu _ => o_reads hu.1.1.1.1.1.2.2) ?_))
  refine t_lit 40 (t_sem (do Go.eqGuard .eql 59 (.tmp 1) (.tmp 1) (ouV ⟨3, 0, 0, 0, e1⟩) (ouV ⟨3, 0, 0, 0, e1⟩); Go.binOp .eql 59 (ouV ⟨3, 0, 0, 0, e1⟩) (ouV ⟨3, 0, 0, 0, e1⟩)) (v := .bool true) (fun u _ _ => by rw [eql_ouS, eqO_iff.2 rfl]) (t_lit 40 ?_))
  refine t_ck ck2 (t_lit 40 (t_load (ty := 59) (p := A2) (v := ouV ⟨2, 0, 5, 0, e1⟩) (fun u hu _ => o_reads hu.1.1.1.2.2) ?_))
  refine t_lit 40 (t_sem (do Go.eqGuard .eql 59 (.tmp 1) (.tmp 1) (ouV ⟨2, 0, 5, 0, e1⟩) (ouV ⟨2, 0, 5, 0, e1⟩); Go.binOp .eql 59 (ouV ⟨2, 0, 5, 0, e1⟩) (ouV ⟨2, 0, 5, 0, e1⟩)) (v := .bool true) (fun u _ _ => by rw [eql_ouS, eqO_iff.2 rfl]) (t_lit 40 ?_))
  refine t_ck ck2 (t_lit 40 (t_load (ty := 9) (p := ⟨A3.block, A3.off + 4, none⟩) (v := .string (bk 11 1)) (fun u hu _ => reads1 (by kernel_rfl) (o_field hu.1.1.2.2 rfl).2.2.2.2) ?_))
  refine t_lit 40 (t_vE (args := #[pktV ⟨11, 0, Hel.zero, 0, e1⟩, .int .u64 1]) (v := .string (bk 11 1)) (fun u _ _ => xbytes20 ⟨11, 0, Hel.zero, 0, e1⟩ 1 ⟨by decide, by decide⟩ ⟨⟨by decide, by decide⟩, Hel.zero_wide⟩ u) (t_lit 40 ?_))
  refine t_ck ck2 (t_lit 40 (t_load (ty := 51) (p := ⟨A4.block, A4.off + 3, none⟩) (v := .int .i64 12) (fun u hu _ => reads1 (by kernel_rfl) (o_field hu.1.2.2 rfl).2.2.2.1) ?_))
  refine t_lit 40 ?_
  refine t_ck ck2 (t_lit 40 (t_load (ty := 9) (p := ⟨A5.block, A5.off + 4, none⟩) (v := .string (bk 12 1)) (fun u hu _ => reads1 (by kernel_rfl) (o_field hu.2.2 rfl).2.2.2.2) ?_))
  refine t_lit 40 (t_vE (args := #[pktV ⟨12, 0, Hel.zero, 0, e1⟩, .int .u64 1]) (v := .string (bk 12 1)) (fun u _ _ => xbytes20 ⟨12, 0, Hel.zero, 0, e1⟩ 1 ⟨by decide, by decide⟩ ⟨⟨by decide, by decide⟩, Hel.zero_wide⟩ u) (t_lit 40 ?_))
  refine t_vE (args := #[nodV nP x.a, pktV ⟨10, 0, Hel.zero, 0, e1⟩]) (v := .bool true) (fun u _ _ => by have := pfits (a := x.a) pU ⟨10, 0, Hel.zero, 0, e1⟩ (by decide) (by decide) u; rw [p6] at this; exact this) (t_lit 40 ?_)
  refine t_vE (args := #[nodV nP x.a, pktV ⟨8, 0, Hel.zero, 0, e1⟩]) (v := .bool false) (fun u _ _ => by have := pfits (a := x.a) pU ⟨8, 0, Hel.zero, 0, e1⟩ (by decide) (by decide) u; rw [p7] at this; exact this) ?_
  exact t_lit 60 (e_r2E (.bool true) rfl)
theorem t_nP {F : Value → S → World → Prop} {K : World → Prop} {t : Tree} {f : FuncId} {args : Array Value} {r : Nod × List Ou} (hc : ∀ u, K u → Below w.heap.size w u → Calls Tryz.prog f args u (GivesN r u)) (h : ∀ a O k, (∀ x l, r.2 = x :: l → ∃ ad, O = some ad) → OK ⟨Tryz.prog, tyL, w, [], []⟩ F (t.nv (.tuple #[nodV r.1 a, .slice O r.2.length k])) fun u => K u ∧ (NM u r.1 a ∧ OM u O k r.2)) (hd : t.hd = .call (.fn f) args.toList := by kernel_rfl) : OK ⟨Tryz.prog, tyL, w, [], []⟩ F t K :=
  t_call (fun u hu hb => hc u hu (base_below hb)) (fun u e u' hu hb hr => by
    obtain ⟨a, O, k, he, h1, h2, h3, h4⟩ := hr
    exact ⟨_, _, he, h3, (st_nm _ _).and (st_om _ _ _), ⟨h1, h2⟩, h a O k fun x l e => by
      rw [e] at h2
      obtain ⟨ad, hO, _⟩ := h2.o 0 x rfl
      exact ⟨ad, hO⟩⟩) hd
theorem junk_law (b : Int) (A : Option Addr) (kl : Nat) (l : List Evt) (s : Bool) (x : ByteArray) (w : World) (hc : Cas w b A l) (hT : Tab w) (hE : Etyp w) : Calls Tryz.prog 3 #[.agg #[.int .u8 b, .slice A l.length kl, .bool s], .string x] w fun e w' => e = .returned (.bool true) ∧ Below w.heap.size w w' := by
  refine run_v ?_
  have hTu : ∀ u, Below w.heap.size w u → Tab u := fun u hb => hT.below hb hT.size
  refine t_vb (args := #[]) (fun u _ hb => alive20_any (hTu u hb) (hE.up hb)) (t_lit 9 ?_)
  refine t_vb (args := #[.slice A l.length kl, .int .i64 60]) (v := .bool (greatEv l)) (fun u _ hb => xgreat A kl 60 (hc.he.up hb) (by decide)) ?_
  cases hgr : greatEv l with
  | true => exact t_lit 9 (e_r2 (.bool true) rfl)
  | false =>
  refine t_lit 3 ?_
  by_cases hsz : (500 : Int) < x.size
  · exact t_Y (b := decide ((500 : Int) < x.size)) 9 (by simpa using hsz) (e_r2 (.bool true) rfl)
  refine t_N (b := decide ((500 : Int) < x.size)) 9 (by simpa using hsz) ?_
  have hk := case_ok hc hgr s
  have hx := xcase20 kl s hc hgr
  have hid : (caseN b l s).id = 0 ∨ (caseN b l s).id = 1 := by
    have e := (case_ps hc s).2.id
    cases s
    · exact .inl e
    · exact .inr e
  generalize caseN b l s = n at *
  refine t_call (args := #[.agg #[.int .u8 b, .slice A l.length kl, .bool s]]) (fun u _ hb => hx u (base_below hb)) ?_
  rintro u e u' _ _ ⟨a, rfl, hn, hb⟩
  refine ⟨_, fun u => NM u n a, rfl, hb, st_nm _ _, hn, ?_⟩
  refine t_lit 9 (t_v (args := #[.string x, .int .u64 n.ses]) (fun u _ => rpread_any x n.ses u (by omega)) ?_)
  have hR := fun u (hu : NM u n a) (hb : Below w.heap.size w u) => preceive (w := u) hk (by omega) hid x (by omega) (hTu u hb) (hE.up hb) hu
  have kR : NOk (blks b) 303 (n.receive x).1 := hk.receive x (read_wide _ _)
  unfold Nod.receive at hR kR
  generalize readP x n.ses = z at *
  obtain ⟨p, f⟩ := z
  dsimp only at hR kR ⊢
  by_cases hA : n.up = true ∧ ¬ n.st = 0 ∧ f = 0
  · obtain ⟨h1, h2, h3⟩ := hA
    generalize hr : (if n.up = false ∨ n.st = 0 then (n, []) else if f = 16 then (n, []) else if f ≠ 0 ∨ n.fits p = false then (n, [n.close]) else n.takes p : Nod × List Ou) = r at *
    refine t_nP (args := #[nodV n a, .string x]) (r := r) (fun u hu' hb => hR u hu'.2 hb) fun a1 O1 k1 _ => ?_
    exact t_Y (b := decide (f = 0)) 1 (by simpa using h3) (t_Y (b := n.up) 2 h1 (t_Y (b := !(n.st == 0)) 9 (by simpa using h2) (e_r2 (.bool true) rfl)))
  by_cases hB : n.up = false ∨ n.st = 0 ∨ f = 16
  · have e : (if n.up = false ∨ n.st = 0 then (n, []) else if f = 16 then (n, []) else if f ≠ 0 ∨ n.fits p = false then (n, [n.close]) else n.takes p : Nod × List Ou) = (n, []) := by
      by_cases h : n.up = false ∨ n.st = 0
      · rw [if_pos h]
      · rw [if_neg h, if_pos (by rcases hB with g | g | g; exact absurd (.inl g) h; exact absurd (.inr g) h; exact g)]
    rw [e] at hR
    refine t_nP (args := #[nodV n a, .string x]) (r := (n, [])) (fun u hu' hb => hR u hu'.2 hb) fun a1 O1 k1 _ => ?_
    by_cases h3 : f = 0
    · refine t_Y (b := decide (f = 0)) 1 (by simpa using h3) ?_
      by_cases h1 : n.up = true
      · refine t_Y (b := n.up) 2 h1 ?_
        have h2 : n.st = 0 := by
          rcases hB with g | g | g
          · rw [h1] at g; cases g
          · exact g
          · omega
        refine t_N (b := !(n.st == 0)) 30 (by simpa using h2) (t_v (args := #[nodV n a1, nodV n a]) (fun u hu => hk.xs hk hu.2.1 hu.1.2 true (by simp)) (t_lit 1 ?_))
        exact t_Y (b := !(!n.up)) 2 (by simpa using h1) (t_N (b := !(n.st == 0)) 9 (by simpa using h2) (e_r2 (.bool true) rfl))
      · refine t_N (b := n.up) 30 (bfalse h1) (t_v (args := #[nodV n a1, nodV n a]) (fun u hu => hk.xs hk hu.2.1 hu.1.2 true (by simp)) (t_lit 1 ?_))
        exact t_N (b := !(!n.up)) 9 (by simpa using h1) (e_r2 (.bool true) rfl)
    · refine t_N (b := decide (f = 0)) 30 (by simpa using h3) (t_v (args := #[nodV n a1, nodV n a]) (fun u hu => hk.xs hk hu.2.1 hu.1.2 true (by simp)) (t_lit 1 ?_))
      by_cases h1 : n.up = true
      rotate_left
      · exact t_N (b := !(!n.up)) 9 (by simpa using h1) (e_r2 (.bool true) rfl)
      by_cases h2 : n.st = 0
      · exact t_Y (b := !(!n.up)) 2 (by simpa using h1) (t_N (b := !(n.st == 0)) 9 (by simpa using h2) (e_r2 (.bool true) rfl))
      have h6 : f = 16 := by
        rcases hB with g | g | g
        · rw [h1] at g; cases g
        · exact absurd g h2
        · exact g
      exact t_Y (b := !(!n.up)) 2 (by simpa using h1) (t_Y (b := !(n.st == 0)) 1 (by simpa using h2) (t_Y (b := decide (f = 16)) 9 (by simpa using h6) (e_r2 (.bool true) rfl)))
  · have h1 : n.up = true := by
      cases e : n.up with
      | true => rfl
      | false => exact absurd (.inl e) hB
    have h2 : ¬ n.st = 0 := fun e => hB (.inr (.inl e))
    have h6 : ¬ f = 16 := fun e => hB (.inr (.inr e))
    have h3 : ¬ f = 0 := fun e => hA ⟨h1, h2, e⟩
    rw [if_neg (by simp [h1, h2]), if_neg h6, if_pos (.inl h3)] at hR
    refine t_nP (args := #[nodV n a, .string x]) (r := (n, [n.close])) (fun u hu' hb => hR u hu'.2 hb) fun a1 O1 k1 hO => ?_
    obtain ⟨ad, rfl⟩ := hO _ _ rfl
    refine t_N (b := decide (f = 0)) 30 (by simpa using h3) (t_v (args := #[nodV n a1, nodV n a]) (fun u hu => hk.xs hk hu.2.1 hu.1.2 true (by simp)) (t_lit 1 ?_))
    refine t_Y (b := !(!n.up)) 2 (by simpa using h1) (t_Y (b := !(n.st == 0)) 1 (by simpa using h2) (t_N (b := decide (f = 16)) 9 (by simpa using h6) ?_))
    refine t_ck (p := (0 : Int) ≤ 0 ∧ (0 : Int) < ((1 : Nat) : Int)) (by decide) (t_lit 40 (t_load (ty := 59) (p := ad) (v := ouV n.close) (fun u hu _ => o_reads hu.2.2) ?_))
    refine t_lit 40 (t_sem (do Go.eqGuard .eql 59 (.tmp 1) (.tmp 1) (ouV n.close) (ouV n.close); Go.binOp .eql 59 (ouV n.close) (ouV n.close)) (v := .bool true) (fun u _ _ => by rw [eql_ouS, eqO_iff.2 rfl]) ?_)
    exact t_lit 9 (e_r2 (.bool true) rfl)
end
end Go.Proofs.YtkjikigimmchlaaGreatDoor
