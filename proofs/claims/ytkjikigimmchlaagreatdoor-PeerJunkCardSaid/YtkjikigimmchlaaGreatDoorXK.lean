/- A node by the code: it goes down and comes up; a case's node. -/
import Derived.Test.YtkjikigimmchlaaGreatDoorXI
import Derived.Test.YtkjikigimmchlaaGreatDoorRY
import Derived.Test.YtkjikigimmchlaaGreatDoorWQ
namespace Go.Proofs.YtkjikigimmchlaaGreatDoor
open Go.RowKit PX
set_option maxRecDepth 100000
theorem sameB_iff {s1 s2 : List ByteArray} {c1 c2 : List (Int × ByteArray)} {f1 f2 : Int} {x1 x2 : Bool} : sameB s1 s2 c1 c2 f1 f2 x1 x2 = true ↔ s1 = s2 ∧ c1 = c2 ∧ f1 = f2 ∧ x1 = x2 := by
  unfold sameB
  simp [and_assoc]
theorem sto_same_iff {t u : Sto} : t.same u = true ↔ t = u := by
  obtain ⟨s, c, f, x, b, m⟩ := t
  obtain ⟨s2, c2, f2, x2, b2, m2⟩ := u
  unfold Sto.same
  simp [sameB_iff, Sup.same_iff, and_assoc]
theorem nod_ext {n m : Nod} (h1 : n.t = m.t) (h2 : n.dr = m.dr) (h3 : n.mi = m.mi) (h4 : n.id = m.id) (h5 : n.up = m.up) (h6 : n.pri = m.pri) (h7 : n.st = m.st) (h8 : n.ses = m.ses) (h9 : n.peer = m.peer) (h10 : n.ppri = m.ppri) (h11 : n.rq = m.rq) (h12 : n.ask = m.ask) (h13 : n.askId = m.askId) (h14 : n.want = m.want) (h15 : n.mint = m.mint) : n = m := by
  cases n
  cases m
  simp_all
theorem eqH_iff {x y : Hel} : eqH x y = true ↔ x = y := by
  obtain ⟨a, b, c, d, e, f, g, h, i, j⟩ := x
  obtain ⟨a2, b2, c2, d2, e2, f2, g2, h2, i2, j2⟩ := y
  have hj : ((j : Int) = (j2 : Int)) ↔ j = j2 := by omega
  unfold eqH
  simp [hj, and_assoc]
theorem eqH_ne {x y : Hel} (h : ¬ x = y) : eqH x y = false := by cases q : eqH x y with | false => rfl | true => exact absurd (eqH_iff.1 q) h
theorem eql_helS (a b : Operand) (x y : Hel) (w : World) : (do Go.eqGuard .eql 41 a b (helV x) (helV y); Go.binOp .eql 41 (helV x) (helV y) : Sem Value).run Tryz.prog w = .ok (.bool (eqH x y)) w := by
  simp [go_sem, eql_hel]
def eqR (x y : Req) : Bool := decide (x.on = y.on) && (decide (x.id = y.id) && (decide (x.i = y.i) && decide (x.d = y.d)))
theorem eqR_iff {x y : Req} : eqR x y = true ↔ x = y := by
  obtain ⟨a, b, c, d⟩ := x
  obtain ⟨a2, b2, c2, d2⟩ := y
  simp [eqR]
theorem eqR_ne {x y : Req} (h : ¬ x = y) : eqR x y = false := by cases q : eqR x y with | false => rfl | true => exact absurd (eqR_iff.1 q) h
theorem eql_req (d : Nat) (x y : Req) (w : World) : (Op.equalIn (d + 2) 43 (.agg #[.bool x.on, .int .i64 x.id, .int .i64 x.i, .string x.d]) (.agg #[.bool y.on, .int .i64 y.id, .int .i64 y.i, .string y.d])).run Tryz.prog w = .ok (eqR x y) w := by
  unfold eqR
  by_cases h0 : x.on = y.on
  · by_cases h1 : x.id = y.id
    · by_cases h2 : x.i = y.i
      · simp [go_sem, h0, h1, h2]
        by_cases h4 : x.d = y.d
        · simp [h4]
        · rw [if_neg (fun e => h4 (toList_inj e))]; simp [h4]
      · simp [go_sem, h0, h1, h2]
    · simp [go_sem, h0, h1]
  · simp [go_sem, h0]
theorem eql_reqS (a b : Operand) (x y : Req) (w : World) : (do Go.eqGuard .eql 43 a b (.agg #[.bool x.on, .int .i64 x.id, .int .i64 x.i, .string x.d]) (.agg #[.bool y.on, .int .i64 y.id, .int .i64 y.i, .string y.d]); Go.binOp .eql 43 (.agg #[.bool x.on, .int .i64 x.id, .int .i64 x.i, .string x.d]) (.agg #[.bool y.on, .int .i64 y.id, .int .i64 y.i, .string y.d]) : Sem Value).run Tryz.prog w = .ok (.bool (eqR x y)) w := by
  simp [go_sem, eql_req]
section
variable {w : World} {n m : Nod} {a b : Adr}
theorem xsame (hn : NM w n a) (hm : NM w m b) (hl : n.t.s.length ≤ 1000) (hl2 : m.t.s.length ≤ 1000) (hl3 : n.t.c.length ≤ 1000) (hl4 : m.t.c.length ≤ 1000) (hd : n.dr.length ≤ 1000000) (hi : n.mi.length ≤ 1000000) (bb : Bool) (hbb : bb = true ↔ n = m) : Calls Tryz.prog 9 #[nodV n a, nodV m b] w fun e w' => e = .returned (.bool bb) ∧ Below w.heap.size w w' := by
  have bf : ¬ n = m → bb = false := fun h => by cases bb with | false => rfl | true => exact absurd (hbb.1 rfl) h
  refine run (K := fun u => NM u n a ∧ NM u m b) ((st_nm _ _).and (st_nm _ _)) ⟨hn, hm⟩ ?_
  refine t_v (fun u hu => rzsame_any a.A a.B a.k a.m n.t.s n.t.c n.t.f n.t.x n.t.b n.t.m b.A b.B b.k b.m m.t.s m.t.c m.t.f m.t.x m.t.b m.t.m u hu.1.t hu.2.t hl hl2 hl3 hl4) ?_
  cases h0 : Sto.same ⟨n.t.s, n.t.c, n.t.f, n.t.x, n.t.b, n.t.m⟩ ⟨m.t.s, m.t.c, m.t.f, m.t.x, m.t.b, m.t.m⟩ with
  | false =>
    exact t_lit 30 (e_r2 (.bool false) (by rw [bf fun e => by rw [e, sto_same_iff.2 rfl] at h0; cases h0]))
  | true =>
    have e0 : n.t = m.t := sto_same_iff.1 h0
    by_cases h1 : n.dr = m.dr
    rotate_left
    · refine t_lit 30 (t_v (fun u hu => xnumsEq (k := a.p) (m := b.p) hu.1.d hu.2.d hd false (by simpa using h1)) ?_)
      exact t_lit 30 (e_r2 (.bool false) (by rw [bf fun e => h1 (by rw [e])]))
    refine t_lit 30 (t_v (fun u hu => xnumsEq (k := a.p) (m := b.p) hu.1.d hu.2.d hd true (by simpa using h1)) ?_)
    by_cases h2 : n.mi = m.mi
    rotate_left
    · refine t_lit 30 (t_v (fun u hu => xmintsEq a.M a.q b.M b.q hu.1.mi hu.2.mi hi false (by simpa using h2)) ?_)
      exact t_lit 30 (e_r2 (.bool false) (by rw [bf fun e => h2 (by rw [e])]))
    refine t_lit 30 (t_v (fun u hu => xmintsEq a.M a.q b.M b.q hu.1.mi hu.2.mi hi true (by simpa using h2)) ?_)
    by_cases gid : n.id = m.id
    rotate_left
    · exact t_lit 2 (t_N (b := decide (n.id = m.id)) 99 (by simpa using gid) (e_r2 (.bool false) (by rw [bf fun e => gid (by rw [e])])))
    refine t_lit 2 (t_Y (b := decide (n.id = m.id)) 4 (by simpa using gid) ?_)
    by_cases gup : n.up = m.up
    rotate_left
    · exact (t_N (b := decide (n.up = m.up)) 99 (by simpa using gup) (e_r2 (.bool false) (by rw [bf fun e => gup (by rw [e])])))
    refine (t_Y (b := decide (n.up = m.up)) 4 (by simpa using gup) ?_)
    by_cases gpri : n.pri = m.pri
    rotate_left
    · exact (t_N (b := decide (n.pri = m.pri)) 99 (by simpa using gpri) (e_r2 (.bool false) (by rw [bf fun e => gpri (by rw [e])])))
    refine (t_Y (b := decide (n.pri = m.pri)) 4 (by simpa using gpri) ?_)
    by_cases gst : n.st = m.st
    rotate_left
    · exact (t_N (b := decide (n.st = m.st)) 99 (by simpa using gst) (e_r2 (.bool false) (by rw [bf fun e => gst (by rw [e])])))
    refine (t_Y (b := decide (n.st = m.st)) 4 (by simpa using gst) ?_)
    by_cases gses : n.ses = m.ses
    rotate_left
    · exact (t_N (b := decide (n.ses = m.ses)) 99 (by simpa using gses) (e_r2 (.bool false) (by rw [bf fun e => gses (by rw [e])])))
    refine (t_Y (b := decide (n.ses = m.ses)) 4 (by simpa using gses) ?_)
    by_cases gp : n.peer = m.peer
    rotate_left
    · exact t_sem (do Go.eqGuard .eql 41 (.tmp 1) (.tmp 1) (helV n.peer) (helV m.peer); Go.binOp .eql 41 (helV n.peer) (helV m.peer)) (v := .bool false) (fun u _ _ => by rw [eql_helS, eqH_ne gp]) (t_lit 99 (e_r2 (.bool false) (by rw [bf fun e => gp (by rw [e])])))
    refine t_sem (do Go.eqGuard .eql 41 (.tmp 1) (.tmp 1) (helV n.peer) (helV m.peer); Go.binOp .eql 41 (helV n.peer) (helV m.peer)) (v := .bool true) (fun u _ _ => by rw [eql_helS, gp, eqH_self]) ?_
    by_cases gppri : n.ppri = m.ppri
    rotate_left
    · exact t_lit 5 (t_N (b := decide (n.ppri = m.ppri)) 99 (by simpa using gppri) (e_r2 (.bool false) (by rw [bf fun e => gppri (by rw [e])])))
    refine t_lit 5 (t_Y (b := decide (n.ppri = m.ppri)) 4 (by simpa using gppri) ?_)
    by_cases gr : n.rq = m.rq
    rotate_left
    · exact t_sem (do Go.eqGuard .eql 43 (.tmp 1) (.tmp 1) (.agg #[.bool n.rq.on, .int .i64 n.rq.id, .int .i64 n.rq.i, .string n.rq.d]) (.agg #[.bool m.rq.on, .int .i64 m.rq.id, .int .i64 m.rq.i, .string m.rq.d]); Go.binOp .eql 43 (.agg #[.bool n.rq.on, .int .i64 n.rq.id, .int .i64 n.rq.i, .string n.rq.d]) (.agg #[.bool m.rq.on, .int .i64 m.rq.id, .int .i64 m.rq.i, .string m.rq.d])) (v := .bool false) (fun u _ _ => by rw [eql_reqS, eqR_ne gr]) (t_lit 99 (e_r2 (.bool false) (by rw [bf fun e => gr (by rw [e])])))
    refine t_sem (do Go.eqGuard .eql 43 (.tmp 1) (.tmp 1) (.agg #[.bool n.rq.on, .int .i64 n.rq.id, .int .i64 n.rq.i, .string n.rq.d]) (.agg #[.bool m.rq.on, .int .i64 m.rq.id, .int .i64 m.rq.i, .string m.rq.d]); Go.binOp .eql 43 (.agg #[.bool n.rq.on, .int .i64 n.rq.id, .int .i64 n.rq.i, .string n.rq.d]) (.agg #[.bool m.rq.on, .int .i64 m.rq.id, .int .i64 m.rq.i, .string m.rq.d])) (v := .bool true) (fun u _ _ => by rw [eql_reqS, eqR_iff.2 gr]) ?_
    by_cases gask : n.ask = m.ask
    rotate_left
    · exact t_lit 5 (t_N (b := decide (n.ask = m.ask)) 99 (by simpa using gask) (e_r2 (.bool false) (by rw [bf fun e => gask (by rw [e])])))
    refine t_lit 5 (t_Y (b := decide (n.ask = m.ask)) 4 (by simpa using gask) ?_)
    by_cases gaskId : n.askId = m.askId
    rotate_left
    · exact (t_N (b := decide (n.askId = m.askId)) 99 (by simpa using gaskId) (e_r2 (.bool false) (by rw [bf fun e => gaskId (by rw [e])])))
    refine (t_Y (b := decide (n.askId = m.askId)) 4 (by simpa using gaskId) ?_)
    by_cases gwant : n.want = m.want
    rotate_left
    · exact (t_N (b := decide (n.want = m.want)) 99 (by simpa using gwant) (e_r2 (.bool false) (by rw [bf fun e => gwant (by rw [e])])))
    refine (t_Y (b := decide (n.want = m.want)) 4 (by simpa using gwant) ?_)
    exact t_lit 4 (e_r2 (.bool (decide (n.mint = m.mint))) (by
      congr 1
      cases bb with
      | true => rw [hbb.1 rfl]; simp
      | false =>
        have hne : ¬ n = m := fun e => by simpa using hbb.2 e
        simpa using fun e => hne (nod_ext e0 h1 h2 gid gup gpri gst gses gp gppri gr gask gaskId gwant e)))
end
end Go.Proofs.YtkjikigimmchlaaGreatDoor
namespace Go.Proofs.YtkjikigimmchlaaGreatDoor
open Go.RowKit PX
set_option maxRecDepth 100000
end Go.Proofs.YtkjikigimmchlaaGreatDoor
