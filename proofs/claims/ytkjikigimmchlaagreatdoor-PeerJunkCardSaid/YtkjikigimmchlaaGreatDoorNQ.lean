/- Clusters plainly: what holds of every cluster that events lead to. No program in it. -/
import Derived.WalkKit
import Derived.Test.YtkjikigimmchlaaGreatDoorPS
import Derived.Test.YtkjikigimmchlaaGreatDoorPK1
import Derived.Test.YtkjikigimmchlaaGreatDoorRF
import Derived.Test.YtkjikigimmchlaaGreatDoorYC
namespace Go.Proofs.YtkjikigimmchlaaGreatDoor
structure Mnt where
  g : Int
  p : Int
  k : Int
end Go.Proofs.YtkjikigimmchlaaGreatDoor
namespace Go.Proofs.YtkjikigimmchlaaGreatDoor
open Go.RowKit
structure Req where
  on : Bool
  id : Int
  i : Int
  d : ByteArray
def Req.zero : Req := ⟨false, 0, 0, ⟨#[]⟩⟩
structure Nod where
  id : Int
  up : Bool
  t : Sto
  pri : Bool
  st : Int
  ses : Int
  peer : Hel
  ppri : Bool
  rq : Req
  ask : Bool
  askId : Int
  want : Int
  mint : Bool
  dr : List Int
  mi : List Mnt
structure Ou where
  k : Int
  n : Int
  id : Int
  e : Int
  d : ByteArray
structure Evt where
  k : Int
  n : Int
  id : Int
  i : Int
  d : ByteArray
  g : Int
  keeps : List Bool
def e1 : ByteArray := ⟨#[]⟩
def Nod.fresh (id : Int) (up : Bool) (t : Sto) (dr : List Int) (mi : List Mnt) : Nod := ⟨id, up, t, false, 0, 0, Hel.zero, false, Req.zero, false, 0, 0, false, dr, mi⟩
def Nod.down (n : Nod) : Nod := Nod.fresh n.id false ⟨n.t.s, n.t.c, 0, true, Sup.zero, 0⟩ n.dr n.mi
def Nod.revive (n : Nod) (l : List Bool) : List ByteArray := layL n.t.s (keptL n.t.c l n.t.c.length)
def Nod.attach (n : Nod) (l : List Bool) : Nod × Int :=
  if n.up = true then (n, 7)
  else if attE (n.revive l) [] false = 0 then (Nod.fresh n.id true (att (n.revive l) [] 0 false) n.dr n.mi, 0)
  else ({ n with t := { n.t with s := n.revive l, c := [], f := 0, x := false } }, attE (n.revive l) [] false)
def Nod.reply (n : Nod) (id e : Int) (d : ByteArray) : Ou := ⟨2, n.id, id, e, d⟩
def Nod.send (n : Nod) (p : Pkt) : Ou := ⟨1, n.id, 0, 0, Pkt.encT { p with s := n.ses }⟩
def Nod.close (n : Nod) : Ou := ⟨3, n.id, 0, 0, e1⟩
def Nod.refuse (n : Nod) (id e : Int) : Nod × List Ou := (n, [n.reply id e e1])
def pk (k : Int) : Pkt := ⟨k, 0, Hel.zero, 0, e1⟩
def pkI (k i : Int) : Pkt := ⟨k, 0, Hel.zero, i, e1⟩
def pkD (k i : Int) (d : ByteArray) : Pkt := ⟨k, 0, Hel.zero, i, d⟩
def pkH (h : Hel) : Pkt := ⟨1, 0, h, 0, e1⟩
def Nod.keep (n : Nod) (r : Sto × Int) : Nod × Bool := if r.2 = 0 then ({ n with t := r.1 }, true) else (Nod.down { n with t := r.1 }, false)
def Nod.commit (n : Nod) (b : Sup) : Nod × Bool := n.keep (n.t.commit b)
def Nod.linked (n : Nod) : Bool := n.st == 2 || n.st == 3
def Sup.minted (b : Sup) (g : Int) : Sup := { b with c := g, b := mintB b.c b.b g, o := mintO b.c b.b b.o g, p := mintP b.b b.o b.p g }
def Sup.retired (b : Sup) : Sup := { b with b := 0, o := retO b.b b.o, p := retP b.b b.o b.p }
def Nod.mints (n : Nod) : Nod × Int :=
  match n.dr with
  | [] => (n, 14)
  | g :: r =>
    if g = 0 then ({ n with dr := r }, 14)
    else
      let m := Nod.commit { n with dr := r, mi := n.mi ++ [⟨g, n.t.b.c, n.id⟩] } (n.t.b.minted g)
      if m.2 = true then ({ m.1 with mint := true }, 0) else (m.1, 6)
def Nod.lay (n : Nod) (i : Int) (d : ByteArray) : Nod × Bool :=
  let m := n.keep (n.t.mark i)
  if m.2 = true then m.1.keep (m.1.t.put i d) else (m.1, false)
def Nod.wipe (n : Nod) (i : Int) : Nod × Bool := n.keep (n.t.wipe i)
def Nod.promote (n : Nod) (id : Int) : Nod × List Ou :=
  if n.up = false then n.refuse id 7
  else if n.pri = true then n.refuse id 8
  else if n.t.b.i = true then n.refuse id 9
  else if n.t.b.d = true then n.refuse id 10
  else if n.st = 1 ∨ n.st = 4 ∨ n.ask = true then n.refuse id 11
  else if n.ppri = true then n.refuse id 12
  else if n.linked = true then ({ n with ask := true, askId := id }, [n.send (pk 10)])
  else
    let m := n.commit { n.t.b with r := true }
    if m.2 = true then ({ m.1 with pri := true }, [m.1.reply id 0 e1]) else (m.1, [])
def Nod.demote (n : Nod) (id : Int) : Nod × List Ou :=
  if n.up = false then n.refuse id 7
  else if n.pri = false then n.refuse id 8
  else if n.rq.on = true ∨ n.st = 1 then n.refuse id 11
  else
    let m := n.commit { n.t.b with r := false }
    if m.2 = true then ({ m.1 with pri := false }, (if m.1.linked = true then [m.1.send (pk 13)] else []) ++ [m.1.reply id 0 e1]) else (m.1, [])
def Nod.discard (n : Nod) (id : Int) : Nod × List Ou :=
  if n.up = false then n.refuse id 7
  else if n.pri = true then n.refuse id 8
  else if n.st ≠ 0 then n.refuse id 11
  else
    let m := n.commit { n.t.b with d := true }
    if m.2 = true then (m.1, [m.1.reply id 0 e1]) else (m.1, [])
def Nod.read (n : Nod) (id i : Int) : Nod × List Ou :=
  if n.up = false then n.refuse id 7
  else if n.pri = false then n.refuse id 8
  else (n, [n.reply id (n.t.read i).2 (n.t.read i).1])
def Nod.badW (n : Nod) (i : Int) (d : ByteArray) : Int :=
  if n.up = false then 7 else if n.pri = false then 8 else if i < 0 ∨ n.t.b.n ≤ i then 4 else if d.size ≠ 8 then 5 else if n.rq.on = true ∨ n.st = 1 then 11 else 0
def Nod.laid (n : Nod) (id i : Int) (d : ByteArray) : Nod × List Ou :=
  let m := n.lay i d
  if m.2 = true then
    (if m.1.st = 0 then (m.1, [m.1.reply id 0 e1]) else ({ m.1 with rq := ⟨true, id, i, d⟩ }, [m.1.send (pkD 2 i d)]))
  else (m.1, [])
def Nod.write (n : Nod) (id i : Int) (d : ByteArray) : Nod × List Ou :=
  if n.badW i d = 0 then
    (if n.st = 0 ∧ n.mint = false then
      (if n.mints.2 = 6 then (n.mints.1, []) else if n.mints.2 = 0 then n.mints.1.laid id i d else (n.mints.1, [n.mints.1.reply id n.mints.2 e1]))
    else n.laid id i d)
  else n.refuse id (n.badW i d)
def Nod.acked (n : Nod) (i : Int) : Nod × List Ou :=
  if n.rq.on = true ∧ n.rq.i = i then
    let m := Nod.wipe { n with rq := Req.zero } i
    (m.1, n.reply n.rq.id 0 e1 :: if m.2 = true then [m.1.send (pkI 4 i)] else [])
  else (n, [])
def Nod.apply (n : Nod) (i : Int) (d : ByteArray) : Nod × List Ou :=
  let m := n.lay i d
  (m.1, if m.2 = true then [m.1.send (pkI 3 i)] else [])
def Nod.cleaned (n : Nod) (i : Int) : Nod × List Ou := ((n.wipe i).1, [])
def Nod.lose (n : Nod) : Nod × List Ou :=
  if n.st = 0 then (n, [])
  else
    let out := if n.ask = true then [n.reply n.askId 13 e1] else []
    let k : Nod := ⟨n.id, n.up, n.t, n.pri, 0, 0, Hel.zero, false, Req.zero, false, 0, 0, false, n.dr, n.mi⟩
    if n.rq.on = true then (k.mints.1, out ++ if k.mints.2 = 6 then [] else [k.mints.1.reply n.rq.id k.mints.2 e1]) else (k, out)
def Nod.seek (n : Nod) : Nod × List Ou :=
  if n.t.b.i = false ∨ n.want ≠ 0 then (n, [])
  else match nx n.t.m 0 with
  | some j => ({ n with want := (j : Int) + 1 }, [n.send (pkI 5 j)])
  | none =>
    let m := n.commit (Sup.retired ⟨n.t.b.n, n.peer.c, n.peer.b, n.peer.o, n.peer.p, false, false, false⟩)
    (m.1, if m.2 = true then [m.1.send (pk 8)] else [])
def Nod.give (n : Nod) (i : Int) : Nod × List Ou := (n, [n.send (pkD 6 i (n.t.read i).1)])
def Nod.got (n : Nod) (i : Int) (d : ByteArray) : Nod × List Ou :=
  if n.want = i + 1 then
    let m := n.keep (n.t.put i d)
    if m.2 = true then
      let k := m.1.wipe i
      if k.2 = true then
        let x := Nod.seek { k.1 with want := 0 }
        (x.1, k.1.send (pkI 7 i) :: x.2)
      else (k.1, [])
    else (m.1, [])
  else (n, [])
def Nod.copied (n : Nod) (i : Int) : Nod × List Ou := if n.rq.on = true ∧ n.rq.i = i then (n, []) else ((n.wipe i).1, [])
def Nod.ended (n : Nod) : Nod × List Ou :=
  let m := n.commit { n.t.b.retired with r := n.pri }
  if m.2 = true then ({ m.1 with st := 2 }, [m.1.send (pk 9)]) else (m.1, [])
def Nod.done (n : Nod) : Nod := { n with st := 2 }
def Nod.own (n : Nod) : Hel := ⟨n.t.b.n, n.t.b.c, n.t.b.b, n.t.b.o, n.t.b.p, n.t.b.i, n.t.b.r && !n.pri, n.t.b.d, n.pri, n.t.m⟩
def Nod.begins (n : Nod) (s : Int) : Nod × List Ou :=
  let m : Nod := { n with st := 1, ses := s, mint := false }
  (m, [m.send (pkH m.own)])
def Nod.first (n : Nod) (h : Hel) : Hel := if n.id = 1 then h else n.own
def Nod.second (n : Nod) (h : Hel) : Hel := if n.id = 1 then n.own else h
def Nod.verK (n : Nod) (h : Hel) : Int := decK (n.first h) (n.second h)
def Nod.verS (n : Nod) (h : Hel) : Int := decS (n.first h) (n.second h)
def Nod.verB (n : Nod) (h : Hel) : Nat := bitsB (n.verK h) (n.first h) (n.second h)
def Nod.met (n : Nod) (h : Hel) : Nod × List Ou :=
  if n.verK h = 4 then (n, [n.close])
  else if n.verK h = 1 then
    let m := n.commit { n.t.b.retired with r := n.pri }
    (if m.2 = true then { m.1 with st := 2, ppri := h.q, peer := h } else m.1, [])
  else
    let m := n.keep (n.t.join (n.verB h))
    if m.2 = true then
      (if n.verS h = n.id then ({ m.1 with st := 3, ppri := h.q, peer := h }, [])
      else
        let k := m.1.commit { n.t.b with i := true, r := false, b := h.c }
        if k.2 = true then Nod.seek { k.1 with st := 4, ppri := h.q, peer := h } else (k.1, []))
    else (m.1, [])
def Nod.fits (n : Nod) (p : Pkt) : Bool :=
  if n.up = false ∨ (2 ≤ p.k ∧ p.k ≤ 7 ∧ n.t.b.n ≤ p.b) then false
  else if p.k = 1 then n.st == 1
  else if p.k = 2 then !n.pri && (n.st == 2 || n.st == 4)
  else if p.k = 3 then n.st == 2 || n.st == 3
  else if p.k = 4 then n.st == 2 || n.st == 4
  else if p.k = 5 ∨ p.k = 7 ∨ p.k = 8 then n.st == 3
  else if p.k = 6 then n.st == 4
  else if p.k = 9 then n.st == 4 && !n.t.b.i
  else if p.k = 10 ∨ p.k = 13 then n.st == 2 || (n.st == 3 || n.st == 4)
  else if p.k = 11 ∨ p.k = 12 then n.ask && (n.st == 2 || (n.st == 3 || n.st == 4))
  else false
def Nod.roles (n : Nod) (k : Int) : Nod × List Ou :=
  if k = 10 then (if n.pri = true ∨ n.ask = true then (n, [n.send (pk 12)]) else ({ n with ppri := true }, [n.send (pk 11)]))
  else if k = 12 then ({ n with ask := false, askId := 0 }, [n.reply n.askId 12 e1])
  else if k = 13 then ({ n with ppri := false }, [])
  else
    let m := n.commit { n.t.b with r := true }
    if m.2 = true then ({ m.1 with pri := true, ask := false, askId := 0 }, [m.1.reply n.askId 0 e1]) else (m.1, [])
def Nod.takes (n : Nod) (p : Pkt) : Nod × List Ou :=
  if p.k = 1 then n.met p.h
  else if p.k = 2 then n.apply p.b p.d
  else if p.k = 3 then n.acked p.b
  else if p.k = 4 then n.cleaned p.b
  else if p.k = 5 then n.give p.b
  else if p.k = 6 then n.got p.b p.d
  else if p.k = 7 then n.copied p.b
  else if p.k = 8 then n.ended
  else if p.k = 9 then (n.done, [])
  else n.roles p.k
def Nod.receive (n : Nod) (b : ByteArray) : Nod × List Ou :=
  if n.up = false ∨ n.st = 0 then (n, [])
  else if (readP b n.ses).2 = 16 then (n, [])
  else if (readP b n.ses).2 ≠ 0 ∨ n.fits (readP b n.ses).1 = false then (n, [n.close])
  else n.takes (readP b n.ses).1
structure Clu where
  a : Nod
  b : Nod
  l : Lnk
  wa : Bool
  wb : Bool
def Clu.nd (c : Clu) (i : Int) : Nod := if i = 0 then c.a else c.b
def Clu.setN (c : Clu) (i : Int) (n : Nod) : Clu := if i = 0 then { c with a := n } else { c with b := n }
def Clu.wants (c : Clu) (i : Int) : Bool := if i = 0 then c.wa else c.wb
def Clu.setW (c : Clu) (i : Int) (w : Bool) : Clu := if i = 0 then { c with wa := w } else { c with wb := w }
def Clu.loses (c : Clu) (i : Int) (out : List Ou) : Clu × List Ou :=
  if (c.nd i).up = false then (c, out)
  else
    let r := (c.nd i).lose
    (if r.1.up = true then c.setN i r.1 else (c.setN i r.1).setW i false, out ++ r.2)
def Clu.ends (c : Clu) (out : List Ou) : Clu × List Ou :=
  let r := Clu.loses { c with l := c.l.closed } 0 out
  r.1.loses 1 r.2
def sendsL (l : Lnk) (g : Int) : List Ou → Lnk
  | [] => l
  | o :: r => if o.k = 1 then sendsL (if l.u = true then l.send g [o.d] else l) g r else sendsL l g r
def saysL (l : List Ou) : List Ou := l.filter fun o => !decide (o.k = 1)
def closesL (l : List Ou) : Bool := l.any fun o => decide (o.k = 3)
def Clu.after (c : Clu) (i : Int) (n : Nod) (l : List Ou) : Clu × List Ou :=
  let c1 : Clu := { c.setN i n with l := sendsL c.l (1 - i) l }
  let c2 := if n.up = true then c1 else c1.setW i false
  if c2.l.u = false ∨ (n.up = true ∧ closesL l = false) then (c2, saysL l)
  else Clu.ends (if closesL l = true then { c2 with wa := false, wb := false } else c2) (saysL l)
def Clu.connect (c : Clu) (i : Int) : Clu × List Ou :=
  if (c.nd i).up = false then (c, [])
  else
    let c1 := c.setW i true
    if c1.wants (1 - i) = false ∨ (c1.nd (1 - i)).up = false ∨ c1.l.u = true then (c1, [])
    else
      let c2 : Clu := { c1 with l := c1.l.opened }
      let r := c2.a.begins c2.l.s
      let c3 := c2.after 0 r.1 r.2
      let q := c3.1.b.begins c3.1.l.s
      let c4 := c3.1.after 1 q.1 q.2
      (c4.1, c3.2 ++ c4.2)
def Clu.ev4 (c : Clu) (v : Evt) (n : Nod) : Clu × List Ou :=
  if v.k = 12 then c.after v.n (if n.up = true then { n with t := { n.t with f := min v.g 1000 } } else n) []
  else if v.k = 13 then (c.setN v.n (if n.dr.length < 1000 then { n with dr := n.dr ++ [v.g] } else n), [])
  else if v.k = 14 then (if (readP v.d c.l.s).2 = 0 then (c, []) else c.after v.n (n.receive v.d).1 (n.receive v.d).2)
  else (c, [])
def Clu.ev3 (c : Clu) (v : Evt) (n : Nod) : Clu × List Ou :=
  if v.k = 9 then
    (if c.l.takes v.n = true then Clu.after { c with l := c.l.taken v.n } v.n (n.receive (c.l.first v.n)).1 (n.receive (c.l.first v.n)).2
    else (c, []))
  else if v.k = 10 then (if n.up = true then c.after v.n n.down [] else (c, []))
  else if v.k = 11 then (c.setN v.n (n.attach v.keeps).1, [(n.attach v.keeps).1.reply v.id (n.attach v.keeps).2 e1])
  else c.ev4 v n
def Clu.ev2 (c : Clu) (v : Evt) (n : Nod) : Clu × List Ou :=
  if v.k = 6 then c.connect v.n
  else if v.k = 7 then (if c.l.u = true then (c.setW v.n false).ends [] else (c.setW v.n false, []))
  else if v.k = 8 then (if c.l.u = true then c.ends [] else (c, []))
  else c.ev3 v n
def Clu.ev1 (c : Clu) (v : Evt) (n : Nod) : Clu × List Ou :=
  if v.k = 1 then c.after v.n (n.promote v.id).1 (n.promote v.id).2
  else if v.k = 2 then c.after v.n (n.demote v.id).1 (n.demote v.id).2
  else if v.k = 3 then c.after v.n (n.discard v.id).1 (n.discard v.id).2
  else if v.k = 4 then c.after v.n (n.read v.id v.i).1 (n.read v.id v.i).2
  else if v.k = 5 then c.after v.n (n.write v.id v.i v.d).1 (n.write v.id v.i v.d).2
  else c.ev2 v n
def Clu.doEv (c : Clu) (v : Evt) : Clu × List Ou := if v.n ≠ 0 ∧ v.n ≠ 1 then (c, []) else c.ev1 v (c.nd v.n)
def Clu.play (c : Clu) : List Evt → Clu × List Ou
  | [] => (c, [])
  | v :: r =>
    let d := c.doEv v
    let q := d.1.play r
    (q.1, d.2 ++ q.2)
def newN (N : Nat) (i : Int) : Nod := Nod.fresh i true (newS N) [] []
def newC (N : Nat) : Clu := ⟨newN N 0, newN N 1, ⟨false, 0, [], []⟩, false, false⟩
def reachC (N : Nat) (l : List Evt) : Clu := ((newC N).play l).1
end Go.Proofs.YtkjikigimmchlaaGreatDoor
namespace Go.Proofs.YtkjikigimmchlaaGreatDoor
open Go.RowKit
def B64 (x : Int) : Prop := 0 ≤ x ∧ x < 18446744073709551616
theorem b64_zero : B64 0 := by unfold B64; decide
structure NOk (N q : Nat) (n : Nod) : Prop where
  fine : Fine N n.t.s n.t.c
  len : n.t.c.length ≤ q
  f0 : 0 ≤ n.t.f
  f1 : n.t.f ≤ 1000
  live : n.up = true → Whole N n.t
  ses : B64 n.ses
  peer : n.peer.wide
  dr : ∀ g ∈ n.dr, B64 g
  mi : ∀ x ∈ n.mi, B64 x.g ∧ B64 x.p
  dl : n.dr.length ≤ 1000
  ml : n.mi.length ≤ q
section
variable {N q : Nat} {n : Nod}
theorem NOk.mono {q2 : Nat} (h : NOk N q n) (hq : q ≤ q2) : NOk N q2 n := ⟨h.fine, Nat.le_trans h.len hq, h.f0, h.f1, h.live, h.ses, h.peer, h.dr, h.mi, h.dl, Nat.le_trans h.ml hq⟩
theorem NOk.fit (h : NOk N q n) (hq : q ≤ 900) : Fit n.t.s n.t.c n.t.f := h.fine.fit (by have := h.len; omega) (by have := h.f1; omega)
theorem NOk.fresh {s : List ByteArray} {c : List Wr} {id : Int} (hf : Fine N s c) (hl : c.length ≤ q) {dr : List Int} {mi : List Mnt} (hd : ∀ g ∈ dr, B64 g) (hm : ∀ x ∈ mi, B64 x.g ∧ B64 x.p) (hdl : dr.length ≤ 1000) (hml : mi.length ≤ q) : NOk N q (Nod.fresh id false ⟨s, c, 0, true, Sup.zero, 0⟩ dr mi) :=
  ⟨hf, hl, Int.le_refl _, by show (0 : Int) ≤ 1000; decide, (fun e => by cases e), b64_zero, Hel.zero_wide, hd, hm, hdl, hml⟩
theorem NOk.down (h : NOk N q n) : NOk N q n.down := NOk.fresh h.fine h.len h.dr h.mi h.dl h.ml
theorem NOk.as {n2 : Nod} (h : NOk N q n) (ht : n2.t = n.t) (hu : n2.up = n.up) (hs : B64 n2.ses) (hp : n2.peer.wide) (hd : n2.dr = n.dr) (hm : n2.mi = n.mi) : NOk N q n2 :=
  ⟨by rw [ht]; exact h.fine, by rw [ht]; exact h.len, by rw [ht]; exact h.f0, by rw [ht]; exact h.f1, by rw [ht, hu]; exact h.live, hs, hp, by rw [hd]; exact h.dr, by rw [hm]; exact h.mi, by rw [hd]; exact h.dl, by rw [hm]; exact h.ml⟩
theorem goes_ok {r : Sto × Int} (g : Goes N n.t r) (he : r.2 = 0) : Whole N r.1 := by
  cases hx : r.1.x with
  | false => exact g.live hx
  | true =>
    have := g.dead hx
    omega
theorem NOk.keepM {r : Sto × Int} (h : NOk N q n) (g : Goes N n.t r) {dr : List Int} {mi : List Mnt} (hd : ∀ g ∈ dr, B64 g) (hm : ∀ x ∈ mi, B64 x.g ∧ B64 x.p) (hdl : dr.length ≤ 1000) (hml : mi.length ≤ q + 1) : NOk N (q + 1) (Nod.keep { n with dr := dr, mi := mi } r).1 := by
  have hl : r.1.c.length ≤ q + 1 := by have := g.len; have := h.len; omega
  unfold Nod.keep
  by_cases he : r.2 = 0
  · rw [if_pos he]
    exact ⟨g.fine, hl, g.f0, by have := g.f1; have := h.f1; show r.1.f ≤ 1000; omega, fun _ => goes_ok g he, h.ses, h.peer, hd, hm, hdl, hml⟩
  · rw [if_neg he]
    exact NOk.fresh g.fine hl hd hm hdl hml
theorem NOk.keep {r : Sto × Int} (h : NOk N q n) (g : Goes N n.t r) : NOk N (q + 1) (n.keep r).1 := h.keepM g h.dr h.mi h.dl (by have := h.ml; omega)
theorem keep_up {r : Sto × Int} (hk : (n.keep r).2 = true) : (n.keep r).1 = { n with t := r.1 } := by
  unfold Nod.keep at hk ⊢
  by_cases he : r.2 = 0
  · rw [if_pos he]
  · rw [if_neg he] at hk
    cases hk
theorem NOk.commit (h : NOk N q n) (hu : n.up = true) {b : Sup} (hw : b.wide) : NOk N (q + 1) (n.commit b).1 := h.keep (goes_commit (h.live hu) hw)
theorem NOk.wipe (h : NOk N q n) (hu : n.up = true) (i : Int) : NOk N (q + 1) (n.wipe i).1 := h.keep (goes_wipe (h.live hu) i)
theorem NOk.lay (h : NOk N q n) (hu : n.up = true) (i : Int) (d : ByteArray) : NOk N (q + 2) (n.lay i d).1 := by
  unfold Nod.lay
  have hm := h.keep (goes_mark (h.live hu) i)
  dsimp only
  split
  · next hk =>
    have hu2 : (n.keep (n.t.mark i)).1.up = true := by rw [keep_up hk]; exact hu
    exact hm.keep (goes_put (hm.live hu2) i d)
  · exact hm.mono (by omega)
theorem commit_up {b : Sup} (hk : (n.commit b).2 = true) : (n.commit b).1 = { n with t := (n.t.commit b).1 } := keep_up hk
theorem NOk.bw (h : NOk N q n) (hu : n.up = true) : n.t.b.wide := (h.live hu).bw
end
theorem minted_wide {b : Sup} {g : Int} (h : b.wide) (hg : B64 g) : (b.minted g).wide := by
  obtain ⟨h1, h2, h3, h4⟩ := h
  refine ⟨hg, ?_, ?_, ?_⟩
  · show 0 ≤ mintB b.c b.b g ∧ mintB b.c b.b g < _
    unfold mintB
    split
    · exact ⟨Int.le_refl _, by decide⟩
    · split
      · exact h1
      · exact h2
  · show 0 ≤ mintO b.c b.b b.o g ∧ mintO b.c b.b b.o g < _
    unfold mintO
    split
    · exact ⟨Int.le_refl _, by decide⟩
    · split
      · exact h3
      · exact h1
  · show 0 ≤ mintP b.b b.o b.p g ∧ mintP b.b b.o b.p g < _
    unfold mintP
    split
    · exact ⟨Int.le_refl _, by decide⟩
    · split
      · exact h4
      · exact h3
theorem retired_wide {b : Sup} (h : b.wide) : b.retired.wide := by
  obtain ⟨h1, h2, h3, h4⟩ := h
  refine ⟨h1, (show 0 ≤ (0 : Int) ∧ (0 : Int) < 18446744073709551616 by decide), ?_, ?_⟩
  · show 0 ≤ retO b.b b.o ∧ retO b.b b.o < _
    unfold retO
    split
    · exact h3
    · exact h2
  · show 0 ≤ retP b.b b.o b.p ∧ retP b.b b.o b.p < _
    unfold retP
    split
    · exact h4
    · exact h3
section
variable {N q : Nat} {n : Nod}
theorem NOk.promote (h : NOk N q n) (id : Int) : NOk N (q + 1) (n.promote id).1 := by
  have h1 := h.mono (show q ≤ q + 1 by omega)
  unfold Nod.promote
  split; · exact h1
  next hu =>
  have hu : n.up = true := by simpa using hu
  split; · exact h1
  split; · exact h1
  split; · exact h1
  split; · exact h1
  split; · exact h1
  split; · exact h1.as rfl rfl h.ses h.peer rfl rfl
  have hc := h.commit hu (b := { n.t.b with r := true }) (h.bw hu)
  dsimp only
  split
  · exact hc.as rfl rfl hc.ses hc.peer rfl rfl
  · exact hc
theorem NOk.demote (h : NOk N q n) (id : Int) : NOk N (q + 1) (n.demote id).1 := by
  have h1 := h.mono (show q ≤ q + 1 by omega)
  unfold Nod.demote
  split; · exact h1
  next hu =>
  have hu : n.up = true := by simpa using hu
  split; · exact h1
  split; · exact h1
  have hc := h.commit hu (b := { n.t.b with r := false }) (h.bw hu)
  dsimp only
  split
  · exact hc.as rfl rfl hc.ses hc.peer rfl rfl
  · exact hc
theorem NOk.discard (h : NOk N q n) (id : Int) : NOk N (q + 1) (n.discard id).1 := by
  have h1 := h.mono (show q ≤ q + 1 by omega)
  unfold Nod.discard
  split; · exact h1
  next hu =>
  have hu : n.up = true := by simpa using hu
  split; · exact h1
  split; · exact h1
  have hc := h.commit hu (b := { n.t.b with d := true }) (h.bw hu)
  dsimp only
  split
  · exact hc
  · exact hc
theorem NOk.read (h : NOk N q n) (id i : Int) : NOk N q (n.read id i).1 := by
  unfold Nod.read
  split; · exact h
  split; · exact h
  exact h
theorem NOk.mints (h : NOk N q n) (hu : n.up = true) : NOk N (q + 1) n.mints.1 := by
  have h1 := h.mono (show q ≤ q + 1 by omega)
  unfold Nod.mints
  split
  · exact h1
  · next g r hd =>
    have hg : B64 g := h.dr g (by rw [hd]; exact List.mem_cons_self ..)
    have hr : ∀ x ∈ r, B64 x := fun x hx => h.dr x (by rw [hd]; exact List.mem_cons_of_mem _ hx)
    have hrl : r.length ≤ 1000 := by have := h.dl; rw [hd] at this; exact Nat.le_of_succ_le this
    split
    · exact ⟨h1.fine, h1.len, h1.f0, h1.f1, h1.live, h1.ses, h1.peer, hr, h1.mi, hrl, h1.ml⟩
    · have hw := h.bw hu
      have hmi : ∀ x ∈ n.mi ++ [(⟨g, n.t.b.c, n.id⟩ : Mnt)], B64 x.g ∧ B64 x.p := fun x hx => by
        rcases List.mem_append.1 hx with hx | hx
        · exact h.mi x hx
        · rw [List.mem_singleton] at hx
          subst hx
          exact ⟨hg, hw.1⟩
      have hc : NOk N (q + 1) (Nod.commit { n with dr := r, mi := n.mi ++ [(⟨g, n.t.b.c, n.id⟩ : Mnt)] } (n.t.b.minted g)).1 := h.keepM (goes_commit (h.live hu) (minted_wide hw hg)) hr hmi hrl (by rw [List.length_append]; have := h.ml; show n.mi.length + 1 ≤ q + 1; omega)
      dsimp only
      split
      · exact hc.as rfl rfl hc.ses hc.peer rfl rfl
      · exact hc
end
section
variable {N q : Nat} {n : Nod}
theorem mints_up (hu : n.up = true) (he : n.mints.2 ≠ 6) : n.mints.1.up = true := by
  unfold Nod.mints at he ⊢
  split at he
  · exact hu
  · next g r hd =>
    by_cases hg : g = 0
    · rw [if_pos hg]; exact hu
    · rw [if_neg hg] at he ⊢
      dsimp only at he ⊢
      split at he
      · next hk => rw [if_pos hk]; dsimp only; rw [commit_up hk]; exact hu
      · exact absurd rfl he
theorem NOk.laid (h : NOk N q n) (hu : n.up = true) (id i : Int) (d : ByteArray) : NOk N (q + 2) (n.laid id i d).1 := by
  have hl := h.lay hu i d
  unfold Nod.laid
  dsimp only
  split
  · split
    · exact hl
    · exact hl.as rfl rfl hl.ses hl.peer rfl rfl
  · exact hl
theorem bad_up {i : Int} {d : ByteArray} (h : n.badW i d = 0) : n.up = true := by
  unfold Nod.badW at h
  split at h
  · cases h
  · next hu => simpa using hu
theorem NOk.write (h : NOk N q n) (id i : Int) (d : ByteArray) : NOk N (q + 3) (n.write id i d).1 := by
  have h3 := h.mono (show q ≤ q + 3 by omega)
  unfold Nod.write
  split
  · next hb =>
    have hu := bad_up hb
    have hm := h.mints hu
    split
    · split
      · exact hm.mono (by omega)
      · next he =>
        split
        · exact hm.laid (mints_up hu he) id i d
        · exact hm.mono (by omega)
    · exact (h.laid hu id i d).mono (by omega)
  · exact h3
theorem NOk.acked (h : NOk N q n) (hu : n.up = true) (i : Int) : NOk N (q + 1) (n.acked i).1 := by
  unfold Nod.acked
  split
  · exact (h.as (n2 := { n with rq := Req.zero }) rfl rfl h.ses h.peer rfl rfl).wipe hu i
  · exact h.mono (by omega)
theorem NOk.apply (h : NOk N q n) (hu : n.up = true) (i : Int) (d : ByteArray) : NOk N (q + 2) (n.apply i d).1 := h.lay hu i d
theorem NOk.cleaned (h : NOk N q n) (hu : n.up = true) (i : Int) : NOk N (q + 1) (n.cleaned i).1 := h.wipe hu i
theorem NOk.copied (h : NOk N q n) (hu : n.up = true) (i : Int) : NOk N (q + 1) (n.copied i).1 := by
  unfold Nod.copied
  split
  · exact h.mono (by omega)
  · exact h.wipe hu i
theorem NOk.lose (h : NOk N q n) (hu : n.up = true) : NOk N (q + 1) n.lose.1 := by
  have h1 := h.mono (show q ≤ q + 1 by omega)
  unfold Nod.lose
  split
  · exact h1
  · have hk : NOk N q ⟨n.id, n.up, n.t, n.pri, 0, 0, Hel.zero, false, Req.zero, false, 0, 0, false, n.dr, n.mi⟩ := h.as rfl rfl b64_zero Hel.zero_wide rfl rfl
    dsimp only
    split
    · exact hk.mints hu
    · exact hk.mono (by omega)
theorem peer_wide {p : Hel} (h : p.wide) (k : Int) : (Sup.retired ⟨k, p.c, p.b, p.o, p.p, false, false, false⟩).wide := retired_wide ⟨h.1, h.2.1, h.2.2.1, h.2.2.2.1⟩
theorem NOk.seek (h : NOk N q n) (hu : n.up = true) : NOk N (q + 1) n.seek.1 := by
  have h1 := h.mono (show q ≤ q + 1 by omega)
  unfold Nod.seek
  split
  · exact h1
  · split
    · exact h1.as rfl rfl h.ses h.peer rfl rfl
    · exact h.commit hu (peer_wide h.peer _)
theorem NOk.got (h : NOk N q n) (hu : n.up = true) (i : Int) (d : ByteArray) : NOk N (q + 3) (n.got i d).1 := by
  unfold Nod.got
  split
  · have hm := h.keep (goes_put (h.live hu) i d)
    dsimp only
    split
    · next hk =>
      have hu2 : (n.keep (n.t.put i d)).1.up = true := by rw [keep_up hk]; exact hu
      have hw := hm.wipe hu2 i
      split
      · next hk2 =>
        have hu3 : ((n.keep (n.t.put i d)).1.wipe i).1.up = true := by
          unfold Nod.wipe at hk2 ⊢
          rw [keep_up hk2]
          exact hu2
        exact (hw.as (n2 := { ((n.keep (n.t.put i d)).1.wipe i).1 with want := 0 }) rfl rfl hw.ses hw.peer rfl rfl).seek hu3
      · exact hw.mono (by omega)
    · exact hm.mono (by omega)
  · exact h.mono (by omega)
theorem NOk.ended (h : NOk N q n) (hu : n.up = true) : NOk N (q + 1) n.ended.1 := by
  have hr : n.t.b.retired.wide := retired_wide (h.bw hu)
  have hc := h.commit hu (b := { n.t.b.retired with r := n.pri }) ⟨hr.1, hr.2.1, hr.2.2.1, hr.2.2.2⟩
  unfold Nod.ended
  dsimp only
  split
  · exact hc.as rfl rfl hc.ses hc.peer rfl rfl
  · exact hc
theorem NOk.done (h : NOk N q n) : NOk N q n.done := h.as rfl rfl h.ses h.peer rfl rfl
theorem NOk.begins (h : NOk N q n) {s : Int} (hs : B64 s) : NOk N q (n.begins s).1 := h.as rfl rfl hs h.peer rfl rfl
theorem NOk.met (h : NOk N q n) (hu : n.up = true) {p : Hel} (hp : p.wide) : NOk N (q + 3) (n.met p).1 := by
  unfold Nod.met
  split
  · exact h.mono (by omega)
  · split
    · have hr : n.t.b.retired.wide := retired_wide (h.bw hu)
      have hc := h.commit hu (b := { n.t.b.retired with r := n.pri }) ⟨hr.1, hr.2.1, hr.2.2.1, hr.2.2.2⟩
      dsimp only
      split
      · refine NOk.mono (q := q + 1) ?_ (by omega)
        exact hc.as rfl rfl hc.ses hp rfl rfl
      · exact hc.mono (by omega)
    · have hm := h.keep (goes_join (h.live hu) (n.verB p))
      dsimp only
      split
      · next hk =>
        have hu2 : (n.keep (n.t.join (n.verB p))).1.up = true := by rw [keep_up hk]; exact hu
        split
        · refine NOk.mono (q := q + 1) ?_ (by omega)
          exact hm.as rfl rfl hm.ses hp rfl rfl
        · have hw := h.bw hu
          have hc := hm.commit hu2 (b := { n.t.b with i := true, r := false, b := p.c }) ⟨hw.1, hp.1, hw.2.2.1, hw.2.2.2⟩
          split
          · next hk2 =>
            have hu3 : ((n.keep (n.t.join (n.verB p))).1.commit { n.t.b with i := true, r := false, b := p.c }).1.up = true := by
              rw [commit_up hk2]
              exact hu2
            exact (hc.as (n2 := { ((n.keep (n.t.join (n.verB p))).1.commit { n.t.b with i := true, r := false, b := p.c }).1 with st := 4, ppri := p.q, peer := p }) rfl rfl hc.ses hp rfl rfl).seek hu3
          · exact hc.mono (by omega)
      · exact hm.mono (by omega)
theorem NOk.roles (h : NOk N q n) (hu : n.up = true) (k : Int) : NOk N (q + 1) (n.roles k).1 := by
  have h1 := h.mono (show q ≤ q + 1 by omega)
  unfold Nod.roles
  split
  · split
    · exact h1
    · exact h1.as rfl rfl h.ses h.peer rfl rfl
  · split
    · exact h1.as rfl rfl h.ses h.peer rfl rfl
    · split
      · exact h1.as rfl rfl h.ses h.peer rfl rfl
      · have hc := h.commit hu (b := { n.t.b with r := true }) (h.bw hu)
        dsimp only
        split
        · exact hc.as rfl rfl hc.ses hc.peer rfl rfl
        · exact hc
theorem NOk.takes (h : NOk N q n) (hu : n.up = true) {p : Pkt} (hp : p.h.wide) : NOk N (q + 3) (n.takes p).1 := by
  unfold Nod.takes
  split; · exact h.met hu hp
  split; · exact (h.apply hu p.b p.d).mono (by omega)
  split; · exact (h.acked hu p.b).mono (by omega)
  split; · exact (h.cleaned hu p.b).mono (by omega)
  split; · exact h.mono (by omega)
  split; · exact h.got hu p.b p.d
  split; · exact (h.copied hu p.b).mono (by omega)
  split; · exact (h.ended hu).mono (by omega)
  split; · exact h.done.mono (by omega)
  exact (h.roles hu p.k).mono (by omega)
theorem NOk.receive (h : NOk N q n) (b : ByteArray) (hp : (readP b n.ses).1.h.wide) : NOk N (q + 3) (n.receive b).1 := by
  have h3 := h.mono (show q ≤ q + 3 by omega)
  unfold Nod.receive
  split; · exact h3
  next hu =>
  have hu : n.up = true := by
    cases hx : n.up with
    | true => rfl
    | false => exact absurd (Or.inl hx) hu
  split; · exact h3
  split; · exact h3
  exact h.takes hu hp
theorem NOk.attach (h : NOk N q n) (l : List Bool) : NOk N q (n.attach l).1 := by
  unfold Nod.attach
  split
  · exact h
  · obtain ⟨t', hw, hs, hc, hf, he, ha⟩ := kept_again h.fine l
    have e : n.revive l = t'.s := hs.symm
    rw [e, if_pos he, ha]
    exact ⟨hw.fine, by rw [show (Nod.fresh n.id true t' n.dr n.mi).t = t' from rfl, hc]; exact Nat.zero_le _, by rw [show (Nod.fresh n.id true t' n.dr n.mi).t = t' from rfl, hf]; exact Int.le_refl _,
      by rw [show (Nod.fresh n.id true t' n.dr n.mi).t = t' from rfl, hf]; decide, fun _ => hw, b64_zero, Hel.zero_wide, h.dr, h.mi, h.dl, h.ml⟩
end
end Go.Proofs.YtkjikigimmchlaaGreatDoor
namespace Go.Proofs.YtkjikigimmchlaaGreatDoor
open Go.RowKit
theorem next_b64 (s : Int) : B64 (nextS s) := by
  unfold B64 nextS IntKind.wrap
  simp only [IntKind.signed, IntKind.bits]
  constructor
  · first | (simp; omega) | (split <;> simp <;> omega) | omega
  · first | (simp; omega) | (split <;> simp <;> omega) | omega
structure COk (N q : Nat) (c : Clu) : Prop where
  a : NOk N q c.a
  b : NOk N q c.b
  s : B64 c.l.s
section
variable {N q : Nat} {c : Clu}
theorem COk.mono {q2 : Nat} (h : COk N q c) (hq : q ≤ q2) : COk N q2 c := ⟨h.a.mono hq, h.b.mono hq, h.s⟩
theorem COk.nd (h : COk N q c) (i : Int) : NOk N q (c.nd i) := by
  unfold Clu.nd
  split
  · exact h.a
  · exact h.b
theorem COk.setN (h : COk N q c) (i : Int) {n : Nod} (hn : NOk N q n) : COk N q (c.setN i n) := by
  unfold Clu.setN
  split
  · exact ⟨hn, h.b, h.s⟩
  · exact ⟨h.a, hn, h.s⟩
theorem COk.setW (h : COk N q c) (i : Int) (x : Bool) : COk N q (c.setW i x) := by
  unfold Clu.setW
  split
  · exact ⟨h.a, h.b, h.s⟩
  · exact ⟨h.a, h.b, h.s⟩
theorem COk.link (h : COk N q c) {l : Lnk} (hl : B64 l.s) : COk N q { c with l := l } := ⟨h.a, h.b, hl⟩
theorem COk.loses (h : COk N q c) (i : Int) (out : List Ou) : COk N (q + 1) (c.loses i out).1 := by
  have h1 := h.mono (show q ≤ q + 1 by omega)
  unfold Clu.loses
  split
  · exact h1
  · next hu =>
    have hu : (c.nd i).up = true := by simpa using hu
    have hl := (h.nd i).lose hu
    dsimp only
    split
    · exact h1.setN i hl
    · exact (h1.setN i hl).setW i false
theorem COk.ends (h : COk N q c) (out : List Ou) : COk N (q + 2) (c.ends out).1 := by
  unfold Clu.ends
  exact ((h.link (l := c.l.closed) h.s).loses 0 out).loses 1 _
theorem on_s (l : Lnk) (g : Int) (x : List ByteArray) : (l.on g x).s = l.s := by
  unfold Lnk.on
  split <;> rfl
theorem send_s (l : Lnk) (g : Int) (x : List ByteArray) : (l.send g x).s = l.s := by
  unfold Lnk.send
  split
  · exact on_s l g _
  · rfl
theorem sends_s : ∀ (o : List Ou) (l : Lnk) (g : Int), (sendsL l g o).s = l.s
  | [], _, _ => rfl
  | x :: r, l, g => by
    unfold sendsL
    split
    · rw [sends_s r]
      split
      · exact send_s l g _
      · rfl
    · exact sends_s r l g
theorem taken_s (l : Lnk) (g : Int) : (l.taken g).s = l.s := by
  unfold Lnk.taken
  split
  · exact on_s l g _
  · rfl
theorem COk.closes (l : List Ou) (u : Bool) (c2 : Clu) (h2 : COk N q c2) : COk N (q + 2) (if c2.l.u = false ∨ (u = true ∧ closesL l = false) then (c2, saysL l) else Clu.ends (if closesL l = true then { c2 with wa := false, wb := false } else c2) (saysL l)).1 := by
  split
  · exact h2.mono (by omega)
  · refine COk.ends ?_ _
    split
    · exact ⟨h2.a, h2.b, h2.s⟩
    · exact h2
theorem COk.after (h : COk N q c) (i : Int) {n : Nod} (hn : NOk N q n) (l : List Ou) : COk N (q + 2) (c.after i n l).1 := by
  have h1 : COk N q { c.setN i n with l := sendsL c.l (1 - i) l } := (h.setN i hn).link (by rw [sends_s]; exact h.s)
  have h2 : COk N q (if n.up = true then { c.setN i n with l := sendsL c.l (1 - i) l } else Clu.setW { c.setN i n with l := sendsL c.l (1 - i) l } i false) := by
    split
    · exact h1
    · exact h1.setW i false
  exact COk.closes l n.up _ h2
theorem COk.connect (h : COk N q c) (i : Int) : COk N (q + 4) (c.connect i).1 := by
  have h4 := h.mono (show q ≤ q + 4 by omega)
  unfold Clu.connect
  split
  · exact h4
  · dsimp only
    split
    · exact h4.setW i true
    · have h1 := h.setW i true
      have h2 : COk N q { c.setW i true with l := (c.setW i true).l.opened } := h1.link (next_b64 _)
      have h3 := h2.after 0 (h2.a.begins h2.s) (Nod.begins (c.setW i true).a (c.setW i true).l.opened.s).2
      exact h3.after 1 (h3.b.begins h3.s) _
theorem read_wide (b : ByteArray) (s : Int) : (readP b s).1.h.wide := by
  unfold readP
  split
  · next he =>
    split
    · exact (encT_decP he).2.1.2
    · exact Hel.zero_wide
  · exact Hel.zero_wide
def Evt.wide (v : Evt) : Prop := B64 v.g
section
variable {v : Evt} {n : Nod}
theorem COk.goes (h : COk N q c) {k : Nat} (l : List Ou) (hk : k ≤ 3) (hh : NOk N (q + k) n) : COk N (q + 5) (c.after v.n n l).1 := ((h.mono (show q ≤ q + k by omega)).after v.n hh l).mono (by omega)
theorem COk.ev4 (h : COk N q c) (hn : NOk N q n) (hv : v.wide) : COk N (q + 5) (c.ev4 v n).1 := by
  have h5 := h.mono (show q ≤ q + 5 by omega)
  unfold Clu.ev4
  split
  · refine h.goes (k := 0) _ (by omega) ?_
    split
    · next hu => exact ⟨hn.fine, hn.len, by show 0 ≤ min v.g 1000; have := hv.1; omega, by show min v.g 1000 ≤ 1000; omega, fun _ => whole_arm (hn.live hu) (by have := hv.1; omega), hn.ses, hn.peer, hn.dr, hn.mi, hn.dl, hn.ml⟩
    · exact hn
  split
  · refine h5.setN v.n ?_
    split
    · next hl10 =>
      have h9 := hn.mono (show q ≤ q + 5 by omega)
      exact ⟨h9.fine, h9.len, h9.f0, h9.f1, h9.live, h9.ses, h9.peer, fun g hg => by
        rcases List.mem_append.1 hg with hg | hg
        · exact hn.dr g hg
        · rw [List.mem_singleton] at hg
          rw [hg]
          exact hv, h9.mi, by rw [List.length_append]; show n.dr.length + 1 ≤ 1000; omega, h9.ml⟩
    · exact hn.mono (by omega)
  split
  · split
    · exact h5
    · exact h.goes (k := 3) _ (by omega) (hn.receive _ (read_wide _ _))
  exact h5
theorem COk.ev3 (h : COk N q c) (hn : NOk N q n) (hv : v.wide) : COk N (q + 5) (c.ev3 v n).1 := by
  have h5 := h.mono (show q ≤ q + 5 by omega)
  unfold Clu.ev3
  split
  · split
    · have h3 := (h.mono (show q ≤ q + 3 by omega)).link (l := c.l.taken v.n) (by rw [taken_s]; exact h.s)
      exact h3.after v.n (hn.receive _ (read_wide _ _)) _
    · exact h5
  split
  · split
    · exact h.goes (k := 0) _ (by omega) hn.down
    · exact h5
  split
  · exact h5.setN v.n ((hn.attach v.keeps).mono (by omega))
  · exact h.ev4 hn hv
theorem COk.ev2 (h : COk N q c) (hn : NOk N q n) (hv : v.wide) : COk N (q + 5) (c.ev2 v n).1 := by
  have h5 := h.mono (show q ≤ q + 5 by omega)
  unfold Clu.ev2
  split
  · exact (h.connect v.n).mono (by omega)
  split
  · split
    · exact ((h.setW v.n false).ends []).mono (by omega)
    · exact h5.setW v.n false
  split
  · split
    · exact (h.ends []).mono (by omega)
    · exact h5
  · exact h.ev3 hn hv
theorem COk.ev1 (h : COk N q c) (hn : NOk N q n) (hv : v.wide) : COk N (q + 5) (c.ev1 v n).1 := by
  unfold Clu.ev1
  split
  · exact h.goes (k := 1) _ (by omega) (hn.promote v.id)
  split
  · exact h.goes (k := 1) _ (by omega) (hn.demote v.id)
  split
  · exact h.goes (k := 1) _ (by omega) (hn.discard v.id)
  split
  · exact h.goes (k := 0) _ (by omega) (hn.read v.id v.i)
  split
  · exact h.goes (k := 3) _ (by omega) (hn.write v.id v.i v.d)
  · exact h.ev2 hn hv
end
theorem COk.doEv (h : COk N q c) {v : Evt} (hv : v.wide) : COk N (q + 5) (c.doEv v).1 := by
  unfold Clu.doEv
  split
  · exact h.mono (by omega)
  · exact h.ev1 (h.nd v.n) hv
theorem COk.play : ∀ (l : List Evt) {q : Nat} {c : Clu}, COk N q c → (∀ v ∈ l, v.wide) → COk N (q + 5 * l.length) (c.play l).1
  | [], _, _, h, _ => h
  | v :: r, q, c, h, hw => by
    have h1 := h.doEv (hw v (List.mem_cons_self ..))
    have h2 := COk.play r h1 fun x hx => hw x (List.mem_cons_of_mem _ hx)
    have e : q + 5 + 5 * r.length = q + 5 * (v :: r).length := by rw [List.length_cons]; omega
    rw [e] at h2
    exact h2
end
theorem new_ok {N : Nat} (h1 : 1 ≤ N) (h2 : N ≤ 32) : COk N 0 (newC N) := by
  have hw := whole_new h1 h2
  have hn : ∀ i, NOk N 0 (newN N i) := fun i => ⟨hw.fine, Nat.le_refl 0, hw.f0, (by show (0 : Int) ≤ 1000; decide), fun _ => hw, b64_zero, Hel.zero_wide, fun g hg => by simp [newN, Nod.fresh] at hg, fun x hx => by simp [newN, Nod.fresh] at hx, Nat.zero_le _, Nat.le_refl 0⟩
  exact ⟨hn 0, hn 1, b64_zero⟩
end Go.Proofs.YtkjikigimmchlaaGreatDoor
