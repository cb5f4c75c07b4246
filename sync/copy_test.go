package sync_test

import (
	"math/rand"
	"slices"
	"testing"

	"gemination/api"
	"gemination/area"
	"gemination/disk"
	"gemination/hello"
	"gemination/node"
	"gemination/packet"
	"gemination/store"
	"gemination/vector"
	"gemination/write"
)

const (
	from = 0
	onto = 1
)

// pair is two nodes, the source and the target, and the packets of their session: those under way to each, and all that were sent.
type pair struct {
	n       [2]api.Node
	session uint64
	to      [2][]api.Packet
	said    []api.Packet
}

// pairOf has a source and a target of so many blocks, unlike just in the blocks of a mask, that is marked on the source alone; all is sure.
func pairOf(t *testing.T, blocks int, m uint32) *pair {
	t.Helper()
	p := &pair{}
	for i := range p.n {
		d, e := area.Format(blocks, 7)
		if e != api.OK {
			t.Fatal(e)
		}
		n, e := node.Attach(api.Node{Id: i, Store: api.Store{Disk: d}})
		for k := range blocks {
			if e == api.OK && (i == from || m>>k&1 == 0) {
				n.Store, e = store.Put(n.Store, k, blockOf(k+1))
			}
		}
		if e == api.OK && i == from {
			n.Store, e = store.Join(n.Store, m)
		}
		if e == api.OK && i == from {
			n.Store, e = store.Commit(n.Store, api.Super{Blocks: blocks, Vector: api.Vector{Current: 9, Bitmap: 7}, Pri: true})
			n.Primary = true
		}
		if e != api.OK {
			t.Fatal(e)
		}
		p.n[i] = n
	}
	return p
}

// meets: a session begins, in which the blocks of both masks are copied, as layer 19 would have it.
func (p *pair) meets(t *testing.T) {
	t.Helper()
	p.session++
	p.to, p.said = [2][]api.Packet{}, nil
	told := hello.Of(p.n[from].Store.Super, p.n[from].Primary, p.n[from].Store.Mask)
	m := p.n[from].Store.Mask | p.n[onto].Store.Mask
	for i := range p.n {
		n := &p.n[i]
		n.Store.Disk = disk.Arm(n.Store.Disk, 0)
		s, e := store.Join(n.Store, m)
		if e == api.OK && i == onto {
			b := s.Super
			b.Inc, b.Pri, b.Vector = true, false, vector.From(b.Vector, told.Vector.Current)
			s, e = store.Commit(s, b)
		}
		if e != api.OK {
			t.Fatal(e)
		}
		n.Store, n.Session, n.Minted = s, p.session, false
	}
	p.n[from].State, p.n[onto].State = api.StSource, api.StTarget
	p.n[onto].Peer, p.n[onto].PeerPri = told, told.Pri
	p.does(t, onto, seeking())
}

// does: what comes of a node that did something.
func (p *pair) does(t *testing.T, i int, x deed) {
	t.Helper()
	n, outs := does(t, x, p.n[i])
	p.puts(t, i, n, outs)
}

// puts: a node is another one, and what it put out goes to the other one.
func (p *pair) puts(t *testing.T, i int, n api.Node, outs []api.Out) {
	t.Helper()
	p.n[i] = n
	for _, o := range outs {
		if o.Kind != api.OutPacket {
			continue
		}
		k, e := packet.Read(o.Data, p.session)
		if e != api.OK || o.Node != i {
			t.Fatal(o, e)
		}
		k.Session = 0
		p.to[1-i] = append(p.to[1-i], k)
		p.said = append(p.said, k)
	}
}

// delivers the first packet that is under way to a node; false, if none is.
func (p *pair) delivers(t *testing.T, i int) bool {
	t.Helper()
	if len(p.to[i]) == 0 {
		return false
	}
	k := p.to[i][0]
	p.to[i] = p.to[i][1:]
	n, outs := p.n[i], []api.Out(nil)
	switch k.Kind {
	case api.PkWant:
		n, outs = does(t, giving(k.Block), n)
	case api.PkGive:
		n, outs = does(t, getting(k.Block, k.Data), n)
	case api.PkGot:
		n, outs = does(t, copied(k.Block), n)
	case api.PkEnd:
		n, outs = does(t, ending(), n)
	case api.PkDone:
		n, outs = does(t, done(), n)
	case api.PkData:
		n, outs = write.Apply(n, k.Block, k.Data)
	case api.PkAck:
		n, outs = write.Acked(n, k.Block)
	case api.PkClean:
		n, outs = write.Cleaned(n, k.Block)
	}
	p.puts(t, i, n, outs)
	return true
}

// drains: all that is under way is delivered.
func (p *pair) drains(t *testing.T) {
	t.Helper()
	for p.delivers(t, from) || p.delivers(t, onto) {
	}
}

// agrees: both are linked, and hold the same, of the same generations, with no marks.
func (p *pair) agrees(t *testing.T) {
	t.Helper()
	a, b := p.n[from], p.n[onto]
	if a.State != api.StLinked || b.State != api.StLinked || a.Store.Mask != 0 || b.Store.Mask != 0 || a.Store.Super.Vector != b.Store.Super.Vector {
		t.Fatalf("%#v, %#v", a, b)
	}
	if s := b.Store.Super; s.Inc || s.Dis || s.Pri || unlike(t, a, b) != 0 {
		t.Fatalf("%#v, %#v", a, b)
	}
}

// parts: the session ends, of which the one that crashed comes up with what was kept; none that crashed is -1.
func (p *pair) parts(t *testing.T, crashed int, keeps []bool) {
	t.Helper()
	p.to = [2][]api.Packet{}
	for i := range p.n {
		if i == crashed {
			p.n[i] = revived(t, p.n[i], keeps)
		} else {
			p.n[i], _ = write.Lose(p.n[i])
		}
	}
}

// revived is a node that crashed, and came up with what was kept.
func revived(t *testing.T, n api.Node, keeps []bool) api.Node {
	t.Helper()
	up, e := node.Attach(node.Down(n), keeps...)
	if e != api.OK {
		t.Fatalf("%#v, kept %v: %d", n, keeps, e)
	}
	return up
}

// unlike is the blocks that two nodes hold not alike.
func unlike(t *testing.T, a, b api.Node) uint32 {
	t.Helper()
	x, e := area.All(a.Store.Disk)
	y, f := area.All(b.Store.Disk)
	if e != api.OK || f != api.OK || len(x) != len(y) {
		t.Fatalf("%#v, %#v: %d, %d", a, b, e, f)
	}
	m := uint32(0)
	for i := range x {
		if x[i] != y[i] {
			m |= 1 << i
		}
	}
	return m
}

// keepsOf is all lists of just so many keeps.
func keepsOf(n int) [][]bool {
	var l [][]bool
	for bits := range 1 << n {
		keeps := make([]bool, n)
		for i := range keeps {
			keeps[i] = bits>>i&1 == 1
		}
		l = append(l, keeps)
	}
	return l
}

// blocksSaid is the blocks of all packets of a kind that were sent, in order.
func (p *pair) blocksSaid(kind int) []int {
	var l []int
	for _, k := range p.said {
		if k.Kind == kind {
			l = append(l, k.Block)
		}
	}
	return l
}

// ofMask is the blocks of a mask, rising.
func ofMask(m uint32) []int {
	var l []int
	for i := range 32 {
		if m>>i&1 == 1 {
			l = append(l, i)
		}
	}
	return l
}

// conversation is all packets of a copying of a mask, in order, without writes between.
func conversation(m uint32) []api.Packet {
	var l []api.Packet
	for _, i := range ofMask(m) {
		l = append(l, api.Packet{Kind: api.PkWant, Block: i}, api.Packet{Kind: api.PkGive, Block: i, Data: blockOf(i + 1)}, api.Packet{Kind: api.PkGot, Block: i})
	}
	return append(l, api.Packet{Kind: api.PkEnd}, api.Packet{Kind: api.PkDone})
}

// P18.2: the chapter's example: PkWant 1; behind it PkGot 1 and PkWant 4; PkGot 4 and PkEnd.
func TestExample(t *testing.T) {
	p := pairOf(t, 6, 1<<1|1<<4)
	p.meets(t)
	s := p.n[onto].Session
	want := func(x deed, l ...string) {
		t.Helper()
		n, outs := does(t, x, p.n[onto])
		p.n[onto] = n
		var said []string
		for _, o := range outs {
			said = append(said, o.Data)
		}
		if !slices.Equal(said, l) {
			t.Fatalf("%q, not %q", said, l)
		}
	}
	want(seeking())
	want(getting(4, blockOf(5)))
	want(getting(1, blockOf(2)), packetBytes(7, s, 1), packetBytes(5, s, 4))
	want(getting(1, blockOf(3)))
	want(getting(4, blockOf(5)), packetBytes(7, s, 4), packetBytes(8, s))
	if b := p.n[onto].Store.Super; b != (api.Super{Blocks: 6, Vector: api.Vector{Current: 9, Old: [2]uint64{7, 0}}}) || unlike(t, p.n[from], p.n[onto]) != 0 {
		t.Fatal(b)
	}
	want(seeking())
}

// P18.2: whatever is marked is copied, rising, block by block, and nothing else; half copied till behind the last one.
func TestBlockByBlock(t *testing.T) {
	for blocks := 1; blocks <= api.MaxBlocks; blocks++ {
		full := uint32(1<<blocks - 1)
		masks := []uint32{0, 1, full, 1 << (blocks - 1), full & 0x55555555, full & 0xaaaaaaaa}
		for m := range uint32(1 << min(blocks, 5)) {
			masks = append(masks, m)
		}
		for _, m := range masks {
			p := pairOf(t, blocks, m)
			p.meets(t)
			for p.delivers(t, from) || p.delivers(t, onto) {
				ended := slices.Contains(p.said, api.Packet{Kind: api.PkEnd})
				if p.n[onto].Store.Super.Inc == ended || p.n[from].State == api.StLinked && !ended {
					t.Fatal(blocks, m, p)
				}
			}
			if !slices.Equal(p.said, conversation(m)) {
				t.Fatal(blocks, m, p.said)
			}
			p.agrees(t)
		}
	}
}

// P18.2: who isn't half copied seeks nothing, be there marks or not.
func TestNotHalfCopied(t *testing.T) {
	for m := range uint32(8) {
		for flags := range 8 {
			n := upOf(superOf(3, flags&^1), m, api.StTarget)
			if got, outs := does(t, seeking(), n); len(outs) != 0 || !like(got, n) {
				t.Fatal(got, outs)
			}
		}
	}
}

// half: what a crash leaves of a target: what it said that it got it has, and what it lacks is marked; half copied till all is there, and no longer.
func (p *pair) half(t *testing.T, back api.Node) {
	t.Helper()
	lacks := unlike(t, p.n[from], back)
	for _, i := range p.blocksSaid(api.PkGot) {
		if lacks>>i&1 == 1 {
			t.Fatalf("%#v: %d was said, and is lacking: %v", back, i, p.said)
		}
	}
	if back.Store.Super.Inc {
		if lacks&^back.Store.Mask != 0 || slices.Contains(p.said, api.Packet{Kind: api.PkEnd}) {
			t.Fatalf("%#v: lacks %b: %v", back, lacks, p.said)
		}
		return
	}
	whole := api.Super{Blocks: back.Store.Super.Blocks, Vector: api.Vector{Current: 9, Old: [2]uint64{7, 0}}}
	// Of one that is down nobody knows whether it was about to end.
	if goesOn := p.n[onto].Up && p.n[onto].Store.Super.Inc; lacks != 0 || back.Store.Super != whole || goesOn {
		t.Fatalf("%#v: lacks %b", back, lacks)
	}
}

// resumes: one of both crashed; they meet again, and just what is marked is given.
func (p *pair) resumes(t *testing.T, crashed int, keeps []bool) {
	t.Helper()
	q := *p
	q.parts(t, crashed, keeps)
	if lacks := unlike(t, q.n[from], q.n[onto]); lacks&^(q.n[from].Store.Mask|q.n[onto].Store.Mask) != 0 {
		t.Fatalf("%#v: lacks %b", q, lacks)
	}
	m := q.n[from].Store.Mask | q.n[onto].Store.Mask
	q.meets(t)
	q.drains(t)
	if !slices.Equal(q.said, conversation(m)) {
		t.Fatal(m, q.said)
	}
	q.agrees(t)
}

// P18.2: wherever either one's fuse ends, and at each moment between, whatever of its cache is kept: the target is half copied till all is there, and goes on where it ended.
func TestDiesAnywhere(t *testing.T) {
	for _, who := range []int{from, onto} {
		for m := range uint32(8) {
			for fuse := range 14 {
				p := pairOf(t, 3, m)
				p.meets(t)
				p.n[who].Store.Disk = disk.Arm(p.n[who].Store.Disk, fuse)
				for p.n[who].Up {
					more := p.delivers(t, from) || p.delivers(t, onto)
					for _, keeps := range keepsOf(len(p.n[who].Store.Disk.Cache)) {
						if who == onto {
							p.half(t, revived(t, p.n[onto], keeps))
						}
						p.resumes(t, who, keeps)
					}
					if !more {
						p.agrees(t)
						break
					}
				}
			}
		}
	}
}

// P18.2: a session that is dropped at any moment, without a crash: the target goes on where it ended, with what it didn't get.
func TestDroppedAnywhere(t *testing.T) {
	for m := range uint32(16) {
		p := pairOf(t, 4, m)
		p.meets(t)
		for more := true; more; more = p.delivers(t, from) || p.delivers(t, onto) {
			if n := p.n[onto]; n.Store.Super.Inc && m&^n.Store.Mask != maskOf(p.blocksSaid(api.PkGot)) {
				t.Fatal(m, n.Store.Mask, p.said)
			}
			p.resumes(t, -1, nil)
		}
	}
}

// maskOf is the mask of some blocks.
func maskOf(l []int) uint32 {
	m := uint32(0)
	for _, i := range l {
		m |= 1 << i
	}
	return m
}

// P18.2: whatever the order in which packets come, with writes between: a block that is being written stays marked on the source till that is acknowledged.
func TestWrittenMeanwhile(t *testing.T) {
	for order := range 1 << 12 {
		p := pairOf(t, 2, 3)
		p.meets(t)
		for step := range 12 {
			if step == order%5 {
				n, outs := write.Write(p.n[from], 5, order&1, "abcdefgh")
				p.puts(t, from, n, outs)
			}
			p.delivers(t, order>>step&1)
			a, b := p.n[from], p.n[onto]
			if lacks := unlike(t, a, b); lacks&^a.Store.Mask != 0 || !b.Store.Super.Inc && lacks&^waiting(a) != 0 || a.Store.Mask&waiting(a) != waiting(a) {
				t.Fatalf("%b: lacks %b: %#v, %#v", order, lacks, a, b)
			}
		}
		p.drains(t)
		p.agrees(t)
	}
}

// waiting is the block of the write that waits, if there is one.
func waiting(n api.Node) uint32 {
	if n.Req.On {
		return 1 << n.Req.Block
	}
	return 0
}

// drawn: something that is drawn happens to both.
func (p *pair) drawn(t *testing.T, r *rand.Rand) {
	switch k := r.Intn(20); {
	case k < 10:
		p.delivers(t, k&1)
	case k < 15:
		n, outs := write.Write(p.n[from], 5, r.Intn(p.n[from].Store.Super.Blocks), blockOf(r.Int()))
		p.puts(t, from, n, outs)
	case k == 15:
		p.parts(t, -1, nil)
	case k == 16:
		p.n[onto].Store.Disk = disk.Arm(p.n[onto].Store.Disk, r.Intn(12))
	case p.n[from].State == api.StAlone:
		p.meets(t)
	}
}

// P18.2: long rows of writes, copyings that are dropped or die, revivals with all that may be kept, and sessions anew.
func TestDrawnLives(t *testing.T) {
	r := rand.New(rand.NewSource(1))
	for range 120 {
		blocks := 1 + r.Intn(6)
		p := pairOf(t, blocks, uint32(r.Intn(1<<blocks)))
		for g := range uint64(200) {
			p.n[from].Draws = append(p.n[from].Draws, 100+g)
		}
		for range 150 {
			p.drawn(t, r)
			keeps := make([]bool, len(p.n[onto].Store.Disk.Cache))
			for i := range keeps {
				keeps[i] = r.Intn(2) == 0
			}
			back := revived(t, p.n[onto], keeps)
			lacks := unlike(t, p.n[from], back)
			if lacks&^(p.n[from].Store.Mask|back.Store.Mask) != 0 || p.n[from].State != api.StAlone && !back.Store.Super.Inc && lacks&^waiting(p.n[from]) != 0 {
				t.Fatalf("kept %v: lacks %b: %#v, %#v", keeps, lacks, p, back)
			}
			if !p.n[onto].Up {
				p.parts(t, onto, keeps)
			}
		}
		if p.n[from].State == api.StAlone {
			p.meets(t)
		}
		p.n[onto].Store.Disk = disk.Arm(p.n[onto].Store.Disk, 0)
		p.drains(t)
		p.agrees(t)
	}
}
