package greet_test

import (
	"math/rand"
	"slices"
	"testing"

	"gemination/api"
	"gemination/area"
	"gemination/disk"
	"gemination/node"
	"gemination/packet"
	"gemination/rule"
	"gemination/sync"
	"gemination/write"
)

// pair is two nodes, and the packets of their session that are under way to each.
type pair struct {
	n       [2]api.Node
	session uint64
	to      [2][]string
	draw    uint64
}

// begin: both begin a session, and what each says goes to the other one.
func (p *pair) begin(t *testing.T) {
	t.Helper()
	p.session++
	for i := range p.n {
		p.does(t, i, begins(p.session))
	}
}

// hellos are those that both nodes said, the node 0's first, taken off the way.
func (p *pair) hellos(t *testing.T) [2]api.Hello {
	t.Helper()
	var l [2]api.Hello
	for i := range l {
		k, e := packet.Read(p.to[1-i][0], p.session)
		if e != api.OK || k.Kind != api.PkHello || len(p.to[1-i]) != 1 {
			t.Fatal(k, e)
		}
		l[i] = k.Hello
		p.to[1-i] = nil
	}
	return l
}

// does: what comes of a node that does something.
func (p *pair) does(t *testing.T, i int, x deed) {
	t.Helper()
	n, outs := does(t, x, p.n[i])
	p.puts(i, n, outs)
}

// puts: a node is another one, and what it put out goes to the other one; the session ends, if it is down, or closes.
func (p *pair) puts(i int, n api.Node, outs []api.Out) {
	p.n[i] = n
	for _, o := range outs {
		if o.Kind == api.OutPacket {
			p.to[1-i] = append(p.to[1-i], o.Data)
		}
	}
	closes := func(o api.Out) bool { return o.Kind == api.OutClose }
	if !n.Up || slices.ContainsFunc(outs, closes) {
		p.ends()
	}
}

// ends: the session does.
func (p *pair) ends() {
	p.to = [2][]string{}
	for i := range p.n {
		if p.n[i].Up {
			p.n[i], _ = write.Lose(p.n[i])
		}
	}
}

// delivers the first packet that is under way to a node; false, if none is.
func (p *pair) delivers(t *testing.T, i int) bool {
	t.Helper()
	if len(p.to[i]) == 0 {
		return false
	}
	k, e := packet.Read(p.to[i][0], p.session)
	if e != api.OK {
		t.Fatal(e)
	}
	p.to[i] = p.to[i][1:]
	n, outs := p.n[i], []api.Out(nil)
	switch k.Kind {
	case api.PkHello:
		n, outs = does(t, meets(k.Hello), n)
	case api.PkData:
		n, outs = write.Apply(n, k.Block, k.Data)
	case api.PkAck:
		n, outs = write.Acked(n, k.Block)
	case api.PkClean:
		n, outs = write.Cleaned(n, k.Block)
	case api.PkWant:
		n, outs = sync.Give(n, k.Block)
	case api.PkGive:
		n, outs = sync.Got(n, k.Block, k.Data)
	case api.PkGot:
		n, outs = sync.Copied(n, k.Block)
	case api.PkEnd:
		n, outs = sync.Ended(n)
	case api.PkDone:
		n = sync.Done(n)
	case api.PkRole:
		n.PeerPri = false
	default:
		t.Fatal(k)
	}
	p.puts(i, n, outs)
	return true
}

// drains: all that is under way is delivered.
func (p *pair) drains(t *testing.T) {
	t.Helper()
	for p.delivers(t, 0) || p.delivers(t, 1) {
	}
}

// The ways in which two may have decided.
const (
	closed = iota
	linked
	copies0 // from the node 0
	copies1
	ways
)

// alike: two that met decided alike; in which way. Each is told with what it put out.
func alike(t *testing.T, was, n [2]api.Node, outs [2][]api.Out) int {
	t.Helper()
	states := [2]int{n[0].State, n[1].State}
	switch states {
	case [2]int{api.StGreet, api.StGreet}:
		for i := range n {
			if !like(n[i], was[i]) || !slices.Equal(outs[i], []api.Out{{Kind: api.OutClose, Node: i}}) {
				t.Fatalf("%#v: %#v, %#v", was[i], n[i], outs[i])
			}
		}
		return closed
	case [2]int{api.StLinked, api.StLinked}:
		if len(outs[0])+len(outs[1]) != 0 || n[0].Store.Mask|n[1].Store.Mask != 0 {
			t.Fatalf("%#v: %#v, %#v", was, n, outs)
		}
		for i := range n {
			if s := n[i].Store.Super; s.Inc || s.Dis || s.Vector.Bitmap != 0 || s.Vector.Current != n[1-i].Store.Super.Vector.Current {
				t.Fatalf("%#v: %#v", was, n)
			}
		}
		return linked
	case [2]int{api.StSource, api.StTarget}:
		copies(t, was[0], n[0], n[1], outs)
		return copies0
	case [2]int{api.StTarget, api.StSource}:
		copies(t, was[1], n[1], n[0], outs)
		return copies1
	}
	t.Fatalf("%#v: %#v, %#v", was, n, outs)
	return ways
}

// copies: from one that holds what it held, to one that is half copied, and no primary, the same blocks by both.
func copies(t *testing.T, was, source, target api.Node, outs [2][]api.Out) {
	t.Helper()
	if source.Store.Super != was.Store.Super || source.Store.Super.Inc || source.Store.Super.Dis || len(outs[source.Id]) != 0 {
		t.Fatalf("%#v, %#v: %#v", source, target, outs)
	}
	if target.Primary || target.Store.Super.Pri || source.Store.Mask != target.Store.Mask || len(outs[target.Id]) != 1 {
		t.Fatalf("%#v, %#v: %#v", source, target, outs)
	}
	// Half copied, unless there was nothing left to be copied.
	if half := target.Store.Super.Inc; half != (target.Store.Mask != 0) || half && target.Store.Super.Vector.Bitmap != source.Store.Super.Vector.Current {
		t.Fatalf("%#v, %#v", source, target)
	}
}

// decide: both nodes begin, tell each other, and meet; in which way.
func decide(t *testing.T, n [2]api.Node) int {
	t.Helper()
	p := pair{n: n, session: n[0].Session}
	p.begin(t)
	l := p.hellos(t)
	was := p.n
	var outs [2][]api.Out
	for i := range p.n {
		p.n[i], outs[i] = does(t, meets(l[1-i]), p.n[i])
		if p.n[i].State != api.StGreet && (p.n[i].PeerPri != n[1-i].Primary || p.n[i].Peer != l[1-i]) {
			t.Fatalf("%#v: %#v", n, p.n)
		}
	}
	way := alike(t, was, p.n, outs)
	if v := rule.Decide(l[0], l[1]); way == copies0 && v.Source != 0 || way == copies1 && v.Source != 1 || way < copies0 && v.Source != -1 {
		t.Fatalf("%v: %d", l, way)
	}
	return way
}

// meeting: two nodes of three blocks, the node 0 and the node 1, of kinds, masks and vectors, alone, and wanting nothing.
func meeting(kind [2]int, m [2]uint32, v [2]api.Vector) [2]api.Node {
	var l [2]api.Node
	for i := range l {
		l[i] = kindOf(3, kind[i], m[i], v[i])
		l[i].Id = i
	}
	return l
}

// P19.2: two of all kinds, with masks that are empty and that aren't, along each line, and of generations that are drawn, decide alike; each way comes, and turned about the other one.
func TestDecideAlike(t *testing.T) {
	r := rand.New(rand.NewSource(1))
	var count [ways]int
	for _, a := range kinds() {
		for _, b := range kinds() {
			for _, m := range [][2]uint32{{0, 0}, {2, 0}, {0, 5}, {3, 6}} {
				l := lines()
				for range 12 {
					l = append(l, [2]api.Vector{drawn(r), drawn(r)})
				}
				for _, v := range l {
					count[decide(t, meeting([2]int{a, b}, m, v))]++
					count[decide(t, meeting([2]int{b, a}, [2]uint32{m[1], m[0]}, [2]api.Vector{v[1], v[0]}))]++
				}
			}
		}
	}
	for way, n := range count {
		if n < 100 {
			t.Error(way, count)
		}
	}
}

// P19.2: two of like generations, both or neither of which was primary, copy from the node 0; it is the order of their numbers that both take.
func TestNobodyAhead(t *testing.T) {
	for _, kind := range []int{0, 2} {
		for m := uint32(1); m < 64; m++ {
			n := meeting([2]int{kind, kind}, [2]uint32{m & 7, m >> 3}, [2]api.Vector{gens(7, 6), gens(7)})
			if way := decide(t, n); way != copies0 {
				t.Fatal(kind, m, way)
			}
		}
	}
}

// P19.2: two of unlike numbers of blocks both close, whatever else the one is; of like ones none of these does.
func TestUnlikeBlocksClose(t *testing.T) {
	for blocks := 1; blocks <= api.MaxBlocks; blocks++ {
		for other := 1; other <= api.MaxBlocks; other++ {
			n := [2]api.Node{kindOf(blocks, (blocks*5+other)%primary, 1, gens(7)), kindOf(other, 0, 0, gens(7))}
			n[0].Id = 0
			if way := decide(t, n); (way == closed) != (blocks != other) {
				t.Fatal(blocks, other, way)
			}
		}
	}
}

// P19.2: two fresh ones are both linked, by a delivery to each.
func TestFreshLinked(t *testing.T) {
	p := pairOf(t, 2)
	p.begin(t)
	if !p.delivers(t, 1) || !p.delivers(t, 0) || len(p.to[0])+len(p.to[1]) != 0 {
		t.Fatal(p)
	}
	p.agrees(t)
}

// pairOf is two fresh nodes of so many blocks.
func pairOf(t *testing.T, blocks int) *pair {
	t.Helper()
	p := &pair{draw: 100}
	for i := range p.n {
		d, e := area.Format(blocks, 7)
		if e != api.OK {
			t.Fatal(e)
		}
		n, e := node.Attach(api.Node{Id: i, Store: api.Store{Disk: d}})
		if e != api.OK {
			t.Fatal(e)
		}
		p.n[i] = n
	}
	return p
}

// blocksOf is what a node holds.
func blocksOf(t *testing.T, n api.Node) []string {
	t.Helper()
	l, e := area.All(n.Store.Disk)
	if e != api.OK {
		t.Fatalf("%#v: %d", n, e)
	}
	return l
}

// agrees: both are linked, hold the same, and have no marks.
func (p *pair) agrees(t *testing.T) {
	t.Helper()
	a, b := p.n[0], p.n[1]
	if a.State != api.StLinked || b.State != api.StLinked || a.Store.Mask|b.Store.Mask != 0 || a.Store.Super.Vector != b.Store.Super.Vector {
		t.Fatalf("%#v, %#v", a, b)
	}
	if a.Store.Super.Inc || b.Store.Super.Inc || !slices.Equal(blocksOf(t, a), blocksOf(t, b)) {
		t.Fatalf("%#v, %#v", a, b)
	}
}

// writesAlone: blocks of a mask, by a node that is alone, is primary for that, and is none behind it, or crashes as one.
func (p *pair) writesAlone(t *testing.T, i int, m uint32, crashes bool) {
	t.Helper()
	p.n[i], _ = node.Promote(p.n[i], 1)
	for block := range 32 {
		if m>>block&1 == 1 {
			p.writes(i, block)
		}
	}
	if crashes {
		p.revives(t, i, nil)
	} else {
		p.n[i], _ = node.Demote(p.n[i], 2)
	}
}

// writes: something that was never written, with a draw that there was never.
func (p *pair) writes(i, block int) {
	p.draw++
	n := p.n[i]
	n.Draws = []uint64{p.draw}
	n, outs := write.Write(n, 3, block, blockOf(int(p.draw)))
	n.Draws = []uint64{p.draw + 1<<32}
	p.puts(i, n, outs)
}

// revives: a node crashes, and comes up with what is kept.
func (p *pair) revives(t *testing.T, i int, keeps []bool) {
	t.Helper()
	n, e := node.Attach(node.Down(p.n[i]), keeps...)
	if e != api.OK {
		t.Fatalf("%#v, kept %v: %d", p.n[i], keeps, e)
	}
	p.n[i] = n
}

// keepsOf is all lists of just so many keeps.
func keepsOf(n int) [][]bool {
	var l [][]bool
	for bits := range 1 << n {
		keeps := make([]bool, n)
		for i := range keeps {
			keeps[i] = bits>>i&1 == 1
		}
		l = append(l, keeps)
	}
	return l
}

// waitingOf is two that are linked, of which a primary one waits for the other one's answer.
func waitingOf(t *testing.T, i int) *pair {
	t.Helper()
	p := pairOf(t, 3)
	p.n[i], _ = node.Promote(p.n[i], 1)
	p.begin(t)
	p.drains(t)
	p.writes(i, 1)
	if !p.n[i].Req.On {
		t.Fatal(p)
	}
	return p
}

// before are pairs, each with a name, that meet in each way: with pasts as clusters have them.
func before(t *testing.T) map[string]*pair {
	t.Helper()
	l := map[string]*pair{"fresh": pairOf(t, 3)}
	for i, turn := range []string{"", ", turned"} {
		one := pairOf(t, 3)
		one.writesAlone(t, i, 5, false)
		l["one wrote"+turn] = one
		crashed := pairOf(t, 3)
		crashed.writesAlone(t, i, 2, true)
		l["one wrote, and crashed"+turn] = crashed
		waits := waitingOf(t, i)
		waits.delivers(t, 1-i)
		waits.ends()
		waits.n[i], _ = node.Demote(waits.n[i], 2)
		l["a write waited"+turn] = waits
		waits = waitingOf(t, i)
		waits.puts(i, node.Down(waits.n[i]), nil)
		waits.revives(t, i, nil)
		l["a write waited at a crash"+turn] = waits
		lives := pairOf(t, 3)
		lives.n[i], _ = node.Promote(lives.n[i], 1)
		lives.writes(i, 0)
		l["a primary wrote"+turn] = lives
		both := pairOf(t, 3)
		both.writesAlone(t, i, 1, false)
		both.writesAlone(t, 1-i, 6, i == 0)
		l["both wrote"+turn] = both
		spoilt := *both
		spoilt.n[i], _ = node.Discard(spoilt.n[i], 4)
		l["one is to be discarded"+turn] = &spoilt
		long := pairOf(t, 3)
		for range 3 {
			long.writesAlone(t, i, 1, true)
		}
		l["one wrote thrice"+turn] = long
	}
	return l
}

// P19.2: pairs that did as clusters do decide alike, and what they decided comes to its end: both hold what the source held, or all is as it was.
func TestMeetToTheEnd(t *testing.T) {
	for name, p := range before(t) {
		way := decide(t, p.n)
		for order := range 1 << 4 {
			q := *p
			held := [2][]string{blocksOf(t, q.n[0]), blocksOf(t, q.n[1])}
			q.begin(t)
			for i := range 4 {
				q.delivers(t, order>>i&1)
			}
			q.drains(t)
			if way == closed {
				for i, n := range q.n {
					if n.State != api.StAlone || n.Store.Super != p.n[i].Store.Super || n.Store.Mask != p.n[i].Store.Mask || !slices.Equal(blocksOf(t, n), held[i]) {
						t.Fatal(name, n)
					}
				}
				continue
			}
			q.agrees(t)
			if from := max(way-copies0, 0); !slices.Equal(blocksOf(t, q.n[0]), held[from]) {
				t.Fatal(name, held, blocksOf(t, q.n[0]))
			}
		}
	}
}

// P19.2: wherever one's fuse ends by the meeting, or behind it, and whatever is kept then: both meet again, and decide alike; once one is half copied in the same way, and just what is marked is copied; both hold what the source held.
func TestDiesAnywhere(t *testing.T) {
	for name, p := range before(t) {
		way := decide(t, p.n)
		held := blocksOf(t, p.n[max(way-copies0, 0)])
		for bits := range 1 << 6 {
			who, first, fuse := bits&1, bits>>1&1, bits>>2
			q := *p
			q.n[who].Store.Disk = disk.Arm(q.n[who].Store.Disk, fuse)
			q.begin(t)
			q.delivers(t, first)
			q.drains(t)
			if q.n[who].Up {
				continue
			}
			for _, keeps := range keepsOf(len(q.n[who].Store.Disk.Cache)) {
				r := q
				r.revives(t, who, keeps)
				r.again(t, name, way)
				if !slices.Equal(blocksOf(t, r.n[0]), held) {
					t.Fatal(name, who, fuse, keeps, r)
				}
			}
		}
	}
}

// again: two that had decided in a way, of whom one died and came up, meet once more, to the end.
func (p *pair) again(t *testing.T, name string, way int) {
	t.Helper()
	m := p.n[0].Store.Mask | p.n[1].Store.Mask
	half := p.n[0].Store.Super.Inc || p.n[1].Store.Super.Inc
	if next := decide(t, p.n); next == closed || half && next != way {
		t.Fatal(name, way, next, p)
	}
	p.begin(t)
	p.delivers(t, 0)
	p.delivers(t, 1)
	if half && (p.n[0].Store.Mask != m || p.n[1].Store.Mask != m) {
		t.Fatal(name, m, p)
	}
	p.drains(t)
	p.agrees(t)
}

// happens: something that is drawn happens to both; meetings are counted.
func (p *pair) happens(t *testing.T, r *rand.Rand, count *[ways]int) {
	t.Helper()
	i := r.Intn(2)
	n := p.n[i]
	alone := n.Up && n.State == api.StAlone
	switch k := r.Intn(24); {
	case k < 10:
		p.delivers(t, i)
	case k < 14 && n.Up:
		p.writes(i, r.Intn(n.Store.Super.Blocks))
	case k < 16 && alone:
		p.n[i], _ = node.Promote(n, 1)
	case k == 16 && n.Up:
		n, outs := node.Demote(n, 2)
		p.puts(i, n, outs)
	case k == 17 && alone && r.Intn(4) == 0:
		p.n[i], _ = node.Discard(n, 3)
	case k == 18:
		p.ends()
	case k == 19 && n.Up:
		p.n[i].Store.Disk = disk.Arm(n.Store.Disk, r.Intn(12))
	case k == 20 && n.Up:
		p.puts(i, node.Down(n), nil)
	case k > 20 && !n.Up:
		keeps := make([]bool, len(n.Store.Disk.Cache))
		for at := range keeps {
			keeps[at] = r.Intn(2) == 0
		}
		p.revives(t, i, keeps)
	case k > 20 && alone && p.n[1-i].Up:
		count[p.meet(t)]++
	}
}

// meet: both decide alike, if no fuse ends, in which way is told; then they begin.
func (p *pair) meet(t *testing.T) int {
	t.Helper()
	n := p.n
	for i := range n {
		n[i].Store.Disk = disk.Arm(n[i].Store.Disk, 0)
	}
	way := decide(t, n)
	p.begin(t)
	return way
}

// P19.2: long rows of writes, meetings, sessions that are dropped, crashes and revivals: two that meet decide alike each time, and where both are linked, and nothing is under way, they agree.
func TestDrawnLives(t *testing.T) {
	r := rand.New(rand.NewSource(1))
	var count [ways]int
	quiet := 0
	for range 400 {
		p := pairOf(t, 1+r.Intn(4))
		for range 400 {
			p.happens(t, r, &count)
			a, b := p.n[0], p.n[1]
			if a.State == api.StLinked && b.State == api.StLinked && len(p.to[0])+len(p.to[1]) == 0 && !a.Req.On && !b.Req.On {
				p.agrees(t)
				quiet++
			}
			if a.Primary && b.Primary && a.State > api.StGreet && b.State > api.StGreet {
				t.Fatalf("%#v", p)
			}
		}
	}
	if quiet < 1000 || slices.Min(count[:]) < 100 {
		t.Error(quiet, count)
	}
}
