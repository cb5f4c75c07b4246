package cluster_test

import (
	"math"
	"slices"
	"strings"
	"testing"

	"gemination/api"
	"gemination/cluster"
	"gemination/disk"
	"gemination/packet"
)

// reply is what a node put out.
func reply(node, id int, e api.Errno) api.Out {
	return api.Out{Kind: 2, Node: node, Id: id, Err: e}
}

// P21.1: a new cluster is of two nodes with disks that were formatted just now, of each number of blocks.
func TestNew(t *testing.T) {
	for blocks := 1; blocks <= 32; blocks++ {
		for _, g := range []uint64{1, 7, 1 << 32, 1 << 63, math.MaxUint64} {
			c, e := cluster.New(blocks, g)
			want := api.Cluster{Nodes: [2]api.Node{freshNode(0, blocks, g), freshNode(1, blocks, g)}}
			if e != api.OK || !like(c, want) {
				t.Fatalf("%d, %d: %#v, %v", blocks, g, c, e)
			}
			if cluster.Quiet(c) || !cluster.Agree(c) {
				t.Error(blocks, g)
			}
			// Who writes into the one node changes not the other one.
			c.Nodes[0].Store.Disk.Sure[0] = "x"
			if c.Nodes[1].Store.Disk.Sure[0] == "x" {
				t.Error(blocks, g)
			}
		}
	}
}

// P21.1: of no blocks, of too many, and of the generation 0 there is none.
func TestNewWrong(t *testing.T) {
	for _, blocks := range []int{math.MinInt, -1, 0, 33, 62, 63, 64, 255, 256, 1<<32 + 1, math.MaxInt - 1, math.MaxInt} {
		for _, g := range []uint64{0, 7} {
			if c, e := cluster.New(blocks, g); e != api.ErrArg || !like(c, api.Cluster{}) {
				t.Errorf("%d, %d: %#v, %v", blocks, g, c, e)
			}
		}
	}
	for _, blocks := range []int{1, 32} {
		if c, e := cluster.New(blocks, 0); e != api.ErrArg || !like(c, api.Cluster{}) {
			t.Errorf("%d: %#v, %v", blocks, c, e)
		}
	}
}

// P21.1: what is put out, and in which order, and what becomes of the nodes, the link, and the wishes, with the numbers written out.
func TestExamples(t *testing.T) {
	drop, crash := ev(api.EvDrop, 0), ev(api.EvCrash, 1)
	asks := []api.Event{ask(api.EvPromote, 0, 1), ask(api.EvPromote, 1, 2)}
	junk := api.Event{Kind: api.EvForge, Node: 1, Data: "junk"}
	// Clipped, so that rows that go on from it share no room.
	waits := slices.Clip(append(linked(0), writes(0, 2, 1)))
	for name, x := range map[string]struct {
		row  []api.Event
		last []api.Event
		outs []api.Out
		// current generations, 0 of a node that is down
		heads           [2]uint64
		states          [2]int
		want            [2]bool
		session         uint64
		up, primary     bool
		quiet, agreeing bool
	}{
		"two fresh ones":   {connect(), deliver(0, 1), nil, [2]uint64{7, 7}, [2]int{2, 2}, [2]bool{true, true}, 1, true, false, true, true},
		"one wants":        {nil, []api.Event{ev(6, 0), ev(6, 0)}, nil, [2]uint64{7, 7}, [2]int{}, [2]bool{true, false}, 0, false, false, false, true},
		"one met":          {connect(), deliver(1), nil, [2]uint64{7, 7}, [2]int{1, 2}, [2]bool{true, true}, 1, true, false, false, true},
		"asks":             {append(connect(), deliver(0, 1)...), asks[:1], nil, [2]uint64{7, 7}, [2]int{2, 2}, [2]bool{true, true}, 1, true, false, false, true},
		"granted":          {linked(0), nil, nil, [2]uint64{7, 7}, [2]int{2, 2}, [2]bool{true, true}, 1, true, true, true, true},
		"promoted alone":   {nil, []api.Event{ask(1, 0, 5), ask(1, 0, 6), {Kind: 4, Id: 7, Block: 3}, {Kind: 4, Id: 8, Block: 2}}, []api.Out{reply(0, 5, 0), reply(0, 6, 8), reply(0, 7, 4), {Kind: 2, Id: 8, Data: strings.Repeat("\x00", 8)}}, [2]uint64{7, 7}, [2]int{}, [2]bool{}, 0, false, true, false, true},
		"not primary":      {nil, []api.Event{ask(2, 1, 5), ask(4, 1, 6), writes(1, 7, 0), ask(3, 1, 8), ask(1, 1, 9)}, []api.Out{reply(1, 5, 8), reply(1, 6, 8), reply(1, 7, 8), reply(1, 8, 0), reply(1, 9, 10)}, [2]uint64{7, 7}, [2]int{}, [2]bool{}, 0, false, false, false, true},
		"mirrored":         {waits, deliver(1, 0, 1), []api.Out{reply(0, 2, 0)}, [2]uint64{7, 7}, [2]int{2, 2}, [2]bool{true, true}, 1, true, true, true, true},
		"acknowledged":     {waits, deliver(1, 0), []api.Out{reply(0, 2, 0)}, [2]uint64{7, 7}, [2]int{2, 2}, [2]bool{true, true}, 1, true, true, false, false},
		"written alone":    {draws(), []api.Event{ask(1, 0, 1), writes(0, 2, 0)}, []api.Out{reply(0, 1, 0), reply(0, 2, 0)}, [2]uint64{100, 7}, [2]int{}, [2]bool{}, 0, false, true, false, false},
		"copied":           {append(alone(0, 0), connect()...), deliver(0, 1, 0, 1, 0, 0, 1), nil, [2]uint64{100, 100}, [2]int{2, 2}, [2]bool{true, true}, 1, true, true, true, true},
		"copied, not told": {append(alone(0, 0), connect()...), deliver(0, 1, 0, 1, 0, 0), nil, [2]uint64{100, 100}, [2]int{2, 4}, [2]bool{true, true}, 1, true, true, false, true},
		"wrote, dropped":   {waits, []api.Event{drop}, []api.Out{reply(0, 2, 0)}, [2]uint64{100, 7}, [2]int{}, [2]bool{true, true}, 1, false, true, false, false},
		"wrote, crashed":   {waits, []api.Event{crash}, []api.Out{reply(0, 2, 0)}, [2]uint64{100, 0}, [2]int{}, [2]bool{true, false}, 1, false, true, false, false},
		"wrote, left":      {waits, []api.Event{ev(7, 1)}, []api.Out{reply(0, 2, 0)}, [2]uint64{100, 7}, [2]int{}, [2]bool{true, false}, 1, false, true, false, false},
		"wrote, junk":      {append(waits, ask(1, 1, 3)), []api.Event{junk}, []api.Out{{Kind: 3, Node: 1}, reply(0, 2, 0)}, [2]uint64{100, 7}, [2]int{}, [2]bool{}, 1, false, true, false, false},
		"primary crashed":  {waits, []api.Event{ev(10, 0), ev(10, 0), ask(1, 0, 4)}, []api.Out{reply(0, 4, 7)}, [2]uint64{0, 7}, [2]int{}, [2]bool{false, true}, 1, false, false, false, false},
		"died of a mint":   {append(waits, with(12, 0, 1)), []api.Event{drop}, nil, [2]uint64{0, 7}, [2]int{}, [2]bool{false, true}, 1, false, false, false, false},
		"died of junk":     {append(waits, with(12, 0, 1)), []api.Event{junk}, []api.Out{{Kind: 3, Node: 1}}, [2]uint64{0, 7}, [2]int{}, [2]bool{}, 1, false, false, false, false},
		"target died":      {append(waits, with(12, 1, 3)), deliver(1), []api.Out{reply(0, 2, 0)}, [2]uint64{100, 0}, [2]int{}, [2]bool{true, false}, 1, false, true, false, false},
		"both died":        {append(waits, with(12, 1, 3), with(12, 0, 2)), deliver(1), nil, [2]uint64{}, [2]int{}, [2]bool{}, 1, false, false, false, false},
		"both ask, lost":   {slices.Concat(connect(), deliver(0, 1), asks), []api.Event{drop}, []api.Out{reply(0, 1, 13), reply(1, 2, 13)}, [2]uint64{7, 7}, [2]int{}, [2]bool{true, true}, 1, false, false, false, true},
		"both ask, denied": {slices.Concat(connect(), deliver(0, 1), asks), deliver(1, 0, 1, 0), []api.Out{reply(1, 2, 12), reply(0, 1, 12)}, [2]uint64{7, 7}, [2]int{2, 2}, [2]bool{true, true}, 1, true, false, true, true},
		"no draw":          {linked(0)[8:], []api.Event{writes(0, 2, 1), drop}, []api.Out{reply(0, 2, 14)}, [2]uint64{7, 7}, [2]int{}, [2]bool{true, true}, 1, false, true, false, false},
		"refused":          {slices.Concat(alone(0, 0), []api.Event{ask(1, 1, 2), writes(1, 3, 0)}, connect()), deliver(1), []api.Out{{Kind: 3, Node: 1}}, [2]uint64{100, 200}, [2]int{}, [2]bool{}, 1, false, true, false, false},
		"refused, other":   {slices.Concat(alone(0, 0), []api.Event{ask(1, 1, 2), writes(1, 3, 0)}, connect()), deliver(0, 1), []api.Out{{Kind: 3}}, [2]uint64{100, 200}, [2]int{}, [2]bool{}, 1, false, true, false, false},
		"once more":        {append(connect(), drop), append([]api.Event{ev(6, 1)}, deliver(0, 1)...), nil, [2]uint64{7, 7}, [2]int{2, 2}, [2]bool{true, true}, 2, true, false, true, true},
		"down, up":         {[]api.Event{crash}, []api.Event{ask(11, 1, 8), ask(11, 1, 9)}, []api.Out{reply(1, 8, 0), reply(1, 9, 7)}, [2]uint64{7, 7}, [2]int{}, [2]bool{}, 0, false, false, false, true},
		"down wants not":   {[]api.Event{crash}, connect(), nil, [2]uint64{7, 0}, [2]int{}, [2]bool{true, false}, 0, false, false, false, false},
	} {
		c := play(fresh(t, 3), x.row...)
		c, outs := cluster.Play(c, x.last...)
		if !slices.Equal(outs, x.outs) {
			t.Errorf("%s: %#v", name, outs)
		}
		for i, n := range c.Nodes {
			if n.Up != (x.heads[i] != 0) || n.Store.Super.Vector.Current != x.heads[i] || n.State != x.states[i] {
				t.Errorf("%s: %#v", name, n)
			}
		}
		if c.Want != x.want || c.Link.Session != x.session || c.Link.Up != x.up || c.Nodes[0].Primary != x.primary {
			t.Errorf("%s: %#v", name, c)
		}
		if cluster.Quiet(c) != x.quiet || cluster.Agree(c) != x.agreeing {
			t.Errorf("%s: %v, %v", name, cluster.Quiet(c), cluster.Agree(c))
		}
	}
}

// forged are bytes of all kinds for a cluster: junk, a packet that lacks or changed something, and packets of each kind, of this session and of others.
func forged(c api.Cluster) []string {
	l := []string{"", "junk", plainBytes(14, c.Link.Session, ""), strings.Repeat("x", 300)}
	for kind, fields := range []string{"", "", "\x01abcdefgh", "\x01", "\x01", "\x01", "\x01abcdefgh", "\x01", "", "", "", "", "", ""} {
		if kind < 2 {
			continue
		}
		for _, session := range []uint64{c.Link.Session, c.Link.Session + 1, c.Link.Session - 1} {
			b := plainBytes(kind, session, fields)
			l = append(l, b)
			if kind == api.PkClean || kind == api.PkAsk {
				l = append(l, b[1:], b+"\x00", "\x09"+b[1:])
			}
		}
	}
	h, _ := packet.Encode(api.Packet{Kind: api.PkHello, Session: c.Link.Session, Hello: api.Hello{Blocks: 3, Vector: api.Vector{Current: 8}}})
	return append(l, h, h[1:])
}

// events are of all kinds that may happen to a node.
func events(c api.Cluster, i int) []api.Event {
	l := []api.Event{ask(1, i, 31), ask(2, i, 32), ask(3, i, 33), ev(6, i), ev(7, i), ev(8, i), ev(9, i), ev(10, i)}
	for _, block := range []int{math.MinInt, -1, 0, 1, 2, 3, math.MaxInt} {
		l = append(l, api.Event{Kind: 4, Node: i, Id: 34, Block: block}, writes(i, 35, block))
	}
	for _, data := range []string{"", "1234567", "123456789"} {
		l = append(l, api.Event{Kind: 5, Node: i, Id: 36, Block: 1, Data: data})
	}
	for _, keeps := range [][]bool{nil, {true}, {false, true, true, true, true, true, true, true}, {true, true}} {
		l = append(l, api.Event{Kind: 11, Node: i, Id: 37, Keeps: keeps})
	}
	for _, n := range []uint64{0, 1, 5, 1000, 1001, math.MaxUint64} {
		l = append(l, with(12, i, n), with(13, i, n))
	}
	for _, b := range forged(c) {
		l = append(l, api.Event{Kind: 14, Node: i, Data: b})
	}
	return l
}

// P21.1: each event happens to clusters of each kind as the words say, wherever a disk dies by that.
func TestEachEvent(t *testing.T) {
	for _, c := range clusters(t) {
		tells(t, c)
		for i := range 2 {
			for _, e := range events(c, i) {
				got, _ := does(t, c, e)
				tells(t, got)
				for fuse := 1; fuse <= 9 && e.Kind < api.EvRestart; fuse++ {
					// Both, or either.
					x := c
					for k := range x.Nodes {
						if fuse%3 != k && x.Nodes[k].Up {
							x.Nodes[k].Store.Disk = disk.Arm(x.Nodes[k].Store.Disk, (fuse+2)/3+k)
						}
					}
					got, _ := does(t, x, e)
					tells(t, got)
				}
			}
		}
	}
}

// P21.1: an event of no kind, or of no node, is nothing, whatever else it has.
func TestNothing(t *testing.T) {
	for _, c := range clusters(t) {
		for _, kind := range []int{math.MinInt, -1, 0, 15, 16, 255, 256 + 1, 256 + 8, 1<<32 + 9, math.MaxInt} {
			for i := range 2 {
				nothing(t, c, api.Event{Kind: kind, Node: i, Id: 1, Block: 1, Data: "junkjunk", N: 5, Keeps: []bool{true}})
			}
		}
		for _, node := range []int{math.MinInt, -2, -1, 2, 3, 255, 256, 1 << 32, math.MaxInt} {
			for kind := 1; kind <= 14; kind++ {
				nothing(t, c, api.Event{Kind: kind, Node: node, Id: 1, Block: 1, Data: "junkjunk", N: 5, Keeps: []bool{true}})
			}
		}
	}
}

// nothing is what an event does, and what is put out.
func nothing(t *testing.T, c api.Cluster, e api.Event) {
	t.Helper()
	got, outs := cluster.Do(c, e)
	if !like(got, c) || len(outs) != 0 {
		t.Fatalf("%#v, %#v: %#v, %#v", c, e, got, outs)
	}
}

// P21.1: where nothing is under way, there is no session, or a node is down, or up already, these events are nothing.
func TestNothingToDo(t *testing.T) {
	up := fresh(t, 2)
	down := play(up, ev(api.EvCrash, 0), ev(api.EvCrash, 1))
	met := play(up, append(connect(), deliver(0, 1)...)...)
	for i := range 2 {
		for _, kind := range []int{api.EvDisconnect, api.EvDrop, api.EvDeliver, api.EvForge} {
			nothing(t, up, ev(kind, i))
			nothing(t, down, ev(kind, i))
		}
		for _, kind := range []int{api.EvConnect, api.EvCrash, api.EvFuse} {
			nothing(t, down, with(kind, i, 3))
		}
		nothing(t, met, ev(api.EvConnect, i))
		nothing(t, met, ev(api.EvDeliver, i))
		for kind := api.PkEnd; kind <= api.PkRole; kind++ {
			nothing(t, met, api.Event{Kind: api.EvForge, Node: i, Data: plainBytes(kind, 1, "")})
			nothing(t, met, api.Event{Kind: api.EvForge, Node: i, Data: plainBytes(kind, 2, "")})
			nothing(t, up, api.Event{Kind: api.EvForge, Node: i, Data: plainBytes(kind, 0, "")})
		}
	}
}

// P21.1: what is forged and is no packet ends any session, and neither wants to be connected then; both are told it is closed once.
func TestForge(t *testing.T) {
	count := 0
	for _, c := range clusters(t) {
		for i := range 2 {
			got, outs := cluster.Do(c, api.Event{Kind: api.EvForge, Node: i, Data: "junk"})
			if !c.Link.Up {
				nothing(t, c, api.Event{Kind: api.EvForge, Node: i, Data: "junk"})
				continue
			}
			count++
			lost, replies := cluster.Do(c, ev(api.EvDrop, 0))
			lost.Want = [2]bool{}
			if !like(got, lost) || !slices.Equal(outs, append([]api.Out{{Kind: api.OutClose, Node: i}}, replies...)) {
				t.Fatalf("%#v: %#v, %#v", c, got, outs)
			}
		}
	}
	if count < 100 {
		t.Error(count)
	}
}

// P21.1: a session is there just where both are up, and in it; each of these wants to be connected who is in one.
func TestSessions(t *testing.T) {
	for _, c := range clusters(t) {
		for i, n := range c.Nodes {
			if c.Link.Up != (n.Up && n.State != api.StAlone) && n.Up || c.Link.Up && (!n.Up || n.Session != c.Link.Session || !c.Want[i]) || c.Want[i] && !n.Up {
				t.Fatalf("%#v", c)
			}
		}
		if !c.Link.Up && len(c.Link.To[0])+len(c.Link.To[1]) != 0 {
			t.Fatalf("%#v", c)
		}
	}
	c := fresh(t, 1)
	for session := range uint64(20) {
		if c.Link.Session != session {
			t.Fatal(c.Link)
		}
		c = play(c, append(connect(), deliver(0, 1)...)...)
		c = play(c, ev([]int{api.EvDrop, api.EvDisconnect}[session%2], int(session/2%2)))
	}
}

// P21.1: who wants to be connected, in whatever order both say so.
func TestWant(t *testing.T) {
	for bits := range 1 << 10 {
		c := fresh(t, 1)
		want := [2]bool{}
		for k := range 5 {
			i, yes := bits>>(2*k)&1, bits>>(2*k+1)&1 == 1
			kind := api.EvDisconnect
			if yes {
				kind = api.EvConnect
			}
			c, _ = does(t, c, ev(kind, i))
			want[i] = yes
			if c.Want != want || c.Link.Up != (want[0] && want[1]) {
				t.Fatalf("%b, %d: %#v", bits, k, c)
			}
		}
	}
}

// P21.1: what is under way comes in order, the one side's packets apart from the other one's.
func TestDeliver(t *testing.T) {
	for _, c := range clusters(t) {
		for i := range 2 {
			way := c.Link.To[i]
			got, _ := does(t, c, ev(api.EvDeliver, i))
			if !got.Link.Up || len(way) == 0 {
				continue
			}
			if !slices.Equal(got.Link.To[i], way[1:]) || !slices.Equal(got.Link.To[1-i][:len(c.Link.To[1-i])], c.Link.To[1-i]) {
				t.Fatalf("%#v: %#v", c.Link, got.Link)
			}
		}
	}
}

// P21.1: a node's draws are a thousand at most, of any number, be it up or down.
func TestDraws(t *testing.T) {
	c := play(fresh(t, 1), ev(api.EvCrash, 1))
	for i := range 2 {
		for k := range 1003 {
			c, _ = cluster.Do(c, with(api.EvDraw, i, uint64(k)*0x0102030405060708))
		}
		l := c.Nodes[i].Draws
		if len(l) != 1000 || l[0] != 0 || l[999] != 999*0x0102030405060708&math.MaxUint64 {
			t.Error(i, len(l))
		}
		nothing(t, c, with(api.EvDraw, i, 5))
	}
	// One is drawn (it is 0), so there is room for another one.
	c = play(c, ask(api.EvPromote, 0, 1), writes(0, 2, 0), with(api.EvDraw, 0, 55), with(api.EvDraw, 0, 56))
	if l := c.Nodes[0].Draws; len(l) != 1000 || l[0] != 0x0102030405060708 || l[999] != 55 {
		t.Error(len(l), l[999])
	}
	if len(c.Nodes[1].Draws) != 1000 || len(c.Nodes[0].Mints) != 0 {
		t.Error(c.Nodes[0].Mints)
	}
}

// P21.1: a fuse is a thousand at most, 0 is none, and the later one holds.
func TestFuse(t *testing.T) {
	for i := range 2 {
		c := fresh(t, 1)
		for n, want := range map[uint64]int{0: 0, 1: 1, 2: 2, 999: 999, 1000: 1000, 1001: 1000, 1 << 31: 1000, 1 << 32: 1000, 1<<32 + 1: 1000, 1 << 63: 1000, 1<<63 + 1: 1000, math.MaxUint64: 1000} {
			c, _ = does(t, c, with(api.EvFuse, i, n))
			if c.Nodes[i].Store.Disk.Fuse != want || c.Nodes[1-i].Store.Disk.Fuse != 0 {
				t.Error(n, c.Nodes[i].Store.Disk.Fuse)
			}
		}
	}
	// Four of a write's six operations: the mark is there, the data aren't.
	c := play(fresh(t, 1), with(api.EvDraw, 0, 9), ask(api.EvPromote, 0, 1), with(api.EvFuse, 0, 5), writes(0, 2, 0))
	if c.Nodes[0].Up {
		t.Error(c.Nodes[0])
	}
	c = play(c, ask(api.EvRestart, 0, 3))
	if s := c.Nodes[0].Store; s.Mask != 1 || s.Super.Vector.Current != 9 || blocksOf(s.Disk)[0] != strings.Repeat("\x00", 8) {
		t.Error(s)
	}
}

// P21.1: who comes up again has what was sure, and what is kept of the rest; it is alone, no primary, and wants no connection.
func TestRestart(t *testing.T) {
	for k, want := range []string{0: strings.Repeat("\x00", 8), 1: dataOf(2)} {
		c := play(fresh(t, 1), with(api.EvDraw, 0, 9), ask(api.EvPromote, 0, 1), ev(api.EvConnect, 0), with(api.EvFuse, 0, 6), writes(0, 2, 0))
		if c.Nodes[0].Up || c.Want[0] {
			t.Fatal(c)
		}
		c, outs := does(t, c, api.Event{Kind: api.EvRestart, Id: 3, Keeps: []bool{k == 1}})
		n := c.Nodes[0]
		if !slices.Equal(outs, []api.Out{reply(0, 3, api.OK)}) || !n.Up || n.Primary || n.State != api.StAlone || c.Want[0] || blocksOf(n.Store.Disk)[0] != want || n.Store.Mask != 1 {
			t.Error(outs, n)
		}
		// Up already: nothing but the reply.
		got, outs := does(t, c, api.Event{Kind: api.EvRestart, Id: 4})
		if !slices.Equal(outs, []api.Out{reply(0, 4, api.ErrDown)}) || !like(got, c) {
			t.Error(outs)
		}
	}
	met := play(fresh(t, 1), append(connect(), deliver(0, 1)...)...)
	if got, outs := does(t, met, ask(api.EvRestart, 1, 5)); !like(got, met) || !slices.Equal(outs, []api.Out{reply(1, 5, api.ErrDown)}) {
		t.Error(outs)
	}
}

// P21.1: whoever asked is replied by just that number, at once or later.
func TestIds(t *testing.T) {
	for _, id := range []int{math.MinInt, math.MinInt32, -1, 0, 1, 255, 1 << 32, math.MaxInt} {
		row := []api.Event{ask(1, 0, id), writes(0, id, 0), ask(2, 0, id), ask(2, 0, id), ask(3, 0, id), ask(4, 0, id), ev(10, 0), ask(11, 0, id), ask(1, 0, id)}
		c, outs := cluster.Play(play(fresh(t, 1), draws()...), row...)
		for _, o := range outs {
			if o.Id != id || o.Kind != api.OutReply {
				t.Error(id, o)
			}
		}
		if len(outs) != 8 {
			t.Error(outs)
		}
		c = play(fresh(t, 1), append(draws(), append(connect(), deliver(0, 1)...)...)...)
		c, outs = cluster.Play(c, append([]api.Event{ask(1, 1, id)}, deliver(0, 1)...)...)
		c, more := cluster.Play(c, append([]api.Event{writes(1, id, 0)}, deliver(0, 1)...)...)
		_, last := cluster.Play(c, writes(1, id, 0), ev(api.EvDrop, 0))
		if outs = slices.Concat(outs, more, last); !slices.Equal(outs, []api.Out{reply(1, id, 0), reply(1, id, 0), reply(1, id, 0)}) {
			t.Error(id, outs)
		}
	}
}

// P21.1: a play is its events, one behind the other; the list is left as it was.
func TestPlay(t *testing.T) {
	for _, row := range rows() {
		for k := range row {
			c := fresh(t, 3)
			want, outs := c, []api.Out{}
			for _, e := range row[:k] {
				next, more := cluster.Do(want, e)
				want, outs = next, append(outs, more...)
			}
			given, l := copyOf(c), append(slices.Clone(row[:k]), row[0])[:k]
			got, all := cluster.Play(given, l...)
			if !like(got, want) || !slices.Equal(all, outs) || !untouched(given, c) {
				t.Fatalf("%#v: %#v, %#v", row[:k], got, all)
			}
			for i, e := range l {
				if !slices.Equal(e.Keeps, row[i].Keeps) || e.Kind != row[i].Kind || e.Node != row[i].Node || e.N != row[i].N || e.Data != row[i].Data {
					t.Fatalf("%#v: changed to %#v", row[i], e)
				}
			}
		}
	}
	for _, c := range clusters(t) {
		if got, outs := cluster.Play(c); !like(got, c) || len(outs) != 0 {
			t.Fatalf("%#v: %#v, %#v", c, got, outs)
		}
	}
}

// P21.1: two answers of one cluster don't disturb each other, though they share memory.
func TestTwoAnswers(t *testing.T) {
	for _, c := range clusters(t) {
		c = copyOf(c)
		for i := range 2 {
			for _, e := range []api.Event{ev(6, i), ev(7, i), ev(9, i), ev(10, i), ask(11, i, 1), with(13, i, 5), writes(i, 2, 1), ask(1, i, 1)} {
				a, outs := cluster.Do(c, e)
				want, said := copyOf(a), slices.Clone(outs)
				for k := range 2 {
					for _, f := range []api.Event{with(13, k, 6), ev(9, k), ev(9, 1-k), writes(k, 3, 1), ev(10, k), ask(11, k, 1)} {
						b, _ := cluster.Do(c, f)
						cluster.Do(b, e)
						cluster.Play(a, f, e)
					}
				}
				if !like(a, want) || !slices.Equal(outs, said) {
					t.Fatalf("%#v, %#v, not %#v, %#v", a, outs, want, said)
				}
			}
		}
	}
}

// P21.1: a cluster is quiet where each of the words holds, and not where one doesn't.
func TestQuiet(t *testing.T) {
	c := play(fresh(t, 3), linked(1)...)
	if !cluster.Quiet(c) {
		t.Fatal(c)
	}
	for i := range 2 {
		for k, change := range []func(*api.Cluster){
			func(x *api.Cluster) { x.Nodes[i].Up = false },
			func(x *api.Cluster) { x.Nodes[i].State = api.StAlone },
			func(x *api.Cluster) { x.Nodes[i].State = api.StGreet },
			func(x *api.Cluster) { x.Nodes[i].State = api.StSource },
			func(x *api.Cluster) { x.Nodes[i].State = api.StTarget },
			func(x *api.Cluster) { x.Nodes[i].Req.On = true },
			func(x *api.Cluster) { x.Nodes[i].Asking = true },
			func(x *api.Cluster) { x.Link.To[i] = []string{""} },
		} {
			x := c
			change(&x)
			if cluster.Quiet(x) {
				t.Error(i, k)
			}
		}
		// These don't count.
		x := c
		x.Nodes[i].PeerPri, x.Nodes[i].Minted, x.Nodes[i].Primary, x.Nodes[i].Wanted, x.Nodes[i].AskId = true, true, true, 1, 4
		x.Nodes[i].Req.Id, x.Nodes[i].Store.Mask, x.Want[i], x.Link.To[i] = 5, 1, false, []string{}
		if !cluster.Quiet(x) {
			t.Error(i)
		}
	}
}

// P21.1: both agree where each of the words holds, and not where one doesn't; what is in a disk's cache counts.
func TestAgree(t *testing.T) {
	c := play(fresh(t, 3), linked(1)...)
	if !cluster.Agree(c) {
		t.Fatal(c)
	}
	for i := range 2 {
		for k, change := range []func(*api.Cluster){
			func(x *api.Cluster) { x.Nodes[i].Up = false },
			func(x *api.Cluster) { x.Nodes[i].Store.Mask = 1 },
			func(x *api.Cluster) { x.Nodes[i].Store.Mask = 4 },
			func(x *api.Cluster) { x.Nodes[i].Store.Disk.Sure[2] = dataOf(1) },
			func(x *api.Cluster) { x.Nodes[i].Store.Disk.Sure[4] = dataOf(1) },
			func(x *api.Cluster) { x.Nodes[i].Store.Disk.Cache = []api.Write{{Sector: 3, Data: dataOf(1)}} },
			func(x *api.Cluster) { x.Nodes[i].Store.Super.Vector.Current = 8 },
			func(x *api.Cluster) { x.Nodes[i].Store.Super.Vector.Bitmap = 8 },
			func(x *api.Cluster) { x.Nodes[i].Store.Super.Vector.Old[0] = 8 },
			func(x *api.Cluster) { x.Nodes[i].Store.Super.Vector.Old[1] = 8 },
		} {
			x := copyOf(c)
			change(&x)
			if cluster.Agree(x) {
				t.Error(i, k)
			}
		}
		// These don't count.
		x := copyOf(c)
		n := &x.Nodes[i]
		n.State, n.Req.On, n.Asking, n.Store.Super.Inc, n.Store.Super.Pri, n.Store.Super.Dis = 0, true, true, true, true, true
		n.Store.Disk.Sure[2], n.Store.Disk.Cache = dataOf(1), []api.Write{{Sector: 2, Data: blocksOf(c.Nodes[0].Store.Disk)[0]}}
		x.Link.To[i] = []string{"x"}
		if !cluster.Agree(x) {
			t.Error(i)
		}
	}
	both := copyOf(c)
	both.Nodes[0].Store.Mask, both.Nodes[1].Store.Mask = 2, 2
	if cluster.Agree(both) {
		t.Error("both marked")
	}
}

// P21.1: clusters are the same just if each part is, be lists that hold nothing nil or empty.
func TestSame(t *testing.T) {
	c := play(fresh(t, 3), rows()[2][:20]...)
	c.Link.To[0] = append(c.Link.To[0], "x")
	for _, x := range []api.Cluster{c, {}, fresh(t, 1), {Want: [2]bool{true, true}}} {
		if !cluster.Same(x, x) || !cluster.Same(x, flat(x)) || !cluster.Same(flat(x), x) || !cluster.Same(x, copyOf(x)) {
			t.Errorf("%#v", x)
		}
	}
	for i := range 2 {
		for k, change := range []func(*api.Cluster, *api.Node){
			func(x *api.Cluster, n *api.Node) { n.Id = 5 },
			func(x *api.Cluster, n *api.Node) { n.Up = !n.Up },
			func(x *api.Cluster, n *api.Node) { n.Store.Disk.Sure[4] = "x" },
			func(x *api.Cluster, n *api.Node) { n.Store.Disk.Sure = n.Store.Disk.Sure[:4] },
			func(x *api.Cluster, n *api.Node) { n.Store.Disk.Cache = append(n.Store.Disk.Cache, api.Write{}) },
			func(x *api.Cluster, n *api.Node) { n.Store.Disk.Fuse++ },
			func(x *api.Cluster, n *api.Node) { n.Store.Disk.Dead = !n.Store.Disk.Dead },
			func(x *api.Cluster, n *api.Node) { n.Store.Super.Vector.Old[1]++ },
			func(x *api.Cluster, n *api.Node) { n.Store.Mask++ },
			func(x *api.Cluster, n *api.Node) { n.Primary = !n.Primary },
			func(x *api.Cluster, n *api.Node) { n.State++ },
			func(x *api.Cluster, n *api.Node) { n.Session++ },
			func(x *api.Cluster, n *api.Node) { n.Peer.Was = !n.Peer.Was },
			func(x *api.Cluster, n *api.Node) { n.PeerPri = !n.PeerPri },
			func(x *api.Cluster, n *api.Node) { n.Req.Data += "x" },
			func(x *api.Cluster, n *api.Node) { n.Asking = !n.Asking },
			func(x *api.Cluster, n *api.Node) { n.AskId++ },
			func(x *api.Cluster, n *api.Node) { n.Wanted++ },
			func(x *api.Cluster, n *api.Node) { n.Minted = !n.Minted },
			func(x *api.Cluster, n *api.Node) { n.Draws = append(n.Draws, 1) },
			func(x *api.Cluster, n *api.Node) { n.Draws[0]++ },
			func(x *api.Cluster, n *api.Node) { n.Mints = append(n.Mints, api.Mint{}) },
			func(x *api.Cluster, n *api.Node) { x.Link.Up = !x.Link.Up },
			func(x *api.Cluster, n *api.Node) { x.Link.Session++ },
			func(x *api.Cluster, n *api.Node) { x.Link.To[i] = append(x.Link.To[i], "") },
			func(x *api.Cluster, n *api.Node) { x.Want[i] = !x.Want[i] },
		} {
			x := copyOf(c)
			change(&x, &x.Nodes[i])
			if cluster.Same(x, c) || cluster.Same(c, x) || !cluster.Same(x, x) {
				t.Error(i, k)
			}
		}
	}
	turned := copyOf(c)
	turned.Nodes[0], turned.Nodes[1] = turned.Nodes[1], turned.Nodes[0]
	if cluster.Same(c, turned) {
		t.Error("turned about")
	}
}

// P21.1: whatever clusters of which nothing is promised, of nodes that are as nodes are, events come to their end.
func TestOthersEnd(t *testing.T) {
	for _, c := range []api.Cluster{{}, {Link: api.Link{Up: true}}, {Want: [2]bool{true, true}, Link: api.Link{To: [2][]string{{"x"}, {""}}}}, {Nodes: [2]api.Node{{Id: -1, Up: true}, {Id: 7, Up: true, State: 9}}, Link: api.Link{Up: true}}} {
		for i := range 2 {
			for _, e := range events(c, i) {
				if e.Kind != api.EvRestart {
					cluster.Do(c, e)
				}
			}
		}
		cluster.Quiet(c)
		cluster.Agree(c)
	}
}
