package peer_test

import (
	"math"
	"slices"
	"strings"
	"testing"

	"gemination/api"
	"gemination/node"
	"gemination/peer"
)

// helloOf may be: of another node, by the bits of a number: Inc, Was, Dis, Pri, and marks.
func helloOf(blocks, bits int) api.Hello {
	v := api.Vector{Current: 12, Bitmap: 9, Old: [2]uint64{7, 5}}
	h := api.Hello{Blocks: blocks, Vector: v, Inc: bits&1 != 0, Was: bits&2 != 0, Dis: bits&4 != 0, Pri: bits&8 != 0, Mask: uint32(bits >> 4)}
	if h.Pri {
		h.Was, h.Inc = false, false
	}
	return h
}

// packetsOf are some of each kind, that may be, of a session: of the blocks 0 to 3, 30 and 31, and of several hellos.
func packetsOf(session uint64) []api.Packet {
	var l []api.Packet
	for _, bits := range []int{0, 1, 2, 4, 8, 8 + 16, 2 + 32} {
		l = append(l, api.Packet{Kind: api.PkHello, Hello: helloOf(3, bits)})
	}
	for _, block := range []int{0, 1, 2, 3, 30, 31} {
		for kind := api.PkData; kind <= api.PkGot; kind++ {
			p := api.Packet{Kind: kind, Block: block}
			if kind == api.PkData || kind == api.PkGive {
				p.Data = "abcdefgh"
			}
			l = append(l, p)
		}
	}
	for kind := api.PkEnd; kind <= api.PkRole; kind++ {
		l = append(l, api.Packet{Kind: kind})
	}
	for i := range l {
		l[i].Session = session
	}
	return l
}

// eachKind goes through nodes of three blocks with each state, each superblock's flags, each Id, each role that may be, a write that waits or none, one that asks or not, and a block that is wanted or none.
func eachKind(f func(api.Node)) {
	for flags := range 8 {
		for m := range uint32(2) {
			n := upOf(superOf(3, flags), m*6, api.StAlone)
			for bits := range 1 << 5 {
				n.Id = bits & 1
				n.Primary = bits&2 != 0
				n.Req.On = bits&4 != 0
				n.Asking = bits&8 != 0
				n.PeerPri, n.Minted, n.Wanted = bits&16 != 0, bits&16 == 0, bits>>3&2
				if n.Primary && n.Store.Super.Inc {
					continue
				}
				for n.State = range 5 {
					f(n)
				}
			}
		}
	}
}

// P20.1: the chapter's examples, and what each kind of packet makes of a node, with the numbers written out.
func TestExamples(t *testing.T) {
	of := func(state, flags int, m uint32) api.Node { return upOf(superOf(3, flags), m, state) }
	asking, waits, wants, primary := of(2, 0, 0), of(3, 0, 2), of(4, 1, 6), of(2, 2, 0)
	asking.Asking, primary.Primary, wants.Wanted = true, true, 2
	waits.Req.On = true
	for name, x := range map[string]struct {
		n    api.Node
		p    api.Packet
		want func(*api.Node)
		outs []api.Out
	}{
		"hello": {of(1, 0, 0), api.Packet{Kind: 1, Hello: api.Hello{Blocks: 3, Vector: api.Vector{Current: 9}}}, func(n *api.Node) {
			n.State, n.PeerPri, n.Peer = 2, false, api.Hello{Blocks: 3, Vector: api.Vector{Current: 9}}
			n.Store.Super.Vector = api.Vector{Current: 9, Old: [2]uint64{7, 5}}
		}, nil},
		"refused": {of(1, 0, 0), api.Packet{Kind: 1, Hello: api.Hello{Blocks: 2, Vector: api.Vector{Current: 9}}}, nil, []api.Out{{Kind: 3}}},
		"data":    {of(2, 0, 1), api.Packet{Kind: 2, Block: 1, Data: "abcdefgh"}, func(n *api.Node) { n.Store.Mask = 3 }, []api.Out{{Data: bytesOf(api.Packet{Kind: 3, Block: 1})}}},
		"ack":     {waits, api.Packet{Kind: 3, Block: 1}, func(n *api.Node) { n.Req, n.Store.Mask = api.Request{}, 0 }, []api.Out{{Kind: 2, Id: 31}, {Data: bytesOf(api.Packet{Kind: 4, Block: 1})}}},
		"clean":   {of(4, 0, 7), api.Packet{Kind: 4, Block: 1}, func(n *api.Node) { n.Store.Mask = 5 }, nil},
		"want":    {of(3, 0, 7), api.Packet{Kind: 5, Block: 2}, nil, []api.Out{{Data: bytesOf(api.Packet{Kind: 6, Block: 2, Data: blockOf(3)})}}},
		"give": {wants, api.Packet{Kind: 6, Block: 1, Data: "abcdefgh"}, func(n *api.Node) { n.Wanted, n.Store.Mask = 3, 4 },
			[]api.Out{{Data: bytesOf(api.Packet{Kind: 7, Block: 1})}, {Data: bytesOf(api.Packet{Kind: 5, Block: 2})}}},
		"got": {of(3, 0, 7), api.Packet{Kind: 7}, func(n *api.Node) { n.Store.Mask = 6 }, nil},
		"end": {of(3, 0, 0), api.Packet{Kind: 8}, func(n *api.Node) {
			n.State, n.Store.Super.Vector = 2, api.Vector{Current: 9, Old: [2]uint64{7, 5}}
		}, []api.Out{{Data: bytesOf(api.Packet{Kind: 9})}}},
		"done":         {of(4, 0, 0), api.Packet{Kind: 9}, func(n *api.Node) { n.State = 2 }, nil},
		"half, done":   {of(4, 1, 0), api.Packet{Kind: 9}, nil, []api.Out{{Kind: 3}}},
		"ask":          {of(3, 0, 0), api.Packet{Kind: 10}, func(n *api.Node) { n.PeerPri = true }, []api.Out{{Data: bytesOf(api.Packet{Kind: 11})}}},
		"both ask":     {asking, api.Packet{Kind: 10}, nil, []api.Out{{Data: bytesOf(api.Packet{Kind: 12})}}},
		"primary, ask": {primary, api.Packet{Kind: 10}, nil, []api.Out{{Data: bytesOf(api.Packet{Kind: 12})}}},
		"grant":        {asking, api.Packet{Kind: 11}, func(n *api.Node) { n.Primary, n.Asking, n.AskId, n.Store.Super.Pri = true, false, 0, true }, []api.Out{{Kind: 2, Id: 32}}},
		"no ask":       {of(2, 0, 0), api.Packet{Kind: 11}, nil, []api.Out{{Kind: 3}}},
		"deny":         {asking, api.Packet{Kind: 12}, func(n *api.Node) { n.Asking, n.AskId = false, 0 }, []api.Out{{Kind: 2, Id: 32, Err: 12}}},
		"role":         {of(2, 0, 0), api.Packet{Kind: 13}, func(n *api.Node) { n.PeerPri = false }, nil},
		"stale":        {asking, api.Packet{Kind: 11, Session: 1}, nil, nil},
		"far":          {of(2, 0, 7), api.Packet{Kind: 4, Block: 3}, nil, []api.Out{{Kind: 3}}},
	} {
		x.n.Session = 0
		for x.n.Id = range 2 {
			want := x.n
			if x.want != nil {
				x.want(&want)
			}
			for i := range x.outs {
				x.outs[i].Kind, x.outs[i].Node = max(x.outs[i].Kind, api.OutPacket), x.n.Id
			}
			got, outs := does(t, x.n, x.p)
			got.Store.Disk = want.Store.Disk
			if !node.Same(got, want) || !slices.Equal(outs, x.outs) {
				t.Errorf("%s: %#v, %#v, not %#v, %#v", name, got, outs, want, x.outs)
			}
		}
	}
}

// P20.1: of nodes of each kind, up or down, each kind of packet, of blocks that they have, and of such as they haven't.
func TestEachKind(t *testing.T) {
	eachKind(func(n api.Node) {
		for _, p := range packetsOf(n.Session) {
			does(t, n, p)
			tellsFit(t, n, p, fits(n, p))
			tellsFit(t, node.Down(n), p, false)
		}
	})
}

// P20.1: a node that is down does nothing, whatever it has beside its disk.
func TestDown(t *testing.T) {
	eachKind(func(n api.Node) {
		for _, x := range []api.Node{node.Down(n), {Id: n.Id, State: n.State, Session: n.Session, Primary: n.Primary, Asking: n.Asking, Store: n.Store}} {
			for _, p := range packetsOf(x.Session) {
				does(t, x, p)
				tellsFit(t, x, p, false)
			}
			if got, outs := peer.Receive(x, "junk"); !like(got, x) || len(outs) != 0 {
				t.Fatal(got, outs)
			}
		}
	})
}

// P20.1: whether a packet fits hangs on nothing else: the Session, the marks, the disk, and what waits.
func TestFitsElse(t *testing.T) {
	for state := range 5 {
		for _, p := range packetsOf(0) {
			for bits := range 1 << 4 {
				n := upOf(superOf(3, bits&6), 7, state)
				n.Session, p.Session = uint64(bits), math.MaxUint64
				n.PeerPri, n.Req.On, n.Wanted = bits&1 != 0, bits&2 != 0, bits&4
				n.Asking = bits&8 != 0
				n.Store.Disk.Fuse = bits & 3
				tellsFit(t, n, p, fits(n, p))
			}
		}
	}
}

// wrong are packets that may not be: of no kind, of blocks that there can't be, of data of a wrong length, and with fields that their kind hasn't.
func wrong() []api.Packet {
	var l []api.Packet
	for _, kind := range []int{math.MinInt, -1, 0, 14, 15, 255, 256, 257, 1<<32 + 1, math.MaxInt} {
		l = append(l, api.Packet{Kind: kind})
	}
	for _, p := range packetsOf(0) {
		blockless := p.Kind == api.PkHello || p.Kind >= api.PkEnd
		for _, block := range []int{math.MinInt, -1, 1, 32, 33, 256, 1 << 32, math.MaxInt} {
			if block != 1 || blockless {
				q := p
				q.Block = block
				l = append(l, q)
			}
		}
		for _, data := range []string{"", "x", "abcdefg", "abcdefgh", "abcdefghi", strings.Repeat("x", 264)} {
			q := p
			q.Data = data
			if q.Data != p.Data && (len(data) != 8 || p.Data == "") {
				l = append(l, q)
			}
		}
		q := p
		q.Hello.Blocks = 33
		l = append(l, q)
		q.Hello = api.Hello{Blocks: 3, Vector: api.Vector{Bitmap: 9}}
		l = append(l, q)
	}
	return l
}

// P20.1: a packet that may not be fits nobody.
func TestWrongFitsNot(t *testing.T) {
	for state := range 5 {
		for bits := range 4 {
			n := upOf(superOf(3, 0), 7, state)
			n.Asking, n.Primary = bits&1 != 0, bits&2 != 0
			for _, p := range wrong() {
				tellsFit(t, n, p, false)
			}
		}
	}
}

// P20.1: of each number of blocks a node takes packets of just those that it has.
func TestBlocks(t *testing.T) {
	for blocks := 1; blocks <= api.MaxBlocks; blocks++ {
		for i := range api.MaxBlocks {
			n := upOf(superOf(blocks, 0), 1, api.StAlone)
			n.Req = api.Request{On: true, Id: 6, Block: i, Data: "abcdefgh"}
			for kind := api.PkData; kind <= api.PkGot; kind++ {
				p := api.Packet{Kind: kind, Session: n.Session, Block: i}
				if kind == api.PkData || kind == api.PkGive {
					p.Data = blockOf(i)
				}
				for n.State = range 5 {
					n.Wanted = i + 1
					does(t, n, p)
					tellsFit(t, n, p, i < blocks && fits(n, p))
				}
			}
		}
		n := upOf(superOf(blocks, 0), 1, api.StGreet)
		for other := 1; other <= api.MaxBlocks; other++ {
			does(t, n, api.Packet{Kind: api.PkHello, Session: n.Session, Hello: api.Hello{Blocks: other, Vector: n.Store.Super.Vector}})
		}
	}
}

// caches are some with which a store stays whole: nothing, a mask that isn't sure, and each part once more.
func caches(s api.Store) [][]api.Write {
	mark := api.Write{Sector: 1, Data: maskBytes(s.Mask)}
	super := api.Write{Data: superBytes(s.Super)}
	return [][]api.Write{nil, {mark}, {{Sector: 3, Data: "xxxxxxxx"}, {Data: "xxxx"}, mark, super, {Sector: 3, Data: "yyyyyyyy"}}}
}

// P20.1: wherever the fuse ends, whatever is in the cache: what was put out ahead of that stays, and nothing comes behind it.
func TestEachEnd(t *testing.T) {
	i := 0
	eachKind(func(n api.Node) {
		if n.State == api.StAlone || n.Minted {
			return
		}
		i++
		n.Store.Disk.Cache = caches(n.Store)[i%3]
		for _, p := range packetsOf(n.Session) {
			if fits(n, p) {
				for n.Store.Disk.Fuse = range 8 {
					does(t, n, p)
				}
			}
		}
	})
}

// P20.1: who is granted it is primary, and says so, once its superblock does, for sure: whoever dies by that is replied nothing.
func TestGrantSure(t *testing.T) {
	for _, state := range []int{api.StLinked, api.StSource, api.StTarget} {
		for _, flags := range []int{0, 2, 4, 6} {
			n := upOf(superOf(3, flags), 5, state)
			n.Asking = true
			for n.Store.Disk.Fuse = range 5 {
				got, outs := does(t, n, api.Packet{Kind: api.PkGrant, Session: n.Session})
				lives := flags&2 != 0 || n.Store.Disk.Fuse == 0 || n.Store.Disk.Fuse > 2
				if got.Up != lives || got.Primary != lives || (len(outs) == 1) != lives {
					t.Fatal(state, flags, n.Store.Disk.Fuse, got, outs)
				}
				if b := superOf(3, flags|2); lives && (got.Store.Super != b || got.Store.Disk.Sure[0] != superBytes(b)) {
					t.Fatal(state, flags, got)
				}
			}
		}
	}
}

// edges are numbers of sessions.
func edges() []uint64 {
	return []uint64{0, 1, 2, 255, 256, math.MaxUint32, 1 << 32, 1<<63 - 1, 1 << 63, math.MaxUint64}
}

// P20.1: of a node's own session each packet is taken, and what is sent is of that one.
func TestSessions(t *testing.T) {
	for _, session := range edges() {
		for state := range 5 {
			n := upOf(superOf(3, 0), 7, state)
			n.Session, n.Wanted = session, 1
			for _, n.Asking = range []bool{false, true} {
				for _, p := range packetsOf(session) {
					does(t, n, p)
				}
			}
		}
	}
}

// P20.1: whoever asked to become primary, or wrote, is replied by just that number.
func TestIds(t *testing.T) {
	for _, id := range []int{math.MinInt, math.MinInt32, -1, 0, 1, 31, 32, 255, 1 << 32, math.MaxInt} {
		for state := range 5 {
			n := upOf(superOf(3, 0), 7, state)
			n.Asking, n.AskId = true, id
			n.Req = api.Request{On: true, Id: id, Block: 1, Data: "abcdefgh"}
			for _, p := range packetsOf(n.Session) {
				_, outs := does(t, n, p)
				for _, o := range outs {
					if o.Kind == api.OutReply && o.Id != id {
						t.Fatal(id, p, outs)
					}
				}
			}
		}
	}
}

// P20.1: data of eight bytes come as they are, bytes of all kinds.
func TestData(t *testing.T) {
	for _, data := range []string{"\x00\x00\x00\x00\x00\x00\x00\x00", "\xff\xfe\x00\xc3\x28\x80ab", "01234567", strings.Repeat("\u00e9", 4), strings.Repeat("\xff", 8)} {
		for _, kind := range []int{api.PkData, api.PkGive} {
			n := upOf(superOf(3, 1), 7, api.StTarget)
			n.Wanted = 2
			got, _ := does(t, n, api.Packet{Kind: kind, Session: n.Session, Block: 1, Data: data})
			if got.Store.Disk.Sure[3] != data {
				t.Fatalf("%q: %q", data, got.Store.Disk.Sure[3])
			}
		}
		n := upOf(superOf(3, 0), 7, api.StSource)
		n.Store.Disk.Sure[3] = data
		_, outs := does(t, n, api.Packet{Kind: api.PkWant, Session: n.Session, Block: 1})
		if len(outs) != 1 || !strings.Contains(outs[0].Data, data) {
			t.Fatalf("%q: %v", data, outs)
		}
	}
}

// P20.1: two answers of one node don't disturb each other, though they share memory.
func TestTwoAnswers(t *testing.T) {
	for state := range 5 {
		for _, p := range packetsOf(4) {
			n := upOf(superOf(3, 0), 7, state)
			n.Session, n.Asking, n.Wanted = 4, true, 1
			n = copyOf(n)
			a, outs := peer.Receive(n, bytesOf(p))
			want, said := copyOf(a), slices.Clone(outs)
			for _, q := range packetsOf(4) {
				b, _ := peer.Receive(n, bytesOf(q))
				peer.Receive(b, bytesOf(p))
				peer.Receive(a, bytesOf(q))
			}
			if !like(a, want) || !slices.Equal(outs, said) {
				t.Fatalf("%#v, %#v, not %#v, %#v", a, outs, want, said)
			}
		}
	}
}
