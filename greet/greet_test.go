package greet_test

import (
	"math"
	"math/rand"
	"slices"
	"testing"

	"gemination/api"
	"gemination/greet"
	"gemination/node"
)

// superOf has that vector, and flags by the bits of a number: Inc, Pri, Dis.
func superOf(blocks, flags int, v api.Vector) api.Super {
	return api.Super{Blocks: blocks, Vector: v, Inc: flags&1 != 0, Pri: flags&2 != 0, Dis: flags&4 != 0}
}

// gens is a vector of up to four generations: Current, Bitmap, and both Old.
func gens(l ...uint64) api.Vector {
	l = append(l, 0, 0, 0)
	return api.Vector{Current: l[0], Bitmap: l[1], Old: [2]uint64{l[2], l[3]}}
}

// Each kind of node is a number, by its bits: the superblock's Inc, Pri and Dis, and whether it is primary.
const primary = 8

// kinds are all that may be: none is primary and half copied.
func kinds() []int {
	return []int{0, 1, 2, 3, 4, 5, 6, 7, primary, primary | 2, primary | 4, primary | 6}
}

// kindOf is a node of that kind.
func kindOf(blocks, kind int, m uint32, v api.Vector) api.Node {
	n := upOf(superOf(blocks, kind, v), m)
	n.Primary = kind&primary != 0
	return n
}

// told are the hellos that may be with that vector and that mask, by all flags.
func told(blocks int, m uint32, v api.Vector) []api.Hello {
	var l []api.Hello
	for flags := range 16 {
		h := api.Hello{Blocks: blocks, Vector: v, Inc: flags&1 != 0, Was: flags&2 != 0, Dis: flags&4 != 0, Pri: flags&8 != 0, Mask: m}
		if !h.Pri || !h.Was && !h.Inc {
			l = append(l, h)
		}
	}
	return l
}

// greets is a node that began a session already.
func greets(n api.Node) api.Node {
	n.State = api.StGreet
	return n
}

// P19.1: the chapter's example, and what becomes of a node by each verdict, with the numbers written out.
func TestExamples(t *testing.T) {
	fresh, ahead := gens(7), gens(8, 7, 6, 5)
	hello := func(flags int, m uint32, v api.Vector) api.Hello {
		return api.Hello{Blocks: 4, Vector: v, Inc: flags&1 != 0, Was: flags&2 != 0, Dis: flags&4 != 0, Pri: flags&8 != 0, Mask: m}
	}
	super := func(flags int, v api.Vector) api.Super { return superOf(4, flags, v) }
	for name, x := range map[string]struct {
		n      api.Node
		h      api.Hello
		state  int
		b      api.Super
		m      uint32
		wanted int
	}{
		"fresh":              {kindOf(4, 0, 0, fresh), hello(0, 0, fresh), api.StLinked, super(0, fresh), 0, 0},
		"retired":            {kindOf(4, 0, 0, ahead), hello(0, 0, ahead), api.StLinked, super(0, gens(8, 0, 7, 6)), 0, 0},
		"primary":            {kindOf(4, primary, 0, ahead), hello(0, 0, ahead), api.StLinked, super(2, gens(8, 0, 7, 6)), 0, 0},
		"was primary":        {kindOf(4, 2, 0, ahead), hello(0, 0, gens(8)), api.StLinked, super(0, gens(8, 0, 7, 6)), 0, 0},
		"of a primary":       {kindOf(4, 0, 0, fresh), hello(8, 0, fresh), api.StLinked, super(0, fresh), 0, 0},
		"ahead":              {kindOf(4, primary|2, 4, ahead), hello(0, 1, fresh), api.StSource, super(2, ahead), 5, 0},
		"ahead, was primary": {kindOf(4, 2, 4, ahead), hello(2, 0, fresh), api.StSource, super(2, ahead), 4, 0},
		"far ahead":          {kindOf(4, 0, 4, ahead), hello(0, 0, gens(6)), api.StSource, super(0, ahead), 15, 0},
		"behind":             {kindOf(4, 0, 4, fresh), hello(8, 8, ahead), api.StTarget, super(1, gens(7, 8)), 12, 3},
		"behind, was pri":    {kindOf(4, 2, 0, gens(7, 1, 2, 3)), hello(0, 8, ahead), api.StTarget, super(1, gens(7, 8, 2, 3)), 8, 4},
		"far behind":         {kindOf(4, 0, 0, gens(5)), hello(8, 8, ahead), api.StTarget, super(1, gens(5, 8)), 15, 1},
		"marked alike":       {kindOf(4, 0, 2, fresh), hello(8, 8, fresh), api.StTarget, super(1, gens(7, 7)), 10, 2},
		"half copied":        {kindOf(4, 1, 4, gens(7, 8)), hello(8, 8, ahead), api.StTarget, super(1, gens(7, 8)), 12, 3},
		"half, nothing left": {kindOf(4, 1, 0, gens(7, 8)), hello(8, 0, ahead), api.StTarget, super(0, gens(8, 0, 7, 6)), 0, 0},
		"of a half copied":   {kindOf(4, primary|2, 8, ahead), hello(1, 2, gens(7, 8)), api.StSource, super(2, ahead), 10, 0},
		"to be discarded":    {kindOf(4, 4, 1, gens(9, 7)), hello(8, 8, ahead), api.StTarget, super(5, gens(9, 8)), 15, 1},
		"of such a one":      {kindOf(4, primary|2, 8, ahead), hello(4, 1, gens(9, 7)), api.StSource, super(2, ahead), 15, 0},
		"apart":              {kindOf(4, 2, 1, gens(9, 7)), hello(8, 8, ahead), api.StGreet, super(2, gens(9, 7)), 1, 0},
		"both primary":       {kindOf(4, primary|2, 0, fresh), hello(8, 0, fresh), api.StGreet, super(2, fresh), 0, 0},
		"unlike blocks":      {kindOf(3, 0, 0, fresh), hello(0, 0, fresh), api.StGreet, superOf(3, 0, fresh), 0, 0},
	} {
		for id := range 2 {
			x.n.Id = id
			got, outs := does(t, meets(x.h), greets(x.n))
			if got.State != x.state || got.Store.Super != x.b || got.Store.Mask != x.m || got.Wanted != x.wanted {
				t.Errorf("%s: %#v", name, got)
			}
			refused := x.state == api.StGreet
			if refused && !node.Same(got, greets(x.n)) || !refused && (got.Peer != x.h || got.PeerPri != x.h.Pri) {
				t.Errorf("%s: %#v", name, got)
			}
			if !slices.Equal(outs, said(got, x.state)) {
				t.Errorf("%s: %#v", name, outs)
			}
		}
	}
}

// said is what a node puts out on its way to a state by a hello: it closes, it wants a block, or it has ended already, or nothing.
func said(n api.Node, state int) []api.Out {
	out := api.Out{Kind: api.OutPacket, Node: n.Id}
	switch {
	case state == api.StGreet:
		out.Kind = api.OutClose
	case state != api.StTarget:
		return nil
	case n.Wanted == 0:
		out.Data = packetBytes(8, n.Session)
	default:
		out.Data = packetBytes(5, n.Session, byte(n.Wanted-1))
	}
	return []api.Out{out}
}

// P19.1: a hello is of the superblock, the role and the mask; beside it Begin changes State, Session and Minted, and nothing else, the disk neither.
func TestBegin(t *testing.T) {
	for _, kind := range kinds() {
		for m := range uint32(8) {
			n := kindOf(3, kind, m, gens(9, 7, 5, 3))
			for bits := range 1 << 5 {
				n.Id = bits & 1
				n.Minted = bits&2 != 0
				n.Asking = bits&4 != 0
				n.Req.On = bits&8 != 0
				n.PeerPri, n.Wanted = bits&16 != 0, bits>>3
				n.Store.Disk.Fuse = bits & 3
				does(t, begins(uint64(bits)), n)
			}
		}
	}
}

// P19.1: Begin's hello comes back of its packet, of a session of any number, with just the generations and the blocks that there are.
func TestBeginTells(t *testing.T) {
	wide := []uint64{1, 255, 256, math.MaxUint32, 1 << 32, 1<<63 - 1, 1 << 63, math.MaxUint64}
	for i, session := range append(wide, 0) {
		for blocks := 1; blocks <= api.MaxBlocks; blocks++ {
			v := gens(wide[i%len(wide)], wide[(i+blocks)%len(wide)], wide[blocks%len(wide)], uint64(blocks&1))
			for _, m := range []uint32{0, 1, 1 << (blocks - 1), 1<<blocks - 1} {
				got, outs := does(t, begins(session), kindOf(blocks, kinds()[(i+blocks)%12], m, v))
				if got.Session != session || len(outs) != 1 {
					t.Fatal(session, blocks, got, outs)
				}
			}
		}
	}
}

// drawn is a vector of few generations, 0 among them, but not as Current.
func drawn(r *rand.Rand) api.Vector {
	g := func() uint64 { return uint64(r.Intn(5)) }
	return gens(max(g(), 1), g(), g(), g())
}

// P19.1: of nodes of each kind, of either number, each hello's flags, masks that are empty and that aren't, and generations that are drawn.
func TestEachPair(t *testing.T) {
	r := rand.New(rand.NewSource(1))
	for _, kind := range kinds() {
		for bits := range 1 << 3 {
			for range 120 {
				n := greets(kindOf(2, kind, uint32(bits&1)*2, drawn(r)))
				n.Id = bits >> 1 & 1
				for _, h := range told(2, uint32(bits>>2)*uint32(1+r.Intn(3)), drawn(r)) {
					does(t, meets(h), n)
				}
			}
		}
	}
}

// lines are pairs of vectors for each way that generations may go: none else is copied along.
func lines() [][2]api.Vector {
	return [][2]api.Vector{
		{gens(7), gens(7)},
		{gens(7, 6, 5, 4), gens(7, 9)},
		{gens(8, 7), gens(7)},
		{gens(8, 7), gens(7, 8)},
		{gens(9, 6, 7), gens(7)},
		{gens(9, 6, 8, 7), gens(7)},
		{gens(8, 7), gens(9, 7)},
		{gens(8, 7), gens(5, 8)},
		{gens(8), gens(9)},
	}
}

// eachLine goes through nodes of three blocks and hellos of each line, either way, of each kind, each flags, and several masks.
func eachLine(f func(n api.Node, h api.Hello)) {
	for _, l := range lines() {
		for turn := range 2 {
			for _, kind := range kinds() {
				for _, m := range [][2]uint32{{0, 0}, {2, 0}, {0, 4}, {3, 5}} {
					n := greets(kindOf(3, kind, m[0], l[turn]))
					for _, h := range told(3, m[1], l[1-turn]) {
						f(n, h)
					}
				}
			}
		}
	}
}

// P19.1: whatever else a node has, each verdict makes of it what is said, and leaves the rest.
func TestEachNode(t *testing.T) {
	i := 0
	eachLine(func(n api.Node, h api.Hello) {
		i++
		n.Id = i & 1
		n.PeerPri, n.Asking, n.Req.On, n.Minted = i&2 != 0, i&4 != 0, i&8 != 0, i&16 != 0
		n.Wanted = i % 5
		n.Session = uint64(i) << (i % 60)
		does(t, meets(h), n)
		n.Wanted = 0
		does(t, meets(h), n)
	})
}

// caches are some with which a store stays whole: nothing, a mask that isn't sure, and each part once more.
func caches(s api.Store) [][]api.Write {
	mark := api.Write{Sector: 1, Data: maskBytes(s.Mask)}
	super := api.Write{Data: superBytes(s.Super)}
	return [][]api.Write{nil, {mark}, {{Sector: 3, Data: "xxxxxxxx"}, {Data: "xxxx"}, mark, super, {Sector: 3, Data: "yyyyyyyy"}}}
}

// P19.1: wherever the fuse ends, whatever is in the cache: what was put out ahead of that stays, and nothing comes behind it.
func TestEachEnd(t *testing.T) {
	i := 0
	eachLine(func(n api.Node, h api.Hello) {
		i++
		n.Id = i & 1
		n.Store.Disk.Cache = caches(n.Store)[i%3]
		for n.Store.Disk.Fuse = range 8 {
			does(t, meets(h), n)
		}
	})
}

// P19.1: a target that ends at once, since nothing is marked: its fuse ends in each of its operations, and its own vector is its peer's behind it.
func TestEndsAtOnce(t *testing.T) {
	for _, v := range []api.Vector{gens(8), gens(8, 7), gens(8, 7, 6, 5), gens(8, 0, 7, 6), gens(math.MaxUint64, 8, 1<<63, 1)} {
		for _, kind := range []int{1, 3, 5, 7} {
			for id := range 2 {
				n := greets(kindOf(3, kind, 0, gens(3, 8, 2, 1)))
				n.Id = id
				for n.Store.Disk.Fuse = range 7 {
					h := api.Hello{Blocks: 3, Vector: v, Pri: id == 0, Was: id == 1}
					got, outs := does(t, meets(h), n)
					if got.Up != (len(outs) == 1) || got.Up && got.Store.Super != superOf(3, 0, retired(v)) {
						t.Fatal(v, got, outs)
					}
				}
			}
		}
	}
}

// P19.1: of each number of blocks all are joined, or those of either mask; of any other number it is refused.
func TestBlocks(t *testing.T) {
	for blocks := 1; blocks <= api.MaxBlocks; blocks++ {
		full := uint32(1<<blocks - 1)
		for i := range blocks {
			for _, m := range [][2]uint32{{0, 1 << i}, {1 << i, 0}, {full >> i, 1 << i}, {full &^ (1 << i), full >> i << i}, {full, 0}} {
				for _, l := range lines()[:6] {
					for turn := range 2 {
						n := greets(kindOf(blocks, 0, m[0], l[turn]))
						n.Id = i & 1
						does(t, meets(api.Hello{Blocks: blocks, Vector: l[1-turn], Mask: m[1]}), n)
					}
				}
			}
		}
		n := greets(kindOf(blocks, 0, 0, gens(7)))
		for other := 1; other <= api.MaxBlocks; other++ {
			for _, h := range told(other, 0, gens(7)) {
				got, outs := does(t, meets(h), n)
				if other != blocks && (!like(got, n) || !slices.Equal(outs, []api.Out{{Kind: api.OutClose, Node: n.Id}})) {
					t.Fatal(blocks, other, got, outs)
				}
			}
		}
	}
}

// P19.1: as long as a block is wanted, whatever number stands there, a target seeks none.
func TestWanted(t *testing.T) {
	n := greets(kindOf(3, 0, 6, gens(7)))
	h := api.Hello{Blocks: 3, Vector: gens(8, 7), Pri: true, Mask: 1}
	for _, n.Wanted = range []int{math.MinInt, -1, 1, 2, 3, 4, 32, 33, math.MaxInt32, 1 << 32, math.MaxInt} {
		got, outs := does(t, meets(h), n)
		if got.State != api.StTarget || got.Wanted != n.Wanted || len(outs) != 0 {
			t.Fatal(got, outs)
		}
	}
}

// P19.1: what a target sends is of its session.
func TestSessions(t *testing.T) {
	for _, session := range []uint64{0, 1, 255, 256, math.MaxUint32, 1 << 32, 1<<63 - 1, 1 << 63, math.MaxUint64} {
		for _, kind := range []int{0, 1} {
			for _, m := range []uint32{0, 4} {
				n := greets(kindOf(3, kind, m, gens(7)))
				n.Session = session
				got, outs := does(t, meets(api.Hello{Blocks: 3, Vector: gens(8, 7), Pri: true}), n)
				if got.Session != session || len(outs) != 1 {
					t.Fatal(session, got, outs)
				}
			}
		}
	}
}

// P19.1: two answers of one node don't disturb each other, though they share memory.
func TestTwoAnswers(t *testing.T) {
	behind := api.Hello{Blocks: 3, Vector: gens(9, 8), Pri: true, Mask: 5}
	ahead := api.Hello{Blocks: 3, Vector: gens(7), Mask: 2}
	for _, kind := range []int{0, 4} {
		n := copyOf(kindOf(3, kind, 1, gens(8, 7)))
		g, hi := greet.Begin(n, 4)
		greeting, first := copyOf(g), slices.Clone(hi)
		a, outs := greet.Met(g, behind)
		want, out := copyOf(a), slices.Clone(outs)
		for _, h := range []api.Hello{behind, ahead, {Blocks: 2, Vector: gens(7)}} {
			greet.Begin(n, 5)
			b, _ := greet.Met(g, h)
			greet.Met(b, ahead)
			greet.Met(a, behind)
			greet.Begin(a, 6)
		}
		if !like(g, greeting) || !slices.Equal(hi, first) || !like(a, want) || !slices.Equal(outs, out) {
			t.Errorf("%#v, %#v, not %#v, %#v", a, outs, want, out)
		}
	}
}

// P19.1: whatever a node that is down has beside its disk, and whatever a hello says that may not be, the calls end.
func TestOthersEnd(t *testing.T) {
	var n api.Node
	for _, blocks := range []int{math.MinInt, -1, 0, 1, 2, 33, math.MaxInt} {
		for _, v := range []api.Vector{{}, gens(0, 7), gens(7)} {
			for _, h := range told(blocks, math.MaxUint32, v) {
				for _, n = range []api.Node{{}, {Id: -1, Up: true}, {Id: 2, Primary: true}, node.Down(kindOf(2, 0, 3, v)), greets(kindOf(2, 0, 0, gens(7)))} {
					for _, n.Store.Super.Blocks = range []int{n.Store.Super.Blocks, blocks} {
						greet.Begin(n, 3)
						greet.Met(n, h)
					}
				}
			}
		}
	}
}
