package cluster_test

import (
	"math/rand"
	"slices"
	"testing"

	"gemination/api"
	"gemination/area"
	"gemination/cluster"
)

// agrees: a cluster that is quiet does, told by the words alone, too; true, if it is quiet.
func agrees(t *testing.T, c api.Cluster, how ...any) bool {
	t.Helper()
	if !cluster.Quiet(c) {
		return false
	}
	a, b := c.Nodes[0], c.Nodes[1]
	if !cluster.Agree(c) || !agree(c) || a.Store.Super.Inc || b.Store.Super.Inc || a.Primary && b.Primary {
		t.Fatalf("%#v: %#v", how, c)
	}
	return true
}

// met is a cluster whose nodes are up, want to be connected, and to which all that is under way was delivered.
func met(c api.Cluster) api.Cluster {
	for i, n := range c.Nodes {
		if !n.Up {
			c = play(c, ev(api.EvRestart, i))
		}
	}
	return settled(play(c, connect()...))
}

// small are events that may happen anywhere, of a node.
func small(i, id int) []api.Event {
	return []api.Event{
		ask(api.EvPromote, i, id), ask(api.EvDemote, i, id), ask(api.EvDiscard, i, id), writes(i, id, 0), writes(i, id, 1),
		ev(api.EvConnect, i), ev(api.EvDisconnect, i), ev(api.EvDeliver, i), ev(api.EvCrash, i),
		ask(api.EvRestart, i, id), {Kind: api.EvRestart, Node: i, Keeps: []bool{true, true, true}},
		with(api.EvFuse, i, 1), with(api.EvFuse, i, 2), with(api.EvFuse, i, 4), {Kind: api.EvForge, Node: i, Data: "junk"},
	}
}

// P21.2: from clusters of each kind on two events of each kind happen; whatever comes of it, who is quiet behind that agrees, and so does who is quiet once both have met.
func TestTwoEvents(t *testing.T) {
	quiet, refused := 0, 0
	for _, c := range clusters(t) {
		for i := range 4 {
			for _, e := range small(i&1, 900) {
				d := play(c, e)
				agrees(t, d, e)
				for _, f := range small(i>>1, 901) {
					x := settled(play(d, f))
					agrees(t, x, e, f)
					if x = met(x); agrees(t, x, e, f) {
						quiet++
					} else {
						refused++
					}
				}
			}
		}
	}
	if quiet < 10000 || refused < 1000 {
		t.Error(quiet, refused)
	}
}

// P21.2: wherever a disk dies in the midst of a row, whatever of its cache is kept, and in whatever order both come up again, who is quiet then agrees.
func TestEachDeath(t *testing.T) {
	quiet, died := 0, 0
	for _, row := range rows() {
		for at := range row {
			for bits := range 1 << 5 {
				i, fuse := bits&1, uint64(1+bits>>1)
				c := play(fresh(t, 3), row[:at]...)
				c = play(c, with(api.EvFuse, i, fuse))
				for k, e := range row[at:] {
					c = play(c, e)
					agrees(t, c, row, at, bits, k)
					if !c.Nodes[i].Up {
						died++
						break
					}
				}
				for keeps := range 4 {
					x := play(c, api.Event{Kind: api.EvRestart, Node: i, Keeps: []bool{keeps&1 != 0, keeps&2 != 0, true}})
					if x = met(x); agrees(t, x, row, at, bits, keeps) {
						quiet++
					}
					x = met(play(x, ask(api.EvPromote, 1-i, 70), writes(1-i, 71, 0), ask(api.EvPromote, i, 72), writes(i, 73, 1)))
					agrees(t, x, row, at, bits, keeps)
				}
			}
		}
	}
	if quiet < 1000 || died < 1000 {
		t.Error(quiet, died)
	}
}

// life is a cluster that drawn events happen to; draws are unlike.
type life struct {
	api.Cluster
	r      *rand.Rand
	blocks int
	last   uint64
}

// lifeOf so many blocks begins.
func lifeOf(t *testing.T, r *rand.Rand, blocks int) *life {
	t.Helper()
	return &life{Cluster: fresh(t, blocks), r: r, blocks: blocks, last: 7}
}

// event is one that is drawn, more often than not one that does something.
func (l *life) event() api.Event {
	i := l.r.Intn(2)
	e := api.Event{Node: i, Id: l.r.Intn(1000)}
	n := l.Nodes[i]
	switch k := l.r.Intn(40); {
	case k < 17:
		e.Kind = api.EvDeliver
	case k < 24:
		e = writes(i, e.Id, l.r.Intn(l.blocks))
	case k < 27:
		e.Kind = api.EvPromote
	case k < 29:
		e.Kind = api.EvDemote
	case k == 29 && l.r.Intn(4) == 0:
		e.Kind = api.EvDiscard
	case k < 33 && !n.Up:
		e.Kind = api.EvRestart
		for range l.r.Intn(6) {
			e.Keeps = append(e.Keeps, l.r.Intn(2) == 0)
		}
	case k < 35:
		e.Kind = api.EvConnect
	case k < 37:
		l.last++
		e.Kind, e.N = api.EvDraw, l.last*0x0101010101010101
	case k == 37:
		e.Kind, e.N = api.EvFuse, uint64(l.r.Intn(14))
	case k == 38:
		e.Kind = []int{api.EvDisconnect, api.EvDrop, api.EvCrash, api.EvRead}[l.r.Intn(4)]
	default:
		e.Kind, e.Data = api.EvForge, []string{"", "junk", plainBytes(10, l.Link.Session, ""), plainBytes(10, l.Link.Session-1, "")}[l.r.Intn(4)]
	}
	return e
}

// P21.1, P21.2: long rows of all that happens to two nodes: each event as the words say; who is quiet agrees.
func TestDrawnLives(t *testing.T) {
	r := rand.New(rand.NewSource(1))
	kinds := map[int]int{}
	quiet := 0
	for range 200 {
		l := lifeOf(t, r, 1+r.Intn(4))
		for range 300 {
			e := l.event()
			was := l.Cluster
			l.Cluster, _ = does(t, was, e)
			tells(t, l.Cluster)
			if !like(was, l.Cluster) {
				kinds[e.Kind]++
			}
			if agrees(t, l.Cluster) {
				quiet++
			}
		}
	}
	for kind := 1; kind <= 14; kind++ {
		if kinds[kind] < 20 && kind != api.EvRead {
			t.Error(kind, kinds)
		}
	}
	if quiet < 1000 {
		t.Error(quiet)
	}
}

// P21.2: many lives, of each number of blocks, in which both meet again and again: who is quiet agrees, be it that there was something to be copied ahead of that or not.
func TestManyLives(t *testing.T) {
	r := rand.New(rand.NewSource(2))
	quiet, copied, heads := 0, 0, map[uint64]bool{}
	for k := range 3000 {
		l := lifeOf(t, r, 1+k%8)
		if k%100 == 0 {
			l.blocks = api.MaxBlocks
			l.Cluster = fresh(t, l.blocks)
		}
		for range 12 {
			for range r.Intn(40) {
				l.Cluster = play(l.Cluster, l.event())
				agrees(t, l.Cluster)
			}
			was := l.Cluster
			l.Cluster = met(was)
			if agrees(t, l.Cluster) {
				quiet++
				heads[l.Nodes[0].Store.Super.Vector.Current] = true
				x, _ := area.All(was.Nodes[0].Store.Disk)
				y, _ := area.All(was.Nodes[1].Store.Disk)
				if !slices.Equal(x, y) {
					copied++
				}
			}
		}
	}
	if quiet < 5000 || copied < 2000 || len(heads) < 5 {
		t.Error(quiet, copied, len(heads))
	}
}
