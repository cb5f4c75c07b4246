package write_test

import (
	"math/rand"
	"slices"
	"testing"

	"gemination/api"
	"gemination/area"
	"gemination/disk"
	"gemination/node"
	"gemination/write"
)

// revived is a node that crashed, and came up with what was kept.
func revived(t *testing.T, n api.Node, keeps []bool) api.Node {
	t.Helper()
	up, e := node.Attach(node.Down(n), keeps...)
	if e != api.OK {
		t.Fatalf("%#v, kept %v: %d", n, keeps, e)
	}
	return up
}

// blocksOf are the data of a node that is up.
func blocksOf(t *testing.T, n api.Node) []string {
	t.Helper()
	l, e := area.All(n.Store.Disk)
	if e != api.OK {
		t.Fatalf("%#v: %d", n, e)
	}
	return l
}

// keepsOf is all lists of just so many keeps.
func keepsOf(n int) [][]bool {
	var l [][]bool
	for bits := range 1 << n {
		keeps := make([]bool, n)
		for i := range keeps {
			keeps[i] = bits>>i&1 == 1
		}
		l = append(l, keeps)
	}
	return l
}

// fresh is a primary of so many blocks, with these draws.
func fresh(t *testing.T, id, blocks int, draws ...uint64) api.Node {
	t.Helper()
	d, e := area.Format(blocks, 7)
	if e != api.OK {
		t.Fatal(e)
	}
	n, e := node.Attach(api.Node{Id: id, Store: api.Store{Disk: d}, Draws: draws})
	if e != api.OK {
		t.Fatal(e)
	}
	n, _ = node.Promote(n, 1)
	return n
}

// one is the only output.
func one(t *testing.T, outs []api.Out) api.Out {
	t.Helper()
	if len(outs) != 1 {
		t.Fatal(outs)
	}
	return outs[0]
}

// P17.1: the chapter's example, and what comes behind it.
func TestExample(t *testing.T) {
	n := fresh(t, 0, 2, 9)
	n, outs := does(t, writes(2, 1, "abcdefgh"), n)
	if v := n.Store.Super.Vector; v.Current != 9 || v.Bitmap != 7 || one(t, outs) != (api.Out{Kind: api.OutReply, Id: 2}) {
		t.Fatal(v, outs)
	}
	n, outs = does(t, writes(3, 0, "ABCDEFGH"), n)
	if n.Store.Super.Vector.Current != 9 || one(t, outs).Err != api.OK || !slices.Equal(blocksOf(t, n), []string{"ABCDEFGH", "abcdefgh"}) {
		t.Fatal(n, outs)
	}
	n = revived(t, n, nil)
	n, _ = node.Promote(n, 4)
	_, outs = does(t, writes(5, 0, "01234567"), n)
	if one(t, outs).Err != api.ErrDraw {
		t.Fatal(outs)
	}
}

// linked is a node in a session.
func linked(n api.Node, primary bool) api.Node {
	n.State, n.Session, n.Primary, n.PeerPri = api.StLinked, 4, primary, !primary
	return n
}

// P17.1: a mirrored write: PkData, PkAck, OK, PkClean; both have the data then, and no mark.
func TestMirrored(t *testing.T) {
	a, b := linked(fresh(t, 0, 2), true), linked(fresh(t, 1, 2), false)
	a, outs := does(t, writes(5, 1, "abcdefgh"), a)
	if one(t, outs).Data != packetBytes(2, 4, 1, "abcdefgh") || a.Store.Mask != 2 {
		t.Fatal(a, outs)
	}
	b, outs = does(t, applies(1, "abcdefgh"), b)
	if one(t, outs) != (api.Out{Kind: api.OutPacket, Node: 1, Data: packetBytes(3, 4, 1, "")}) || b.Store.Mask != 2 {
		t.Fatal(b, outs)
	}
	a, outs = does(t, acked(1), a)
	clean := api.Out{Kind: api.OutPacket, Data: packetBytes(4, 4, 1, "")}
	if !slices.Equal(outs, []api.Out{{Kind: api.OutReply, Id: 5}, clean}) || a.Store.Mask != 0 {
		t.Fatal(a, outs)
	}
	b, outs = does(t, cleaned(1), b)
	if len(outs) != 0 || b.Store.Mask != 0 || !slices.Equal(blocksOf(t, a), blocksOf(t, b)) || a.Store.Super.Vector != b.Store.Super.Vector {
		t.Fatal(a, b, outs)
	}
	_, outs = does(t, acked(1), a)
	if len(outs) != 0 {
		t.Fatal(outs)
	}
}

// P17.1: a session that ends while a write waits: it is answered alone, in a new generation.
func TestLostWhileItWaits(t *testing.T) {
	a := linked(fresh(t, 0, 2, 9, 11), true)
	a.Minted = true
	a, _ = does(t, writes(5, 1, "abcdefgh"), a)
	a, outs := does(t, loses(), a)
	if one(t, outs) != (api.Out{Kind: api.OutReply, Id: 5}) || a.Store.Super.Vector.Current != 9 || a.Store.Mask != 2 || !a.Primary {
		t.Fatal(a, outs)
	}
	a, outs = does(t, writes(6, 0, "ABCDEFGH"), a)
	if one(t, outs).Err != api.OK || a.Store.Super.Vector.Current != 9 || len(a.Draws) != 1 {
		t.Fatal(a, outs)
	}
}

// marked: each block that is another one than it was is marked, and holds just what was laid.
func marked(t *testing.T, n api.Node, was []string, data string) {
	t.Helper()
	for i, got := range blocksOf(t, n) {
		if got != was[i] && (n.Store.Mask>>i&1 == 0 || got != data) {
			t.Fatalf("%#v: block %d: %q, unmarked, or not %q", n, i, got, data)
		}
	}
}

// P17.2: wherever the disk dies while data are laid, whatever of its cache is kept; and what was answered is sure.
func TestMarkedAhead(t *testing.T) {
	for m := range uint32(4) {
		for state := range 5 {
			for _, minted := range []bool{false, true} {
				for fuse := range 9 {
					for _, x := range []deed{writes(5, 0, "abcdefgh"), applies(0, "abcdefgh")} {
						n := primaryOf(2, 3)
						was := blocksOf(t, n)
						// Marks that were wiped, but aren't sure to be.
						for i := range 2 {
							if m>>i&1 == 0 {
								n, _ = write.Cleaned(n, i)
							}
						}
						n.State, n.Minted = state, minted
						n.Store.Disk = disk.Arm(n.Store.Disk, fuse)
						n, outs := does(t, x, n)
						sure := len(outs) > 0 && outs[0].Err == api.OK
						for _, keeps := range keepsOf(len(n.Store.Disk.Cache)) {
							back := revived(t, n, keeps)
							marked(t, back, was, "abcdefgh")
							if sure && blocksOf(t, back)[0] != "abcdefgh" {
								t.Fatal(m, state, minted, fuse, keeps, outs)
							}
						}
					}
				}
			}
		}
	}
}

// P17.2: each answer of a write that waited, acknowledged or lost, stands behind data that are sure; and unless the other node has them they are marked.
func TestWaitedIsSure(t *testing.T) {
	for fuse := range 5 {
		for _, x := range []deed{acked(1), loses(), cleaned(0)} {
			n := linked(fresh(t, 1, 2, 9), true)
			n, _ = does(t, writes(5, 1, "abcdefgh"), n)
			n.Store.Disk = disk.Arm(n.Store.Disk, fuse)
			n, outs := does(t, x, n)
			clean := slices.ContainsFunc(outs, func(o api.Out) bool { return o.Kind == api.OutPacket })
			for _, keeps := range keepsOf(len(n.Store.Disk.Cache)) {
				back := revived(t, n, keeps)
				if blocksOf(t, back)[1] != "abcdefgh" || !clean && back.Store.Mask != 2 {
					t.Fatal(fuse, keeps, outs, back)
				}
			}
		}
	}
}

// life is a node, and what is known of its blocks: what both nodes had when a block's mark was wiped, what was answered last, and what was begun behind that.
type life struct {
	n           api.Node
	both, acked []string
	begun       [][]string
}

// begin: a node's life.
func begin(t *testing.T, n api.Node) *life {
	l := &life{n: n, both: blocksOf(t, n)}
	l.settle(t)
	return l
}

// settle: what stands there is known.
func (l *life) settle(t *testing.T) {
	l.acked = blocksOf(t, l.n)
	l.begun = make([][]string, len(l.acked))
}

// answered: these data are sure from here on.
func (l *life) answered(block int, data string) {
	l.acked[block], l.begun[block] = data, nil
}

// survives: whatever of the cache is kept, each block is what was answered or begun, and marked, unless both have it.
func (l *life) survives(t *testing.T, keeps []bool) api.Node {
	t.Helper()
	back := revived(t, l.n, keeps)
	for i, data := range blocksOf(t, back) {
		if data != l.acked[i] && !slices.Contains(l.begun[i], data) {
			t.Fatalf("kept %v: block %d: %q, not %q, or of %q", keeps, i, data, l.acked[i], l.begun[i])
		}
		if data != l.both[i] && back.Store.Mask>>i&1 == 0 {
			t.Fatalf("kept %v: block %d: %q isn't marked", keeps, i, data)
		}
	}
	return back
}

// writes: alone or mirrored, or what the other one writes.
func (l *life) writes(t *testing.T, r *rand.Rand) {
	block, data := r.Intn(len(l.both)), blockOf(r.Int())
	x := applies(block, data)
	if l.n.Primary {
		x = writes(7, block, data)
	}
	n, outs := does(t, x, l.n)
	l.n = n
	switch {
	case len(outs) == 1 && outs[0].Err != api.OK:
		// Refused: of that nothing is seen later.
	case len(outs) == 1 && !n.Req.On:
		l.answered(block, data)
	default:
		l.begun[block] = append(l.begun[block], data)
	}
}

// ends: the write that waits, by an acknowledgement, or since the session is lost.
func (l *life) ends(t *testing.T, lost bool) {
	r := l.n.Req
	x := acked(r.Block)
	if lost {
		x = loses()
	}
	n, outs := does(t, x, l.n)
	l.n = n
	if !r.On {
		return
	}
	if len(outs) > 0 && outs[0].Err == api.OK {
		l.answered(r.Block, r.Data)
	}
	if !lost && n.Up {
		l.both[r.Block] = r.Data
	}
}

// cleans: a block that the other node has.
func (l *life) cleans(t *testing.T, block int) {
	if l.n.Req.On && l.n.Req.Block == block {
		return
	}
	n, _ := does(t, cleaned(block), l.n)
	l.n = n
	if n.Up {
		l.both[block] = blocksOf(t, n)[block]
	}
}

// meets: a session begins, or the role changes, as layers above would have it.
func (l *life) meets(r *rand.Rand) {
	if l.n.State == api.StAlone {
		l.n.State, l.n.Session, l.n.Minted = []int{api.StLinked, api.StSource}[r.Intn(2)], r.Uint64(), false
	}
	if !l.n.Req.On {
		l.n.Primary = r.Intn(4) > 0
	}
	l.n.Draws = append(slices.Clone(l.n.Draws), r.Uint64()*uint64(r.Intn(4)))
}

// P17.2: long rows of calls, with fuses that end wherever, crashes, and revivals with all that may be kept.
func TestDrawnLives(t *testing.T) {
	r := rand.New(rand.NewSource(1))
	for range 150 {
		l := begin(t, fresh(t, r.Intn(2), 1+r.Intn(api.MaxBlocks), 9, 11))
		for range 80 {
			switch r.Intn(8) {
			case 0, 1, 2:
				l.writes(t, r)
			case 3, 4:
				l.ends(t, r.Intn(4) == 0)
			case 5:
				l.cleans(t, r.Intn(len(l.both)))
			case 6:
				l.meets(r)
			case 7:
				l.n.Store.Disk = disk.Arm(l.n.Store.Disk, r.Intn(8))
			}
			keeps := make([]bool, r.Intn(len(l.n.Store.Disk.Cache)+2))
			for i := range keeps {
				keeps[i] = r.Intn(2) == 0
			}
			if back := l.survives(t, keeps); !l.n.Up || r.Intn(12) == 0 {
				l.n = back
				l.n.Primary = true
				l.settle(t)
			}
		}
	}
}
