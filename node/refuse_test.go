package node_test

import (
	"math/rand"
	"strings"
	"testing"

	"gemination/api"
	"gemination/area"
	"gemination/disk"
	"gemination/node"
	"gemination/store"
)

// P16.2: the chapter's example, and a life of a node behind it.
func TestExample(t *testing.T) {
	d, e := area.Format(2, 7)
	if e != api.OK {
		t.Fatal(e)
	}
	n, e := node.Attach(api.Node{Store: api.Store{Disk: d}})
	if e != api.OK || !n.Up {
		t.Fatal(n, e)
	}
	replies := func(c call, id int, e api.Errno, data string) {
		t.Helper()
		got, outs := c(n)
		if len(outs) != 1 || outs[0] != reply(n, id, e, data) {
			t.Fatal(outs, id, e)
		}
		n = got
	}
	replies(reading(1, 0), 1, api.ErrRole, "")
	replies(promoting(2), 2, api.OK, "")
	replies(reading(3, 0), 3, api.OK, strings.Repeat("\x00", 8))
	replies(demoting(4), 4, api.OK, "")
	replies(reading(5, 0), 5, api.ErrRole, "")
	replies(discarding(6), 6, api.OK, "")
	replies(promoting(7), 7, api.ErrDis, "")
	n = node.Down(n)
	replies(promoting(8), 8, api.ErrDown, "")
	if n, e = node.Attach(n); e != api.OK {
		t.Fatal(e)
	}
	replies(promoting(9), 9, api.ErrDis, "")
}

// refuses: whatever a call makes of a node, who is replied an error is as it was, who may be no primary becomes none, and who is none reads nothing.
func refuses(t *testing.T, c call, n api.Node) (api.Node, []api.Out) {
	t.Helper()
	got, outs := c(n)
	for _, o := range outs {
		if o.Kind == api.OutReply && o.Err != api.OK && (!like(got, n) || o.Data != "" || len(outs) != 1) {
			t.Fatalf("%#v: %#v, %#v", n, got, outs)
		}
		if o.Kind == api.OutReply && o.Data != "" && !(n.Up && n.Primary) {
			t.Fatalf("%#v: read %#v", n, outs)
		}
	}
	if b := n.Store.Super; n.Up && !n.Primary && (b.Inc || b.Dis) && (got.Primary || got.Asking && !n.Asking) {
		t.Fatalf("%#v: became primary, or asks to: %#v", n, got)
	}
	if !mayBe(got) {
		t.Fatalf("%#v: may not be: %#v", n, got)
	}
	return got, outs
}

// P16.2: of nodes of each kind each call, at each end of the fuse.
func TestRefused(t *testing.T) {
	eachKind(t, func(n api.Node) {
		for fuse := range 4 {
			n.Store.Disk.Fuse = fuse
			for _, c := range []call{promoting(1), demoting(2), discarding(3), reading(4, 0), reading(5, -1), reading(6, 2)} {
				refuses(t, c, n)
			}
		}
	})
}

// P16.2: half copied, or to be discarded, a node stays what keeps it from becoming primary, wherever its disk dies, whatever is kept.
func TestKeptBehindCrashes(t *testing.T) {
	for flags, want := range map[int]api.Errno{1: api.ErrInc, 4: api.ErrDis, 5: api.ErrInc} {
		for fuse := range 4 {
			for _, c := range []call{promoting(1), demoting(2), discarding(3), reading(4, 0)} {
				n := upOf(t, superOf(2, flags), 2)
				n.Store.Disk.Fuse = fuse
				n, _ = refuses(t, c, n)
				for _, keeps := range keepsOf(len(n.Store.Disk.Cache)) {
					x, e := node.Attach(node.Down(n), keeps...)
					if e != api.OK {
						t.Fatal(e)
					}
					got, outs := refuses(t, promoting(5), x)
					if got.Primary || len(outs) != 1 || outs[0].Err != want {
						t.Fatal(flags, fuse, keeps, got, outs)
					}
				}
			}
		}
	}
}

// P16.2: a discarding, or a role, is replied only once it is sure; one that died isn't replied, and is there or isn't.
func TestSureOrNotReplied(t *testing.T) {
	for _, x := range []struct {
		c       call
		primary bool
		old     int
		next    int
	}{{promoting(1), false, 0, 2}, {demoting(1), true, 2, 0}, {discarding(1), false, 0, 4}, {discarding(1), false, 1, 5}, {discarding(1), false, 2, 6}} {
		for fuse := range 5 {
			n := upOf(t, superOf(2, x.old), 2)
			n.Primary = x.primary
			n.Store.Disk.Fuse = fuse
			n, outs := refuses(t, x.c, n)
			done := fuse == 0 || fuse > 2
			if n.Up != done || (len(outs) == 1) != done || done && outs[0].Err != api.OK {
				t.Fatal(x.old, x.next, fuse, n, outs)
			}
			for _, keeps := range keepsOf(len(n.Store.Disk.Cache)) {
				back, e := node.Attach(node.Down(n), keeps...)
				if e != api.OK {
					t.Fatal(e)
				}
				want := superOf(2, x.old)
				if done || fuse == 2 && keeps != nil && keeps[0] {
					want = superOf(2, x.next)
				}
				if back.Store.Super != want || back.Primary {
					t.Fatal(x.old, x.next, fuse, keeps, back)
				}
			}
		}
	}
}

// drawnTurn is a node that layers above might make of one that is up: in another state, half copied, with a write that waits, of another session.
func drawnTurn(t *testing.T, r *rand.Rand, n api.Node) api.Node {
	t.Helper()
	switch r.Intn(5) {
	case 0:
		n.State, n.Session = r.Intn(5), r.Uint64()
		n.PeerPri, n.Asking = n.State != api.StAlone && r.Intn(3) == 0, false
	case 1:
		n.Req.On = n.Primary && r.Intn(3) == 0
	case 2:
		n.Store.Disk = disk.Arm(n.Store.Disk, r.Intn(5))
	case 3:
		b := n.Store.Super
		b.Inc, b.Dis = !n.Primary && r.Intn(3) == 0, r.Intn(3) == 0
		if n.Store.Disk.Fuse == 0 {
			s, e := store.Commit(n.Store, b)
			if e != api.OK {
				t.Fatal(e)
			}
			n.Store = s
		}
	}
	return n
}

// P16.2: long rows of calls, with crashes, fuses, and whatever layers above make of a node between: each answers as the chapter's words say, and what is refused is nothing.
func TestDrawnLives(t *testing.T) {
	r := rand.New(rand.NewSource(1))
	for range 200 {
		blocks := 1 + r.Intn(api.MaxBlocks)
		n := upOf(t, superOf(blocks, 0), uint32(r.Intn(2)))
		for range 60 {
			if !n.Up {
				keeps := make([]bool, r.Intn(4))
				for i := range keeps {
					keeps[i] = r.Intn(2) == 0
				}
				up, e := node.Attach(n, keeps...)
				if e != api.OK || up.Primary || up.State != api.StAlone {
					t.Fatal(n, keeps, up, e)
				}
				n = up
			}
			n = drawnTurn(t, r, n)
			id, block := r.Int(), r.Intn(blocks+2)-1
			data := ""
			if block >= 0 && block < blocks {
				data = blockOf(block + 1)
			}
			calls := []call{promoting(id), demoting(id), discarding(id), reading(id, block)}
			words := []asked{promoted(id), demoted(id), discarded(id), read(id, data)}
			k := r.Intn(len(calls))
			does(t, calls[k], words[k], n)
			n, _ = refuses(t, calls[k], n)
			if r.Intn(12) == 0 {
				n = node.Down(n)
			}
		}
	}
}
