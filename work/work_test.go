package work_test

import (
	"slices"
	"strings"
	"testing"

	"gemination/api"
	"gemination/area"
	"gemination/disk"
	"gemination/packet"
	"gemination/store"
	"gemination/work"
)

// upOf is a node of two blocks, both marked, that put out something already.
func upOf(t *testing.T) work.Work {
	t.Helper()
	d, e := area.Format(2, 7)
	if e != api.OK {
		t.Fatal(e)
	}
	s, e := store.Attach(d)
	if e == api.OK {
		s, e = store.Join(s, 3)
	}
	if e != api.OK {
		t.Fatal(e)
	}
	w := work.Of(api.Node{Id: 1, Up: true, Store: s, Primary: true, State: api.StLinked, Session: 4, Draws: []uint64{8}, Mints: []api.Mint{{Gen: 7}}})
	w.Reply(5, api.ErrBusy, "x")
	return w
}

// P16.1: a new work has put out nothing.
func TestOf(t *testing.T) {
	if w := work.Of(api.Node{Id: 1, Session: 4}); w.Id != 1 || w.Session != 4 || len(w.Outs) != 0 {
		t.Error(w)
	}
}

// P16.1: what a node keeps is the store's answer; beside an error the node is down, and what it put out stays.
func TestKeeps(t *testing.T) {
	b := api.Super{Blocks: 2, Vector: api.Vector{Current: 8, Bitmap: 7}, Pri: true}
	data := strings.Repeat("x", api.BlockBytes)
	for name, x := range map[string]struct {
		does  func(*work.Work) bool
		store func(api.Store) (api.Store, api.Errno)
		most  int
	}{
		"commit": {func(w *work.Work) bool { return w.Commit(b) }, func(s api.Store) (api.Store, api.Errno) { return store.Commit(s, b) }, 2},
		"mark":   {func(w *work.Work) bool { return w.Wipe(1) && w.Mark(1) }, markedAgain, 3},
		"wipe":   {func(w *work.Work) bool { return w.Wipe(1) }, func(s api.Store) (api.Store, api.Errno) { return store.Wipe(s, 1) }, 1},
		"join":   {func(w *work.Work) bool { return w.Wipe(0) && w.Join(3) }, joinedAgain, 3},
		"joined": {func(w *work.Work) bool { return w.Join(2) }, func(s api.Store) (api.Store, api.Errno) { return store.Join(s, 2) }, 0},
		"put":    {func(w *work.Work) bool { return w.Put(1, data) }, func(s api.Store) (api.Store, api.Errno) { return store.Put(s, 1, data) }, 2},
	} {
		for fuse := range 5 {
			w := upOf(t)
			w.Store.Disk = disk.Arm(w.Store.Disk, fuse)
			was := w.Node
			s, e := x.store(w.Store)
			up := x.does(&w)
			if up != (e == api.OK) || up != (fuse == 0 || fuse > x.most) || len(w.Outs) != 1 || w.Outs[0].Id != 5 {
				t.Fatal(name, fuse, e, w)
			}
			if up {
				if !store.Same(w.Store, s) || !w.Up || w.State != was.State {
					t.Fatal(name, fuse, w)
				}
				continue
			}
			if !disk.Same(w.Store.Disk, s.Disk) || w.Store.Super != (api.Super{}) || w.Store.Mask != 0 || w.Up || w.Primary || w.State != 0 || w.Session != 0 {
				t.Fatal(name, fuse, w)
			}
			if w.Id != 1 || !slices.Equal(w.Draws, was.Draws) || !slices.Equal(w.Mints, was.Mints) {
				t.Fatal(name, fuse, w)
			}
		}
	}
}

// markedAgain is a store whose block 1 was wiped, and then marked.
func markedAgain(s api.Store) (api.Store, api.Errno) {
	s, e := store.Wipe(s, 1)
	if e != api.OK {
		return s, e
	}
	return store.Mark(s, 1)
}

// joinedAgain is a store whose block 0 was wiped, and that then joined both.
func joinedAgain(s api.Store) (api.Store, api.Errno) {
	s, e := store.Wipe(s, 0)
	if e != api.OK {
		return s, e
	}
	return store.Join(s, 3)
}

// P16.1: outputs come one behind the other, of the node's Id; packets are of its session, whatever they say.
func TestOuts(t *testing.T) {
	w := upOf(t)
	w.Send(api.Packet{Kind: api.PkAck, Block: 1})
	w.Reply(-6, api.OK, "")
	w.Close()
	w.Send(api.Packet{Kind: api.PkEnd, Session: 9})
	want := []api.Out{{Kind: api.OutReply, Node: 1, Id: 5, Err: api.ErrBusy, Data: "x"}, {Kind: api.OutPacket, Node: 1}, {Kind: api.OutReply, Node: 1, Id: -6}, {Kind: api.OutClose, Node: 1}, {Kind: api.OutPacket, Node: 1}}
	for i, p := range map[int]api.Packet{1: {Kind: api.PkAck, Session: 4, Block: 1}, 4: {Kind: api.PkEnd, Session: 4}} {
		b, e := packet.Encode(p)
		if e != api.OK {
			t.Fatal(e)
		}
		want[i].Data = b
	}
	if !slices.Equal(w.Outs, want) {
		t.Error(w.Outs)
	}
}

// P16.1: who goes down keeps its disk, crashed, its number, its draws and its mints.
func TestDown(t *testing.T) {
	n := upOf(t).Node
	got := work.Down(n)
	if !disk.Same(got.Store.Disk, disk.Crash(n.Store.Disk)) || got.Store.Super != (api.Super{}) || got.Store.Mask != 0 || got.Up || got.Primary || got.State != 0 || got.Session != 0 {
		t.Error(got)
	}
	if got.Id != 1 || !slices.Equal(got.Draws, n.Draws) || !slices.Equal(got.Mints, n.Mints) || !n.Up {
		t.Error(got)
	}
}
