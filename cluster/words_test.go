package cluster_test

import (
	"encoding/binary"
	"hash/fnv"
	"reflect"
	"slices"
	"strings"
	"testing"

	"gemination/api"
	"gemination/cluster"
	"gemination/greet"
	"gemination/node"
	"gemination/packet"
	"gemination/peer"
	"gemination/write"
)

// sealed is bytes with their sum behind them, without the packages of the program.
func sealed(b []byte) string {
	h := fnv.New32a()
	h.Write(b)
	return string(h.Sum(b))
}

// freshNode is one whose disk was formatted just now, up, and alone, without the packages of the program.
func freshNode(id, blocks int, g uint64) api.Node {
	b := binary.BigEndian.AppendUint64([]byte{71, 77, 1, byte(blocks), 0}, g)
	sure := []string{sealed(append(b, make([]byte, 24)...)), sealed(make([]byte, 4))}
	for range blocks {
		sure = append(sure, strings.Repeat("\x00", 8))
	}
	s := api.Store{Disk: api.Disk{Sure: sure}, Super: api.Super{Blocks: blocks, Vector: api.Vector{Current: g}}}
	return api.Node{Id: id, Up: true, Store: s}
}

// plainBytes are those of a packet with no fields but a block, and data.
func plainBytes(kind int, session uint64, fields string) string {
	return sealed(append(binary.BigEndian.AppendUint64([]byte{byte(kind)}, session), fields...))
}

// all is what is in a list, by just one kind of list for none.
func all[T any](l []T) []T {
	return append([]T{}, l...)
}

// flat is a cluster with lists that are nil nowhere.
func flat(c api.Cluster) api.Cluster {
	for i := range c.Nodes {
		n := &c.Nodes[i]
		n.Store.Disk.Sure, n.Store.Disk.Cache = all(n.Store.Disk.Sure), all(n.Store.Disk.Cache)
		n.Draws, n.Mints = all(n.Draws), all(n.Mints)
		c.Link.To[i] = all(c.Link.To[i])
	}
	return c
}

// like tells whether two clusters are the same, part by part.
func like(a, b api.Cluster) bool {
	return reflect.DeepEqual(flat(a), flat(b))
}

// roomy has what is in a list, and filled room behind it, so that who writes there is seen.
func roomy[T any](l []T, spare T) []T {
	return append(slices.Clone(l), spare, spare)[:len(l)]
}

// filled tells whether a list that roomy made is as it was, the room behind it, too.
func filled[T comparable](l, was []T, spare T) bool {
	return slices.Equal(l[:len(was)+2], roomy(was, spare)[:len(was)+2])
}

// copyOf shares no memory with a cluster.
func copyOf(c api.Cluster) api.Cluster {
	for i := range c.Nodes {
		n := &c.Nodes[i]
		d := &n.Store.Disk
		d.Sure = roomy(d.Sure, "spare")
		d.Cache = roomy(d.Cache, api.Write{Sector: 77, Data: "spare"})
		n.Draws = roomy(n.Draws, 771)
		n.Mints = roomy(n.Mints, api.Mint{Gen: 772})
		c.Link.To[i] = roomy(c.Link.To[i], "spare")
	}
	return c
}

// untouched tells whether a cluster that copyOf made is as it was, its spare room, too.
func untouched(given, c api.Cluster) bool {
	for i, n := range given.Nodes {
		d, was := n.Store.Disk, c.Nodes[i].Store.Disk
		if !filled(d.Sure, was.Sure, "spare") || !filled(d.Cache, was.Cache, api.Write{Sector: 77, Data: "spare"}) ||
			!filled(n.Draws, c.Nodes[i].Draws, 771) || !filled(n.Mints, c.Nodes[i].Mints, api.Mint{Gen: 772}) ||
			!filled(given.Link.To[i], c.Link.To[i], "spare") {
			return false
		}
	}
	return like(given, c)
}

// tale is a cluster that the words are followed with, one by one, and what was put out.
type tale struct {
	api.Cluster
	outs []api.Out
}

// comesOf: what comes of a node that did something, with its outputs.
func (s *tale) comesOf(i int, n api.Node, outs []api.Out) {
	s.Nodes[i] = n
	closes := 0
	for _, o := range outs {
		if o.Kind != 1 {
			s.outs = append(s.outs, o)
		}
		if o.Kind == 1 && s.Link.Up {
			s.Link.To[1-i] = append(all(s.Link.To[1-i]), o.Data)
		}
		if o.Kind == 3 {
			closes++
		}
	}
	if !n.Up {
		s.Want[i] = false
	}
	if s.Link.Up && closes > 0 {
		s.sessionEnds()
		s.Want[0], s.Want[1] = false, false
	} else if s.Link.Up && !n.Up {
		s.sessionEnds()
	}
}

// sessionEnds: the link is closed, and each node that is up loses its session.
func (s *tale) sessionEnds() {
	s.Link.Up, s.Link.To = false, [2][]string{}
	for i := range 2 {
		if !s.Nodes[i].Up {
			continue
		}
		n, outs := write.Lose(s.Nodes[i])
		s.Nodes[i] = n
		s.outs = append(s.outs, outs...)
		if !n.Up {
			s.Want[i] = false
		}
	}
}

// happens: an event, by its kind.
func (s *tale) happens(e api.Event) {
	if e.Node < 0 || e.Node > 1 {
		return
	}
	n := &s.Nodes[e.Node]
	var now api.Node
	var outs []api.Out
	switch e.Kind {
	case 1:
		now, outs = node.Promote(*n, e.Id)
	case 2:
		now, outs = node.Demote(*n, e.Id)
	case 3:
		now, outs = node.Discard(*n, e.Id)
	case 4:
		now, outs = node.Read(*n, e.Id, e.Block)
	case 5:
		now, outs = write.Write(*n, e.Id, e.Block, e.Data)
	case 6:
		s.connects(e.Node)
		return
	case 7:
		s.Want[e.Node] = false
		if s.Link.Up {
			s.sessionEnds()
		}
		return
	case 8:
		if s.Link.Up {
			s.sessionEnds()
		}
		return
	case 9:
		way := s.Link.To[e.Node]
		if len(way) == 0 {
			return
		}
		s.Link.To[e.Node] = way[1:]
		now, outs = peer.Receive(*n, way[0])
	case 10:
		if !n.Up {
			return
		}
		now = node.Down(*n)
	case 14:
		if _, err := packet.Read(e.Data, s.Link.Session); err == api.OK {
			return
		}
		now, outs = peer.Receive(*n, e.Data)
	default:
		s.isGiven(e)
		return
	}
	s.comesOf(e.Node, now, outs)
}

// connects: a node, which wants to be.
func (s *tale) connects(i int) {
	if !s.Nodes[i].Up {
		return
	}
	s.Want[i] = true
	if s.Want != [2]bool{true, true} || !s.Nodes[1-i].Up || s.Link.Up {
		return
	}
	s.Link = api.Link{Up: true, Session: s.Link.Session + 1}
	first, hello := greet.Begin(s.Nodes[0], s.Link.Session)
	second, other := greet.Begin(s.Nodes[1], s.Link.Session)
	s.comesOf(0, first, hello)
	s.comesOf(1, second, other)
}

// isGiven: a node its disk back, a fuse, or a draw.
func (s *tale) isGiven(e api.Event) {
	n := &s.Nodes[e.Node]
	switch e.Kind {
	case 11:
		now, err := node.Attach(*n, e.Keeps...)
		*n = now
		s.outs = append(s.outs, api.Out{Kind: 2, Node: e.Node, Id: e.Id, Err: err})
	case 12:
		if !n.Up {
			return
		}
		n.Store.Disk.Fuse = 1000
		if e.N < 1000 {
			n.Store.Disk.Fuse = int(e.N)
		}
	case 13:
		if len(n.Draws) < 1000 {
			n.Draws = append(all(n.Draws), e.N)
		}
	}
}

// quiet is the chapter's word of it.
func quiet(c api.Cluster) bool {
	a, b := c.Nodes[0], c.Nodes[1]
	up := a.Up && b.Up
	linked := a.State == 2 && b.State == 2
	waits := a.Req.On || b.Req.On || a.Asking || b.Asking
	return up && linked && !waits && len(c.Link.To[0]) == 0 && len(c.Link.To[1]) == 0
}

// blocksOf: what the blocks of a disk hold.
func blocksOf(d api.Disk) []string {
	l := slices.Clone(d.Sure)
	for _, w := range d.Cache {
		l[w.Sector] = w.Data
	}
	return l[2:]
}

// agree is the chapter's word of it.
func agree(c api.Cluster) bool {
	a, b := c.Nodes[0], c.Nodes[1]
	if !a.Up || !b.Up {
		return false
	}
	x, y := a.Store, b.Store
	return slices.Equal(blocksOf(x.Disk), blocksOf(y.Disk)) && x.Mask == 0 && y.Mask == 0 && reflect.DeepEqual(x.Super.Vector, y.Super.Vector)
}

// does: an event makes of a cluster what the words say, and leaves what was handed in as it was; so it does once more.
func does(t *testing.T, c api.Cluster, e api.Event) (api.Cluster, []api.Out) {
	t.Helper()
	s := tale{Cluster: c}
	s.happens(e)
	var got api.Cluster
	var outs []api.Out
	for range 2 {
		given, keeps := copyOf(c), e.Keeps
		e.Keeps = roomy(keeps, true)
		got, outs = cluster.Do(given, e)
		if !like(got, s.Cluster) || !slices.Equal(outs, s.outs) {
			t.Fatalf("%#v, %#v: %#v, %#v, not %#v, %#v", c, e, got, outs, s.Cluster, s.outs)
		}
		if !untouched(given, c) || !filled(e.Keeps, keeps, true) {
			t.Fatalf("%#v, %#v: changed to %#v", c, e, given)
		}
		e.Keeps = keeps
	}
	return got, outs
}

// tells: whether a cluster is quiet, and whether it agrees, is told as the words say; both leave what was handed in as it was.
func tells(t *testing.T, c api.Cluster) {
	t.Helper()
	given := copyOf(c)
	if got := cluster.Quiet(given); got != quiet(c) {
		t.Fatalf("%#v: quiet %v", c, got)
	}
	if got := cluster.Agree(given); got != agree(c) {
		t.Fatalf("%#v: agrees %v", c, got)
	}
	if !cluster.Same(given, c) || !cluster.Same(c, given) || !untouched(given, c) {
		t.Fatalf("%#v: changed to %#v", c, given)
	}
}
