package greet_test

import (
	"encoding/binary"
	"hash/fnv"
	"reflect"
	"slices"
	"testing"

	"gemination/api"
	"gemination/greet"
)

// sealed is bytes with their sum behind them, without the packages of the program.
func sealed(b []byte) string {
	h := fnv.New32a()
	h.Write(b)
	return string(h.Sum(b))
}

// flagsOf are yes and no as bits, the first one the lowest.
func flagsOf(l ...bool) byte {
	b := byte(0)
	for i, flag := range l {
		if flag {
			b |= 1 << i
		}
	}
	return b
}

// vectorBytes are those of a vector, behind others.
func vectorBytes(b []byte, v api.Vector) []byte {
	for _, g := range []uint64{v.Current, v.Bitmap, v.Old[0], v.Old[1]} {
		b = binary.BigEndian.AppendUint64(b, g)
	}
	return b
}

// superBytes are those of a superblock.
func superBytes(s api.Super) string {
	return sealed(vectorBytes([]byte{71, 77, 1, byte(s.Blocks), flagsOf(s.Inc, s.Pri, s.Dis)}, s.Vector))
}

// maskBytes are those of a mask.
func maskBytes(m uint32) string {
	return sealed(binary.BigEndian.AppendUint32(nil, m))
}

// helloBytes are those of a hello, unsealed.
func helloBytes(h api.Hello) []byte {
	return binary.BigEndian.AppendUint32(vectorBytes([]byte{byte(h.Blocks), flagsOf(h.Inc, h.Was, h.Dis, h.Pri)}, h.Vector), h.Mask)
}

// packetBytes are those of a packet with these fields, bytes as they stand there.
func packetBytes(kind byte, session uint64, fields ...byte) string {
	return sealed(append(binary.BigEndian.AppendUint64([]byte{kind}, session), fields...))
}

// blockOf is eight bytes that tell a number.
func blockOf(n int) string {
	return string(binary.BigEndian.AppendUint64(nil, uint64(n)*0x0102030405060709))
}

// upOf is a node with all its fields set, up with a store of that superblock and that mask, alone, and not primary; no write waits, and no block is wanted.
func upOf(b api.Super, m uint32) api.Node {
	sure := []string{superBytes(b), maskBytes(m)}
	for i := range b.Blocks {
		sure = append(sure, blockOf(i+1))
	}
	return api.Node{
		Id:      1,
		Up:      true,
		Store:   api.Store{Disk: api.Disk{Sure: sure}, Super: b, Mask: m},
		Session: 0x0102030405060708,
		Peer:    api.Hello{Blocks: 30, Vector: api.Vector{Current: 14, Bitmap: 13, Old: [2]uint64{12, 11}}, Inc: true, Was: true, Dis: true, Mask: 3},
		PeerPri: true,
		Req:     api.Request{Id: 31, Block: 1, Data: "12345678"},
		AskId:   32,
		Minted:  true,
		Draws:   []uint64{21, 22, 0},
		Mints:   []api.Mint{{Gen: 9, Parent: 7, Node: 1}, {Gen: 7, Parent: 5}},
	}
}

// all is what is in a list, by just one kind of list for none.
func all[T any](l []T) []T {
	return append([]T{}, l...)
}

// flat is a node with lists that are nil nowhere.
func flat(n api.Node) api.Node {
	n.Store.Disk.Sure, n.Store.Disk.Cache = all(n.Store.Disk.Sure), all(n.Store.Disk.Cache)
	n.Draws, n.Mints = all(n.Draws), all(n.Mints)
	return n
}

// like tells whether two nodes are the same, part by part.
func like(a, b api.Node) bool {
	return reflect.DeepEqual(flat(a), flat(b))
}

// roomy has what is in a list, and filled room behind it, so that who writes there is seen.
func roomy[T any](l []T, spare T) []T {
	return append(slices.Clone(l), spare, spare)[:len(l)]
}

// copyOf shares no memory with a node.
func copyOf(n api.Node) api.Node {
	d := &n.Store.Disk
	d.Sure = roomy(d.Sure, "spare")
	d.Cache = roomy(d.Cache, api.Write{Sector: 77, Data: "spare"})
	n.Draws = roomy(n.Draws, 771)
	n.Mints = roomy(n.Mints, api.Mint{Gen: 772})
	return n
}

// filled tells whether a list that roomy made is as it was, the room behind it, too.
func filled[T comparable](l, was []T, spare T) bool {
	return slices.Equal(l[:len(was)+2], roomy(was, spare)[:len(was)+2])
}

// untouched tells whether a node that copyOf made is as it was, its spare room, too.
func untouched(given, n api.Node) bool {
	d, was := given.Store.Disk, n.Store.Disk
	return like(given, n) && filled(d.Sure, was.Sure, "spare") && filled(d.Cache, was.Cache, api.Write{Sector: 77, Data: "spare"}) &&
		filled(given.Draws, n.Draws, 771) && filled(given.Mints, n.Mints, api.Mint{Gen: 772})
}

// tale is a node that the words are followed with, one by one, and what it put out; over: it went down, so nothing more comes.
type tale struct {
	api.Node
	outs []api.Out
	over bool
}

// operation tells whether the disk does one more.
func (s *tale) operation() bool {
	if s.over {
		return false
	}
	d := &s.Store.Disk
	if d.Fuse == 1 {
		down := api.Disk{Sure: d.Sure, Cache: d.Cache, Dead: true}
		s.Node = api.Node{Id: s.Id, Store: api.Store{Disk: down}, Draws: s.Draws, Mints: s.Mints}
		s.over = true
		return false
	}
	d.Fuse = max(d.Fuse-1, 0)
	return true
}

func (s *tale) write(sector int, data string) {
	if s.operation() {
		s.Store.Disk.Cache = append(slices.Clone(s.Store.Disk.Cache), api.Write{Sector: sector, Data: data})
	}
}

func (s *tale) flush() {
	if s.operation() {
		d := &s.Store.Disk
		d.Sure = slices.Clone(d.Sure)
		for _, w := range d.Cache {
			d.Sure[w.Sector] = w.Data
		}
		d.Cache = nil
	}
}

func (s *tale) commits(b api.Super) {
	if s.over || b == s.Store.Super {
		return
	}
	s.write(0, superBytes(b))
	s.flush()
	if !s.over {
		s.Store.Super = b
	}
}

func (s *tale) joins(m uint32) {
	if m |= s.Store.Mask; m != s.Store.Mask {
		s.write(1, maskBytes(m))
		s.flush()
		if !s.over {
			s.Store.Mask = m
		}
	}
}

func (s *tale) sends(kind byte, fields ...byte) {
	if !s.over {
		s.outs = append(s.outs, api.Out{Kind: api.OutPacket, Node: s.Id, Data: packetBytes(kind, s.Session, fields...)})
	}
}

func (s *tale) seeks() {
	if s.over || !s.Store.Super.Inc || s.Wanted != 0 {
		return
	}
	for i := range s.Store.Super.Blocks {
		if s.Store.Mask>>i&1 == 1 {
			s.Wanted = i + 1
			s.sends(5, byte(i))
			return
		}
	}
	s.commits(api.Super{Blocks: s.Store.Super.Blocks, Vector: retired(s.Peer.Vector)})
	s.sends(8)
}

// state: that one, with what was told.
func (s *tale) state(state int, h api.Hello) {
	if !s.over {
		s.State, s.PeerPri, s.Peer = state, h.Pri, h
	}
}

// retired is a vector without a generation of the mask.
func retired(v api.Vector) api.Vector {
	if v.Bitmap == 0 {
		return v
	}
	return api.Vector{Current: v.Current, Old: [2]uint64{v.Bitmap, v.Old[0]}}
}

// ownOf is a node's hello.
func ownOf(n api.Node) api.Hello {
	b := n.Store.Super
	return api.Hello{Blocks: b.Blocks, Vector: b.Vector, Inc: b.Inc, Was: b.Pri && !n.Primary, Dis: b.Dis, Pri: n.Primary, Mask: n.Store.Mask}
}

// placeOf is layer 5's word, once more.
func placeOf(v api.Vector, g uint64) int {
	for i, has := range []uint64{v.Current, v.Bitmap, v.Old[0], v.Old[1]} {
		if g != 0 && has == g {
			return i
		}
	}
	return -1
}

var (
	refuse = api.Verdict{Kind: api.VerRefuse, Source: -1}
	none   = api.Verdict{Kind: api.VerNone, Source: -1}
)

// verdictOf is layer 11's word, once more, of what x and y say.
func verdictOf(x, y api.Hello) api.Verdict {
	v := byRules(x, y)
	if v.Source == 0 && y.Pri || v.Source == 1 && x.Pri {
		return refuse
	}
	return v
}

func byRules(x, y api.Hello) api.Verdict {
	l := [2]api.Hello{x, y}
	if x.Blocks != y.Blocks || x.Pri && y.Pri || x.Inc && y.Inc || x.Dis && y.Dis {
		return refuse
	}
	for i := range l {
		if l[i].Inc {
			return ontoHalf(l[i], l[1-i], 1-i)
		}
	}
	for i := range l {
		if l[i].Dis {
			return api.Verdict{Kind: api.VerFull, Source: 1 - i}
		}
	}
	if x.Vector.Current == y.Vector.Current {
		if x.Mask|y.Mask == 0 {
			return none
		}
		if y.Pri || !x.Pri && y.Was && !x.Was {
			return api.Verdict{Kind: api.VerMask, Source: 1}
		}
		return api.Verdict{Kind: api.VerMask, Source: 0}
	}
	for i := range l {
		place := placeOf(l[i].Vector, l[1-i].Vector.Current)
		if place > 0 && placeOf(l[1-i].Vector, l[i].Vector.Current) < 0 {
			return byPlace(place, i)
		}
	}
	return refuse
}

// ontoHalf is the second rule, of a half copied target, the other one, and its number.
func ontoHalf(target, other api.Hello, number int) api.Verdict {
	switch {
	case other.Dis:
		return refuse
	case placeOf(other.Vector, target.Vector.Bitmap) >= 0:
		return api.Verdict{Kind: api.VerMask, Source: number}
	case target.Dis:
		return api.Verdict{Kind: api.VerFull, Source: number}
	}
	return byPlace(placeOf(other.Vector, target.Vector.Current), number)
}

func byPlace(place, source int) api.Verdict {
	switch {
	case place < 0:
		return refuse
	case place < 2:
		return api.Verdict{Kind: api.VerMask, Source: source}
	}
	return api.Verdict{Kind: api.VerFull, Source: source}
}

// deed is a call with all but the node, and what the chapter says of it.
type deed struct {
	call  func(api.Node) (api.Node, []api.Out)
	words func(*tale)
}

// begins is Begin.
func begins(session uint64) deed {
	c := func(n api.Node) (api.Node, []api.Out) { return greet.Begin(n, session) }
	return deed{c, func(s *tale) {
		s.State, s.Session, s.Minted = api.StGreet, session, false
		s.sends(1, helloBytes(ownOf(s.Node))...)
	}}
}

// meets is Met.
func meets(h api.Hello) deed {
	c := func(n api.Node) (api.Node, []api.Out) { return greet.Met(n, h) }
	return deed{c, func(s *tale) {
		x, y := ownOf(s.Node), h
		if s.Id == 1 {
			x, y = h, x
		}
		v := verdictOf(x, y)
		b := s.Store.Super
		switch v.Kind {
		case api.VerRefuse:
			s.outs = append(s.outs, api.Out{Kind: api.OutClose, Node: s.Id})
			return
		case api.VerNone:
			b.Vector, b.Pri = retired(b.Vector), s.Primary
			s.commits(b)
			s.state(api.StLinked, h)
			return
		}
		m := x.Mask | y.Mask
		if v.Kind == api.VerFull {
			m = 1<<x.Blocks - 1
		}
		s.joins(m)
		if v.Source == s.Id {
			s.state(api.StSource, h)
			return
		}
		b.Inc, b.Pri, b.Vector.Bitmap = true, false, h.Vector.Current
		s.commits(b)
		s.state(api.StTarget, h)
		s.seeks()
	}}
}

// does: a call makes of a node what the words say, and leaves what was handed in as it was; so it does once more.
func does(t *testing.T, x deed, n api.Node) (api.Node, []api.Out) {
	t.Helper()
	s := tale{Node: n}
	x.words(&s)
	var got api.Node
	var outs []api.Out
	for range 2 {
		given := copyOf(n)
		got, outs = x.call(given)
		if !like(got, s.Node) || !slices.Equal(outs, s.outs) {
			t.Fatalf("%#v: %#v, %#v, not %#v, %#v", n, got, outs, s.Node, s.outs)
		}
		if !untouched(given, n) {
			t.Fatalf("%#v: changed to %#v", n, given)
		}
	}
	return got, outs
}
