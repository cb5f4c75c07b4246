package peer_test

import (
	"encoding/binary"
	"hash/fnv"
	"reflect"
	"slices"
	"testing"

	"gemination/api"
	"gemination/greet"
	"gemination/peer"
	"gemination/sync"
	"gemination/write"
)

// sealed is bytes with their sum behind them, without the packages of the program.
func sealed(b []byte) string {
	h := fnv.New32a()
	h.Write(b)
	return string(h.Sum(b))
}

// flagsOf are yes and no as bits, the first one the lowest.
func flagsOf(l ...bool) byte {
	b := byte(0)
	for i, flag := range l {
		if flag {
			b |= 1 << i
		}
	}
	return b
}

// vectorBytes are those of a vector, behind others.
func vectorBytes(b []byte, v api.Vector) []byte {
	for _, g := range []uint64{v.Current, v.Bitmap, v.Old[0], v.Old[1]} {
		b = binary.BigEndian.AppendUint64(b, g)
	}
	return b
}

// superBytes are those of a superblock.
func superBytes(s api.Super) string {
	return sealed(vectorBytes([]byte{71, 77, 1, byte(s.Blocks), flagsOf(s.Inc, s.Pri, s.Dis)}, s.Vector))
}

// maskBytes are those of a mask.
func maskBytes(m uint32) string {
	return sealed(binary.BigEndian.AppendUint32(nil, m))
}

// helloBytes are those of a hello, unsealed.
func helloBytes(h api.Hello) []byte {
	return binary.BigEndian.AppendUint32(vectorBytes([]byte{byte(h.Blocks), flagsOf(h.Inc, h.Was, h.Dis, h.Pri)}, h.Vector), h.Mask)
}

// bytesOf are those of a packet that may be, of its own session.
func bytesOf(p api.Packet) string {
	b := binary.BigEndian.AppendUint64([]byte{byte(p.Kind)}, p.Session)
	switch {
	case p.Kind == api.PkHello:
		b = append(b, helloBytes(p.Hello)...)
	case p.Kind >= api.PkData && p.Kind <= api.PkGot:
		b = append(append(b, byte(p.Block)), p.Data...)
	}
	return sealed(b)
}

// blockOf is eight bytes that tell a number.
func blockOf(n int) string {
	return string(binary.BigEndian.AppendUint64(nil, uint64(n)*0x0102030405060709))
}

// superOf has unlike generations, and flags by the bits of a number: Inc, Pri, Dis.
func superOf(blocks, flags int) api.Super {
	v := api.Vector{Current: 9, Bitmap: 7, Old: [2]uint64{5, 3}}
	return api.Super{Blocks: blocks, Vector: v, Inc: flags&1 != 0, Pri: flags&2 != 0, Dis: flags&4 != 0}
}

// upOf is a node with all its fields set, up with a store of that superblock and that mask, in that state, and not primary; no write waits, and no block is wanted.
func upOf(b api.Super, m uint32, state int) api.Node {
	sure := []string{superBytes(b), maskBytes(m)}
	for i := range b.Blocks {
		sure = append(sure, blockOf(i+1))
	}
	return api.Node{
		Id:      1,
		Up:      true,
		Store:   api.Store{Disk: api.Disk{Sure: sure}, Super: b, Mask: m},
		State:   state,
		Session: 0x0102030405060708,
		Peer:    api.Hello{Blocks: 30, Vector: api.Vector{Current: 14, Bitmap: 13, Old: [2]uint64{12, 11}}, Inc: true, Was: true, Dis: true, Mask: 3},
		PeerPri: true,
		Req:     api.Request{Id: 31, Block: 1, Data: "12345678"},
		AskId:   32,
		Minted:  true,
		Draws:   []uint64{21, 22, 0},
		Mints:   []api.Mint{{Gen: 9, Parent: 7, Node: 1}, {Gen: 7, Parent: 5}},
	}
}

// all is what is in a list, by just one kind of list for none.
func all[T any](l []T) []T {
	return append([]T{}, l...)
}

// flat is a node with lists that are nil nowhere.
func flat(n api.Node) api.Node {
	n.Store.Disk.Sure, n.Store.Disk.Cache = all(n.Store.Disk.Sure), all(n.Store.Disk.Cache)
	n.Draws, n.Mints = all(n.Draws), all(n.Mints)
	return n
}

// like tells whether two nodes are the same, part by part.
func like(a, b api.Node) bool {
	return reflect.DeepEqual(flat(a), flat(b))
}

// roomy has what is in a list, and filled room behind it, so that who writes there is seen.
func roomy[T any](l []T, spare T) []T {
	return append(slices.Clone(l), spare, spare)[:len(l)]
}

// copyOf shares no memory with a node.
func copyOf(n api.Node) api.Node {
	d := &n.Store.Disk
	d.Sure = roomy(d.Sure, "spare")
	d.Cache = roomy(d.Cache, api.Write{Sector: 77, Data: "spare"})
	n.Draws = roomy(n.Draws, 771)
	n.Mints = roomy(n.Mints, api.Mint{Gen: 772})
	return n
}

// filled tells whether a list that roomy made is as it was, the room behind it, too.
func filled[T comparable](l, was []T, spare T) bool {
	return slices.Equal(l[:len(was)+2], roomy(was, spare)[:len(was)+2])
}

// untouched tells whether a node that copyOf made is as it was, its spare room, too.
func untouched(given, n api.Node) bool {
	d, was := given.Store.Disk, n.Store.Disk
	return like(given, n) && filled(d.Sure, was.Sure, "spare") && filled(d.Cache, was.Cache, api.Write{Sector: 77, Data: "spare"}) &&
		filled(given.Draws, n.Draws, 771) && filled(given.Mints, n.Mints, api.Mint{Gen: 772})
}

// tale is a node that the words are followed with, one by one, and what it put out; over: it went down, so nothing more comes.
type tale struct {
	api.Node
	outs []api.Out
	over bool
}

// operation tells whether the disk does one more.
func (s *tale) operation() bool {
	if s.over {
		return false
	}
	d := &s.Store.Disk
	if d.Fuse == 1 {
		down := api.Disk{Sure: d.Sure, Cache: d.Cache, Dead: true}
		s.Node = api.Node{Id: s.Id, Store: api.Store{Disk: down}, Draws: s.Draws, Mints: s.Mints}
		s.over = true
		return false
	}
	d.Fuse = max(d.Fuse-1, 0)
	return true
}

func (s *tale) commits(b api.Super) {
	if b == s.Store.Super {
		return
	}
	if s.operation() {
		s.Store.Disk.Cache = append(slices.Clone(s.Store.Disk.Cache), api.Write{Data: superBytes(b)})
	}
	if s.operation() {
		d := &s.Store.Disk
		d.Sure = slices.Clone(d.Sure)
		for _, w := range d.Cache {
			d.Sure[w.Sector] = w.Data
		}
		d.Cache = nil
		s.Store.Super = b
	}
}

func (s *tale) sends(kind int) {
	s.outs = append(s.outs, api.Out{Kind: api.OutPacket, Node: s.Id, Data: bytesOf(api.Packet{Kind: kind, Session: s.Session})})
}

func (s *tale) replies(id int, e api.Errno) {
	s.outs = append(s.outs, api.Out{Kind: api.OutReply, Node: s.Id, Id: id, Err: e})
}

// becomes: a layer below says what.
func (s *tale) becomes(n api.Node, outs []api.Out) {
	s.Node, s.outs = n, outs
}

// takes: a packet that fits, by its kind.
func (s *tale) takes(p api.Packet) {
	switch p.Kind {
	case 1:
		s.becomes(greet.Met(s.Node, p.Hello))
	case 2:
		s.becomes(write.Apply(s.Node, p.Block, p.Data))
	case 3:
		s.becomes(write.Acked(s.Node, p.Block))
	case 4:
		s.becomes(write.Cleaned(s.Node, p.Block))
	case 5:
		s.becomes(sync.Give(s.Node, p.Block))
	case 6:
		s.becomes(sync.Got(s.Node, p.Block, p.Data))
	case 7:
		s.becomes(sync.Copied(s.Node, p.Block))
	case 8:
		s.becomes(sync.Ended(s.Node))
	case 9:
		s.becomes(sync.Done(s.Node), nil)
	case 10:
		if s.Primary || s.Asking {
			s.sends(12)
		} else {
			s.PeerPri = true
			s.sends(11)
		}
	case 11:
		b := s.Store.Super
		b.Pri = true
		s.commits(b)
		if !s.over {
			id := s.AskId
			s.Primary, s.Asking, s.AskId = true, false, 0
			s.replies(id, api.OK)
		}
	case 12:
		id := s.AskId
		s.Asking, s.AskId = false, 0
		s.replies(id, api.ErrPeer)
	case 13:
		s.PeerPri = false
	}
}

// fits is the chapter's word of a packet that may be: in which states a kind does, and what else there must be.
func fits(n api.Node, p api.Packet) bool {
	states := [][]int{1: {1}, 2: {2, 4}, 3: {2, 3}, 4: {2, 4}, 5: {3}, 6: {4}, 7: {3}, 8: {3}, 9: {4}, 10: {2, 3, 4}, 11: {2, 3, 4}, 12: {2, 3, 4}, 13: {2, 3, 4}}[p.Kind]
	if !n.Up || !slices.Contains(states, n.State) {
		return false
	}
	if p.Kind >= 2 && p.Kind <= 7 && p.Block >= n.Store.Super.Blocks {
		return false
	}
	switch p.Kind {
	case 2:
		return !n.Primary
	case 9:
		return !n.Store.Super.Inc
	case 11, 12:
		return n.Asking
	}
	return true
}

// receives follows the chapter's words of a node to which the bytes of a packet that may be come.
func (s *tale) receives(p api.Packet) {
	switch {
	case !s.Up || s.State == api.StAlone || p.Session != s.Session:
	case !fits(s.Node, p):
		s.outs = append(s.outs, api.Out{Kind: api.OutClose, Node: s.Id})
	default:
		s.takes(p)
	}
}

// does: the bytes of a packet that may be make of a node what the words say, and leave what was handed in as it was; so they do once more.
func does(t *testing.T, n api.Node, p api.Packet) (api.Node, []api.Out) {
	t.Helper()
	s := tale{Node: n}
	s.receives(p)
	b := bytesOf(p)
	var got api.Node
	var outs []api.Out
	for range 2 {
		given := copyOf(n)
		got, outs = peer.Receive(given, b)
		if !like(got, s.Node) || !slices.Equal(outs, s.outs) {
			t.Fatalf("%#v, %#v: %#v, %#v, not %#v, %#v", n, p, got, outs, s.Node, s.outs)
		}
		if !untouched(given, n) {
			t.Fatalf("%#v, %#v: changed to %#v", n, p, given)
		}
	}
	return got, outs
}

// tellsFit: whether a packet fits a node is told as the words say, and leaves what was handed in as it was.
func tellsFit(t *testing.T, n api.Node, p api.Packet, want bool) {
	t.Helper()
	given := copyOf(n)
	if got := peer.Fits(given, p); got != want {
		t.Fatalf("%#v, %#v: %v", n, p, got)
	}
	if !untouched(given, n) {
		t.Fatalf("%#v, %#v: changed to %#v", n, p, given)
	}
}
