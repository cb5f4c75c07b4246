package write_test

import (
	"encoding/binary"
	"hash/fnv"
	"math"
	"reflect"
	"slices"
	"strings"
	"testing"

	"gemination/api"
	"gemination/node"
	"gemination/vector"
	"gemination/write"
)

// sealed is bytes with their sum behind them, without the packages of the program.
func sealed(b []byte) string {
	h := fnv.New32a()
	h.Write(b)
	return string(h.Sum(b))
}

// superBytes are those of a superblock.
func superBytes(s api.Super) string {
	b := []byte{71, 77, 1, byte(s.Blocks), 0}
	for i, flag := range []bool{s.Inc, s.Pri, s.Dis} {
		if flag {
			b[4] |= 1 << i
		}
	}
	for _, g := range []uint64{s.Vector.Current, s.Vector.Bitmap, s.Vector.Old[0], s.Vector.Old[1]} {
		b = binary.BigEndian.AppendUint64(b, g)
	}
	return sealed(b)
}

// maskBytes are those of a mask.
func maskBytes(m uint32) string {
	return sealed(binary.BigEndian.AppendUint32(nil, m))
}

// packetBytes are those of a packet with a block, and data, if there are any.
func packetBytes(kind byte, session uint64, block int, data string) string {
	b := binary.BigEndian.AppendUint64([]byte{kind}, session)
	return sealed(append(append(b, byte(block)), data...))
}

// blockOf is eight bytes that tell a number.
func blockOf(n int) string {
	return string(binary.BigEndian.AppendUint64(nil, uint64(n)*0x0102030405060709))
}

// superOf has unlike generations, and flags by the bits of a number: Inc, Pri, Dis.
func superOf(blocks, flags int) api.Super {
	v := api.Vector{Current: 9, Bitmap: 7, Old: [2]uint64{5, 3}}
	return api.Super{Blocks: blocks, Vector: v, Inc: flags&1 != 0, Pri: flags&2 != 0, Dis: flags&4 != 0}
}

// diskOf is a disk of that superblock and that mask, each block with data of its own, and all sure.
func diskOf(b api.Super, m uint32) api.Disk {
	sure := []string{superBytes(b), maskBytes(m)}
	for i := range b.Blocks {
		sure = append(sure, blockOf(i+1))
	}
	return api.Disk{Sure: sure}
}

// upOf is a node with all its fields set, up with a store of that superblock and that mask, alone, and not primary; no write waits.
func upOf(b api.Super, m uint32) api.Node {
	return api.Node{
		Id:      1,
		Up:      true,
		Store:   api.Store{Disk: diskOf(b, m), Super: b, Mask: m},
		Session: 0x0102030405060708,
		Peer:    api.Hello{Blocks: 2, Vector: api.Vector{Current: 4, Old: [2]uint64{2, 1}}, Was: true, Mask: 3},
		PeerPri: true,
		Req:     api.Request{Id: 31, Block: 1, Data: "12345678"},
		AskId:   32,
		Wanted:  2,
		Draws:   []uint64{21, 22, 0},
		Mints:   []api.Mint{{Gen: 9, Parent: 7, Node: 1}, {Gen: 7, Parent: 5}},
	}
}

// primaryOf is such a node that is primary.
func primaryOf(blocks int, m uint32) api.Node {
	n := upOf(superOf(blocks, 2), m)
	n.Primary = true
	return n
}

// all is what is in a list, by just one kind of list for none.
func all[T any](l []T) []T {
	return append([]T{}, l...)
}

// flat is a node with lists that are nil nowhere.
func flat(n api.Node) api.Node {
	n.Store.Disk.Sure, n.Store.Disk.Cache = all(n.Store.Disk.Sure), all(n.Store.Disk.Cache)
	n.Draws, n.Mints = all(n.Draws), all(n.Mints)
	return n
}

// like tells whether two nodes are the same, part by part.
func like(a, b api.Node) bool {
	return reflect.DeepEqual(flat(a), flat(b))
}

// roomy has what is in a list, and filled room behind it, so that who writes there is seen.
func roomy[T any](l []T, spare T) []T {
	return append(slices.Clone(l), spare, spare)[:len(l)]
}

// copyOf shares no memory with a node.
func copyOf(n api.Node) api.Node {
	d := &n.Store.Disk
	d.Sure = roomy(d.Sure, "spare")
	d.Cache = roomy(d.Cache, api.Write{Sector: 77, Data: "spare"})
	n.Draws = roomy(n.Draws, 771)
	n.Mints = roomy(n.Mints, api.Mint{Gen: 772})
	return n
}

// filled tells whether a list that roomy made is as it was, the room behind it, too.
func filled[T comparable](l, was []T, spare T) bool {
	return slices.Equal(l[:len(was)+2], roomy(was, spare)[:len(was)+2])
}

// untouched tells whether a node that copyOf made is as it was, its spare room, too.
func untouched(given, n api.Node) bool {
	d, was := given.Store.Disk, n.Store.Disk
	return like(given, n) && filled(d.Sure, was.Sure, "spare") && filled(d.Cache, was.Cache, api.Write{Sector: 77, Data: "spare"}) &&
		filled(given.Draws, n.Draws, 771) && filled(given.Mints, n.Mints, api.Mint{Gen: 772})
}

// tale is a node that the words are followed with, one by one, and what it put out; over: it went down, so nothing more comes.
type tale struct {
	api.Node
	outs []api.Out
	over bool
}

// operation tells whether the disk does one more.
func (s *tale) operation() bool {
	d := &s.Store.Disk
	if s.over || d.Fuse == 1 {
		s.over = true
		down := api.Disk{Sure: d.Sure, Cache: d.Cache, Dead: true}
		s.Node = api.Node{Id: s.Id, Store: api.Store{Disk: down}, Draws: s.Draws, Mints: s.Mints}
		return false
	}
	d.Fuse = max(d.Fuse-1, 0)
	return true
}

func (s *tale) write(sector int, data string) {
	if s.operation() {
		s.Store.Disk.Cache = append(slices.Clone(s.Store.Disk.Cache), api.Write{Sector: sector, Data: data})
	}
}

func (s *tale) flush() {
	if s.operation() {
		d := &s.Store.Disk
		d.Sure = slices.Clone(d.Sure)
		for _, w := range d.Cache {
			d.Sure[w.Sector] = w.Data
		}
		d.Cache = nil
	}
}

func (s *tale) commits(b api.Super) {
	if b == s.Store.Super {
		return
	}
	s.write(0, superBytes(b))
	s.flush()
	if !s.over {
		s.Store.Super = b
	}
}

func (s *tale) wipes(i int) {
	if m := s.Store.Mask &^ (1 << i); m != s.Store.Mask {
		s.write(1, maskBytes(m))
		if !s.over {
			s.Store.Mask = m
		}
	}
}

func (s *tale) lays(i int, data string) {
	if m := s.Store.Mask | 1<<i; m != s.Store.Mask {
		s.write(1, maskBytes(m))
		s.flush()
		if !s.over {
			s.Store.Mask = m
		}
	}
	s.write(i+2, data)
	s.flush()
}

func (s *tale) mints() api.Errno {
	if len(s.Draws) == 0 {
		return api.ErrDraw
	}
	g := s.Draws[0]
	s.Draws = s.Draws[1:]
	if g == 0 {
		return api.ErrDraw
	}
	b := s.Store.Super
	s.Mints = append(slices.Clone(s.Mints), api.Mint{Gen: g, Parent: b.Vector.Current, Node: s.Id})
	b.Vector, _ = vector.Mint(b.Vector, g)
	s.commits(b)
	if !s.over {
		s.Minted = true
	}
	return api.OK
}

func (s *tale) replies(id int, e api.Errno) {
	if !s.over {
		s.outs = append(s.outs, api.Out{Kind: api.OutReply, Node: s.Id, Id: id, Err: e})
	}
}

func (s *tale) sends(kind byte, block int, data string) {
	if !s.over {
		s.outs = append(s.outs, api.Out{Kind: api.OutPacket, Node: s.Id, Data: packetBytes(kind, s.Session, block, data)})
	}
}

// call is one of the package, with all but the node; words is what the chapter says of it.
type call func(api.Node) (api.Node, []api.Out)
type words func(*tale)

// deed is a call, and the words for it.
type deed struct {
	call  call
	words words
}

// bar is a case, and the error that is replied in it.
type bar struct {
	holds bool
	e     api.Errno
}

// writes is Write.
func writes(id, block int, data string) deed {
	c := func(n api.Node) (api.Node, []api.Out) { return write.Write(n, id, block, data) }
	return deed{c, func(s *tale) {
		has := block >= 0 && block < s.Store.Super.Blocks
		for _, b := range []bar{{!s.Up, api.ErrDown}, {!s.Primary, api.ErrRole}, {!has, api.ErrRange}, {len(data) != 8, api.ErrLong}, {s.Req.On, api.ErrBusy}, {s.State == 1, api.ErrBusy}} {
			if b.holds {
				s.replies(id, b.e)
				return
			}
		}
		if s.State == 0 {
			if !s.Minted {
				if e := s.mints(); e != api.OK {
					s.replies(id, e)
					return
				}
			}
			s.lays(block, data)
			s.replies(id, api.OK)
			return
		}
		s.lays(block, data)
		if !s.over {
			s.Req = api.Request{On: true, Id: id, Block: block, Data: data}
		}
		s.sends(2, block, data)
	}}
}

// acked is Acked.
func acked(block int) deed {
	c := func(n api.Node) (api.Node, []api.Out) { return write.Acked(n, block) }
	return deed{c, func(s *tale) {
		if s.Req.On && s.Req.Block == block {
			id := s.Req.Id
			s.Req = api.Request{}
			s.replies(id, api.OK)
			s.wipes(block)
			s.sends(4, block, "")
		}
	}}
}

// applies is Apply.
func applies(block int, data string) deed {
	c := func(n api.Node) (api.Node, []api.Out) { return write.Apply(n, block, data) }
	return deed{c, func(s *tale) {
		s.lays(block, data)
		s.sends(3, block, "")
	}}
}

// cleaned is Cleaned.
func cleaned(block int) deed {
	c := func(n api.Node) (api.Node, []api.Out) { return write.Cleaned(n, block) }
	return deed{c, func(s *tale) { s.wipes(block) }}
}

// loses is Lose.
func loses() deed {
	return deed{write.Lose, func(s *tale) {
		if s.State == 0 {
			return
		}
		if s.Asking {
			s.replies(s.AskId, api.ErrLost)
		}
		s.State, s.Session, s.Peer, s.PeerPri = 0, 0, api.Hello{}, false
		s.Asking, s.AskId, s.Wanted, s.Minted = false, 0, 0, false
		if r := s.Req; r.On {
			s.Req = api.Request{}
			s.replies(r.Id, s.mints())
		}
	}}
}

// does: a call makes of a node what the words say, and leaves what was handed in as it was; so it does once more.
func does(t *testing.T, x deed, n api.Node) (api.Node, []api.Out) {
	t.Helper()
	s := tale{Node: n}
	x.words(&s)
	var got api.Node
	var outs []api.Out
	for range 2 {
		given := copyOf(n)
		got, outs = x.call(given)
		if !like(got, s.Node) || !slices.Equal(outs, s.outs) {
			t.Fatalf("%#v: %#v, %#v, not %#v, %#v", n, got, outs, s.Node, s.outs)
		}
		if !untouched(given, n) {
			t.Fatalf("%#v: changed to %#v", n, given)
		}
	}
	return got, outs
}

// drawsOf are those that may be left: none; a first one that is 0; others, with the greatest one, and a last one.
func drawsOf() [][]uint64 {
	return [][]uint64{nil, {0, 21}, {math.MaxUint64, 22}, {21}}
}

// eachKind goes through nodes of three blocks with all that may be of Id, Up, Primary, State, Asking, a write that waits, Minted, a superblock's flags, and some draws.
func eachKind(f func(api.Node)) {
	for flags := range 8 {
		n := upOf(superOf(3, flags), 5)
		for bits := range 1 << 6 {
			n.Id = bits & 1
			n.Up = bits&2 != 0
			n.Primary = bits&4 != 0
			n.Asking = bits&8 != 0
			n.Req.On = bits&16 != 0
			n.Minted = bits&32 != 0
			if n.Up && n.Primary && n.Store.Super.Inc {
				continue
			}
			for _, n.Draws = range drawsOf() {
				for n.State = range 5 {
					f(n)
				}
			}
		}
	}
}

// P17.1: of nodes of each kind each call, and each way to ask a wrong thing.
func TestEachKind(t *testing.T) {
	eachKind(func(n api.Node) {
		for _, x := range []deed{writes(41, 1, "abcdefgh"), writes(42, 2, "abcdefgh"), writes(43, 3, "abcdefg"), writes(44, -1, "abcdefgh"), writes(45, 0, "abcdefghi")} {
			does(t, x, n)
		}
		if n.Up {
			for _, x := range []deed{acked(0), acked(1), acked(2), applies(0, "abcdefgh"), applies(1, "abcdefgh"), cleaned(1), cleaned(2), loses()} {
				does(t, x, n)
			}
		} else {
			does(t, loses(), node.Down(n))
		}
	})
}

// caches are some with which a store stays whole: nothing, a mask that isn't sure, and each part once more.
func caches(s api.Store) [][]api.Write {
	mark := api.Write{Sector: 1, Data: maskBytes(s.Mask)}
	super := api.Write{Data: superBytes(s.Super)}
	return [][]api.Write{nil, {mark}, {{Sector: 3, Data: "xxxxxxxx"}, {Data: "xxxx"}, mark, super}}
}

// P17.1: wherever the fuse ends, whatever is in the cache: what was put out ahead of that stays, and nothing comes behind it.
func TestEachEnd(t *testing.T) {
	for bits := range 1 << 4 {
		n := primaryOf(3, 5)
		n.Primary = bits&1 == 0
		n.Asking = bits&2 != 0
		n.Req.On = bits&4 != 0
		n.Minted = bits&8 != 0
		for n.State = range 5 {
			for _, n.Draws = range drawsOf() {
				for _, n.Store.Disk.Cache = range caches(n.Store) {
					for n.Store.Disk.Fuse = range 9 {
						for _, x := range []deed{writes(41, 1, "abcdefgh"), writes(42, 2, "abcdefgh"), acked(1), applies(0, "abcdefgh"), applies(1, "abcdefgh"), cleaned(1), cleaned(2), loses()} {
							does(t, x, n)
						}
					}
				}
			}
		}
	}
}

// numbers are the edges of an int, and some between; most are of no block.
func numbers() []int {
	return []int{math.MinInt, math.MinInt32, -1, 0, 1, 2, 31, 32, 33, 64, 255, 256, math.MaxInt32, 1 << 32, 1<<32 + 1, math.MaxInt}
}

// P17.1: of each number of blocks each one is written, applied, acknowledged and cleaned, and none else is written.
func TestBlocks(t *testing.T) {
	for blocks := 1; blocks <= api.MaxBlocks; blocks++ {
		for _, m := range []uint32{0, 1, 1<<blocks - 1} {
			n := primaryOf(blocks, m)
			for _, n.State = range []int{api.StAlone, api.StLinked, api.StSource} {
				for i := range blocks {
					n.Req = api.Request{}
					does(t, writes(5, i, "abcdefgh"), n)
					does(t, applies(i, "abcdefgh"), n)
					does(t, cleaned(i), n)
					n.Req = api.Request{On: true, Id: 6, Block: i, Data: "abcdefgh"}
					does(t, acked(i), n)
					does(t, acked((i+1)%blocks), n)
				}
				n.Req = api.Request{}
				for _, i := range append(numbers(), -2, -blocks, blocks, blocks+1, blocks+2) {
					does(t, writes(7, i, "abcdefgh"), n)
				}
			}
		}
	}
}

// P17.1: data of just eight bytes are written, whatever they are, and told as they are.
func TestData(t *testing.T) {
	n := primaryOf(2, 0)
	texts := []string{"\x00\x00\x00\x00\x00\x00\x00\x00", "\xff\xfe\x00\xc3\x28\x80ab", "01234567", strings.Repeat("\u00e9", 4), strings.Repeat("\u00e9", 8), blockOf(2)}
	for k := range 70 {
		texts = append(texts, strings.Repeat("x", k))
	}
	for _, data := range append(texts, strings.Repeat("x", 256+8), strings.Repeat("x", 1<<16+8)) {
		for _, n.State = range []int{api.StAlone, api.StLinked, api.StSource, api.StTarget} {
			got, _ := does(t, writes(5, 1, data), n)
			if sector := got.Store.Disk.Sure[3]; len(data) == 8 && sector != data || len(data) != 8 && sector != blockOf(2) {
				t.Fatalf("%q: %q", data, sector)
			}
			if len(data) == 8 {
				does(t, applies(1, data), n)
			}
		}
	}
}

// P17.1: whoever asked is replied by just that number, at once or later.
func TestIds(t *testing.T) {
	for _, id := range numbers() {
		n := primaryOf(3, 1)
		for n.State = range 5 {
			does(t, writes(id, 0, "abcdefgh"), n)
			does(t, writes(id, 3, "abcdefgh"), n)
			n.Req = api.Request{On: true, Id: id, Block: 2, Data: "abcdefgh"}
			n.AskId = id ^ 1
			for _, n.Asking = range []bool{false, true} {
				does(t, acked(2), n)
				does(t, loses(), n)
			}
			n.Req = api.Request{}
		}
	}
}

// P17.1: a write that waits is of just the block that it says, be there such a one or not.
func TestWaitsForBlock(t *testing.T) {
	for _, waits := range numbers() {
		n := primaryOf(3, 7)
		n.Req = api.Request{On: true, Id: 6, Block: waits, Data: "abcdefgh"}
		for n.State = range 5 {
			for i := range 3 {
				does(t, acked(i), n)
			}
			does(t, loses(), n)
		}
	}
}

// P17.1: what is sent is of the session that there is.
func TestSessions(t *testing.T) {
	n := primaryOf(3, 2)
	for _, n.Session = range []uint64{0, 1, 255, 256, math.MaxUint32, 1 << 32, 1<<63 - 1, 1 << 63, math.MaxUint64} {
		for n.State = range 5 {
			does(t, writes(3, 2, "abcdefgh"), n)
			does(t, applies(1, "abcdefgh"), n)
			x := n
			x.Req.On = true
			does(t, acked(1), x)
			does(t, loses(), x)
		}
	}
}

// P17.1: a generation is drawn as layer 5 says, whatever the vector has; one that changes nothing of the superblock burns no fuse.
func TestMints(t *testing.T) {
	few := []uint64{0, 1, 9, math.MaxUint64}
	for _, current := range few[1:] {
		for _, bitmap := range few {
			for _, first := range few {
				for _, second := range few {
					for _, draw := range few {
						b := superOf(2, 2)
						b.Vector = api.Vector{Current: current, Bitmap: bitmap, Old: [2]uint64{first, second}}
						n := upOf(b, 1)
						n.Primary, n.Draws = true, []uint64{draw, 4, 4}
						for _, n.Store.Disk.Fuse = range []int{0, 3, 5} {
							got, _ := does(t, writes(5, 0, "abcdefgh"), n)
							if got.Up {
								does(t, writes(6, 1, "abcdefgh"), got)
							}
							x := n
							x.State, x.Req.On = api.StLinked, true
							does(t, loses(), x)
						}
					}
				}
			}
		}
	}
}

// P17.1: a long row of draws and mints is taken from its beginning, and goes on at its end.
func TestManyDraws(t *testing.T) {
	n := primaryOf(2, 0)
	n.Draws, n.Mints = nil, nil
	for i := range 1000 {
		n.Draws = append(n.Draws, uint64(1000-i)*uint64(i%7))
	}
	for n.Draws != nil && len(n.Draws) > 0 {
		left := len(n.Draws)
		zero := n.Draws[0] == 0
		got, outs := does(t, writes(left, 1, blockOf(left)), n)
		if len(got.Draws) != left-1 || zero != (outs[0].Err == api.ErrDraw) {
			t.Fatal(left, zero, outs)
		}
		n = got
		n.Minted = false
	}
	does(t, writes(1, 1, "abcdefgh"), n)
}

// P17.1: two answers of one node don't disturb each other, though they share memory.
func TestTwoAnswers(t *testing.T) {
	n := copyOf(primaryOf(3, 0))
	for _, n.State = range []int{api.StAlone, api.StLinked} {
		a, outs := write.Write(n, 1, 0, "aaaaaaaa")
		want, said := copyOf(a), slices.Clone(outs)
		for _, x := range []deed{writes(2, 1, "bbbbbbbb"), applies(2, "cccccccc"), loses()} {
			b, _ := x.call(n)
			x.call(a)
			writes(3, 2, "dddddddd").call(b)
		}
		if !like(a, want) || !slices.Equal(outs, said) {
			t.Errorf("%#v, %#v, not %#v, %#v", a, outs, want, said)
		}
	}
}

// P17.1: whatever a node that is down has beside its disk, its calls end.
func TestDownEnds(t *testing.T) {
	eachKind(func(n api.Node) {
		n.Up = false
		for _, dead := range []bool{false, true} {
			n.Store.Disk.Dead = dead
			write.Lose(n)
			does(t, writes(5, 1, "abcdefgh"), n)
			n.Store = api.Store{Disk: api.Disk{Sure: []string{"x"}, Dead: dead}}
			write.Lose(n)
			does(t, writes(5, 1, "abcdefgh"), n)
		}
	})
}
