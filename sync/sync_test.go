package sync_test

import (
	"encoding/binary"
	"hash/fnv"
	"math"
	"reflect"
	"slices"
	"strings"
	"testing"

	"gemination/api"
	"gemination/node"
	"gemination/sync"
)

// sealed is bytes with their sum behind them, without the packages of the program.
func sealed(b []byte) string {
	h := fnv.New32a()
	h.Write(b)
	return string(h.Sum(b))
}

// superBytes are those of a superblock.
func superBytes(s api.Super) string {
	b := []byte{71, 77, 1, byte(s.Blocks), 0}
	for i, flag := range []bool{s.Inc, s.Pri, s.Dis} {
		if flag {
			b[4] |= 1 << i
		}
	}
	for _, g := range []uint64{s.Vector.Current, s.Vector.Bitmap, s.Vector.Old[0], s.Vector.Old[1]} {
		b = binary.BigEndian.AppendUint64(b, g)
	}
	return sealed(b)
}

// maskBytes are those of a mask.
func maskBytes(m uint32) string {
	return sealed(binary.BigEndian.AppendUint32(nil, m))
}

// packetBytes are those of a packet with these fields, bytes as they stand there.
func packetBytes(kind byte, session uint64, fields ...byte) string {
	return sealed(append(binary.BigEndian.AppendUint64([]byte{kind}, session), fields...))
}

// blockOf is eight bytes that tell a number.
func blockOf(n int) string {
	return string(binary.BigEndian.AppendUint64(nil, uint64(n)*0x0102030405060709))
}

// superOf has unlike generations, and flags by the bits of a number: Inc, Pri, Dis.
func superOf(blocks, flags int) api.Super {
	v := api.Vector{Current: 9, Bitmap: 7, Old: [2]uint64{5, 3}}
	return api.Super{Blocks: blocks, Vector: v, Inc: flags&1 != 0, Pri: flags&2 != 0, Dis: flags&4 != 0}
}

// upOf is a node with all its fields set, up with a store of that superblock and that mask, in that state; no write waits, and no block is wanted.
func upOf(b api.Super, m uint32, state int) api.Node {
	sure := []string{superBytes(b), maskBytes(m)}
	for i := range b.Blocks {
		sure = append(sure, blockOf(i+1))
	}
	return api.Node{
		Id:      1,
		Up:      true,
		Store:   api.Store{Disk: api.Disk{Sure: sure}, Super: b, Mask: m},
		State:   state,
		Session: 0x0102030405060708,
		Peer:    api.Hello{Blocks: 30, Vector: api.Vector{Current: 14, Bitmap: 13, Old: [2]uint64{12, 11}}, Inc: true, Was: true, Dis: true, Mask: 3},
		PeerPri: true,
		Req:     api.Request{Id: 31, Block: 1, Data: "12345678"},
		AskId:   32,
		Minted:  true,
		Draws:   []uint64{21, 22, 0},
		Mints:   []api.Mint{{Gen: 9, Parent: 7, Node: 1}, {Gen: 7, Parent: 5}},
	}
}

// targetOf is a half copied one, the source of which is primary.
func targetOf(blocks int, m uint32) api.Node {
	return upOf(superOf(blocks, 1), m, api.StTarget)
}

// sourceOf is a source that is primary.
func sourceOf(blocks int, m uint32) api.Node {
	n := upOf(superOf(blocks, 2), m, api.StSource)
	n.Primary = true
	return n
}

// all is what is in a list, by just one kind of list for none.
func all[T any](l []T) []T {
	return append([]T{}, l...)
}

// flat is a node with lists that are nil nowhere.
func flat(n api.Node) api.Node {
	n.Store.Disk.Sure, n.Store.Disk.Cache = all(n.Store.Disk.Sure), all(n.Store.Disk.Cache)
	n.Draws, n.Mints = all(n.Draws), all(n.Mints)
	return n
}

// like tells whether two nodes are the same, part by part.
func like(a, b api.Node) bool {
	return reflect.DeepEqual(flat(a), flat(b))
}

// roomy has what is in a list, and filled room behind it, so that who writes there is seen.
func roomy[T any](l []T, spare T) []T {
	return append(slices.Clone(l), spare, spare)[:len(l)]
}

// copyOf shares no memory with a node.
func copyOf(n api.Node) api.Node {
	d := &n.Store.Disk
	d.Sure = roomy(d.Sure, "spare")
	d.Cache = roomy(d.Cache, api.Write{Sector: 77, Data: "spare"})
	n.Draws = roomy(n.Draws, 771)
	n.Mints = roomy(n.Mints, api.Mint{Gen: 772})
	return n
}

// filled tells whether a list that roomy made is as it was, the room behind it, too.
func filled[T comparable](l, was []T, spare T) bool {
	return slices.Equal(l[:len(was)+2], roomy(was, spare)[:len(was)+2])
}

// untouched tells whether a node that copyOf made is as it was, its spare room, too.
func untouched(given, n api.Node) bool {
	d, was := given.Store.Disk, n.Store.Disk
	return like(given, n) && filled(d.Sure, was.Sure, "spare") && filled(d.Cache, was.Cache, api.Write{Sector: 77, Data: "spare"}) &&
		filled(given.Draws, n.Draws, 771) && filled(given.Mints, n.Mints, api.Mint{Gen: 772})
}

// tale is a node that the words are followed with, one by one, and what it put out; over: it went down, so nothing more comes.
type tale struct {
	api.Node
	outs []api.Out
	over bool
}

// falls: it goes down.
func (s *tale) falls() {
	d := api.Disk{Sure: s.Store.Disk.Sure, Cache: s.Store.Disk.Cache, Dead: true}
	s.Node = api.Node{Id: s.Id, Store: api.Store{Disk: d}, Draws: s.Draws, Mints: s.Mints}
	s.over = true
}

// operation tells whether the disk does one more.
func (s *tale) operation() bool {
	if s.over {
		return false
	}
	d := &s.Store.Disk
	if d.Fuse == 1 {
		s.falls()
		return false
	}
	d.Fuse = max(d.Fuse-1, 0)
	return true
}

func (s *tale) write(sector int, data string) {
	if s.operation() {
		s.Store.Disk.Cache = append(slices.Clone(s.Store.Disk.Cache), api.Write{Sector: sector, Data: data})
	}
}

func (s *tale) flush() {
	if s.operation() {
		d := &s.Store.Disk
		d.Sure = slices.Clone(d.Sure)
		for _, w := range d.Cache {
			d.Sure[w.Sector] = w.Data
		}
		d.Cache = nil
	}
}

func (s *tale) commits(b api.Super) {
	switch {
	case s.over || b == s.Store.Super:
		return
	case b.Vector.Current == 0:
		// Such a superblock may not be.
		s.falls()
		return
	}
	s.write(0, superBytes(b))
	s.flush()
	if !s.over {
		s.Store.Super = b
	}
}

func (s *tale) puts(i int, data string) {
	s.write(i+2, data)
	s.flush()
}

func (s *tale) wipes(i int) {
	if m := s.Store.Mask &^ (1 << i); m != s.Store.Mask {
		s.write(1, maskBytes(m))
		if !s.over {
			s.Store.Mask = m
		}
	}
}

func (s *tale) sends(kind byte, fields ...byte) {
	if !s.over {
		s.outs = append(s.outs, api.Out{Kind: api.OutPacket, Node: s.Id, Data: packetBytes(kind, s.Session, fields...)})
	}
}

func (s *tale) seeks() {
	if s.over || !s.Store.Super.Inc || s.Wanted != 0 {
		return
	}
	for i := range s.Store.Super.Blocks {
		if s.Store.Mask>>i&1 == 1 {
			s.Wanted = i + 1
			s.sends(5, byte(i))
			return
		}
	}
	s.commits(api.Super{Blocks: s.Store.Super.Blocks, Vector: retired(s.Peer.Vector)})
	s.sends(8)
}

// retired is a vector without a generation of the mask.
func retired(v api.Vector) api.Vector {
	if v.Bitmap == 0 {
		return v
	}
	return api.Vector{Current: v.Current, Old: [2]uint64{v.Bitmap, v.Old[0]}}
}

// deed is a call with all but the node, and what the chapter says of it.
type deed struct {
	call  func(api.Node) (api.Node, []api.Out)
	words func(*tale)
}

func seeking() deed {
	return deed{sync.Seek, (*tale).seeks}
}

// giving is Give.
func giving(block int) deed {
	c := func(n api.Node) (api.Node, []api.Out) { return sync.Give(n, block) }
	return deed{c, func(s *tale) {
		data := s.Store.Disk.Sure[block+2]
		for _, w := range s.Store.Disk.Cache {
			if w.Sector == block+2 {
				data = w.Data
			}
		}
		s.sends(6, append([]byte{byte(block)}, data...)...)
	}}
}

// getting is Got.
func getting(block int, data string) deed {
	c := func(n api.Node) (api.Node, []api.Out) { return sync.Got(n, block, data) }
	return deed{c, func(s *tale) {
		if s.Wanted != block+1 {
			return
		}
		s.puts(block, data)
		s.wipes(block)
		if !s.over {
			s.Wanted = 0
		}
		s.sends(7, byte(block))
		s.seeks()
	}}
}

// copied is Copied.
func copied(block int) deed {
	c := func(n api.Node) (api.Node, []api.Out) { return sync.Copied(n, block) }
	return deed{c, func(s *tale) {
		if !(s.Req.On && s.Req.Block == block) {
			s.wipes(block)
		}
	}}
}

// ending is Ended.
func ending() deed {
	return deed{sync.Ended, func(s *tale) {
		b := s.Store.Super
		b.Vector = retired(b.Vector)
		b.Pri = s.Primary
		s.commits(b)
		if !s.over {
			s.State = api.StLinked
		}
		s.sends(9)
	}}
}

// done is Done.
func done() deed {
	c := func(n api.Node) (api.Node, []api.Out) { return sync.Done(n), nil }
	return deed{c, func(s *tale) { s.State = api.StLinked }}
}

// does: a call makes of a node what the words say, and leaves what was handed in as it was; so it does once more.
func does(t *testing.T, x deed, n api.Node) (api.Node, []api.Out) {
	t.Helper()
	s := tale{Node: n}
	x.words(&s)
	var got api.Node
	var outs []api.Out
	for range 2 {
		given := copyOf(n)
		got, outs = x.call(given)
		if !like(got, s.Node) || !slices.Equal(outs, s.outs) {
			t.Fatalf("%#v: %#v, %#v, not %#v, %#v", n, got, outs, s.Node, s.outs)
		}
		if !untouched(given, n) {
			t.Fatalf("%#v: changed to %#v", n, given)
		}
	}
	return got, outs
}

// eachKind goes through nodes of three blocks with each mask and each superblock's flags, each Id, each role that may be, a write that waits or none, and the other fields that say yes or no.
func eachKind(f func(api.Node)) {
	for flags := range 8 {
		for m := range uint32(8) {
			n := upOf(superOf(3, flags), m, api.StAlone)
			for bits := range 1 << 4 {
				n.Id = bits & 1
				n.Primary = bits&2 != 0
				n.Req.On = bits&4 != 0
				n.PeerPri, n.Asking, n.Minted = bits&8 != 0, bits&8 == 0, bits&8 != 0
				if n.Primary && n.Store.Super.Inc {
					continue
				}
				for n.Wanted = range 4 {
					f(n)
				}
			}
		}
	}
}

// asTarget: each call of a target of three blocks.
func asTarget(t *testing.T, n api.Node) {
	t.Helper()
	n.State = api.StTarget
	for _, x := range []deed{seeking(), getting(0, "abcdefgh"), getting(1, "abcdefgh"), getting(2, blockOf(3)), done()} {
		does(t, x, n)
	}
}

// asSource: each call of a source of three blocks.
func asSource(t *testing.T, n api.Node) {
	t.Helper()
	n.State = api.StSource
	for _, x := range []deed{giving(0), giving(1), giving(2), copied(0), copied(1), copied(2), ending()} {
		does(t, x, n)
	}
}

// P18.1: of nodes of each kind each call, of blocks that are wanted, or marked, and of such as aren't.
func TestEachKind(t *testing.T) {
	eachKind(func(n api.Node) {
		asTarget(t, n)
		asSource(t, n)
	})
}

// caches are some with which a store stays whole: nothing, a mask that isn't sure, and each part once more.
func caches(s api.Store) [][]api.Write {
	mark := api.Write{Sector: 1, Data: maskBytes(s.Mask)}
	super := api.Write{Data: superBytes(s.Super)}
	return [][]api.Write{nil, {mark}, {{Sector: 3, Data: "xxxxxxxx"}, {Data: "xxxx"}, mark, super, {Sector: 3, Data: "yyyyyyyy"}}}
}

// P18.1: wherever the fuse ends, whatever is in the cache: what was put out ahead of that stays, and nothing comes behind it.
func TestEachEnd(t *testing.T) {
	for flags := range 8 {
		for m := range uint32(8) {
			n := upOf(superOf(3, flags), m, api.StAlone)
			for _, n.Primary = range []bool{false, flags&1 == 0} {
				for _, n.Store.Disk.Cache = range caches(n.Store) {
					for n.Store.Disk.Fuse = range 8 {
						for n.Wanted = range 4 {
							asTarget(t, n)
						}
						n.Wanted = 0
						asSource(t, n)
					}
				}
			}
		}
	}
}

// P18.1: of each number of blocks each one is sought, given, put and wiped; behind it the next one is sought, or there is none.
func TestBlocks(t *testing.T) {
	for blocks := 1; blocks <= api.MaxBlocks; blocks++ {
		full := uint32(1<<blocks - 1)
		for i := range blocks {
			for _, m := range []uint32{0, 1 << i, full, full >> i << i, full &^ (1 << i), full >> i} {
				n := targetOf(blocks, m)
				does(t, seeking(), n)
				does(t, getting(i, "abcdefgh"), n)
				n.Wanted = i + 1
				does(t, seeking(), n)
				does(t, getting(i, "abcdefgh"), n)
				does(t, getting((i+1)%blocks, "abcdefgh"), n)
				n = sourceOf(blocks, m)
				does(t, giving(i), n)
				does(t, copied(i), n)
				n.Req = api.Request{On: true, Id: 6, Block: i, Data: "abcdefgh"}
				does(t, giving(i), n)
				does(t, copied(i), n)
				does(t, copied((i+1)%blocks), n)
				does(t, ending(), n)
			}
		}
	}
}

// numbers are the edges of an int, and some between; most are of no block.
func numbers() []int {
	return []int{math.MinInt, math.MinInt32, -2, -1, 0, 1, 2, 3, 4, 31, 32, 33, 64, 255, 256, math.MaxInt32, 1 << 32, 1<<32 + 1, 1<<32 + 2, math.MaxInt}
}

// P18.1: just the block that is wanted is put, whatever number stands there; as long as one does, none is sought.
func TestWanted(t *testing.T) {
	for _, wanted := range numbers() {
		for _, flags := range []int{0, 1} {
			n := upOf(superOf(3, flags), 6, api.StTarget)
			n.Wanted = wanted
			asTarget(t, n)
			if got, outs := sync.Seek(n); wanted != 0 && (!like(got, n) || len(outs) != 0) {
				t.Fatal(wanted, got, outs)
			}
		}
	}
}

// P18.1: a write that waits is of just the block that it says, be there such a one or not; only if it waits its block stays marked.
func TestWaits(t *testing.T) {
	for _, block := range numbers() {
		for _, on := range []bool{false, true} {
			n := sourceOf(3, 7)
			n.Req = api.Request{On: on, Id: block ^ 1, Block: block, Data: "abcdefgh"}
			asSource(t, n)
		}
	}
}

// P18.1: data of eight bytes are put and given as they are, bytes of all kinds.
func TestData(t *testing.T) {
	for _, data := range []string{"\x00\x00\x00\x00\x00\x00\x00\x00", "\xff\xfe\x00\xc3\x28\x80ab", "01234567", strings.Repeat("\u00e9", 4), strings.Repeat("\xff", 8), blockOf(2)} {
		n := targetOf(3, 7)
		n.Wanted = 2
		got, _ := does(t, getting(1, data), n)
		if got.Store.Disk.Sure[3] != data {
			t.Fatalf("%q: %q", data, got.Store.Disk.Sure[3])
		}
		n = sourceOf(3, 7)
		n.Store.Disk.Sure[3] = data
		does(t, giving(1), n)
		n.Store.Disk.Cache = []api.Write{{Sector: 3, Data: "xxxxxxxx"}, {Sector: 3, Data: data}, {Sector: 4, Data: "yyyyyyyy"}}
		_, outs := does(t, giving(1), n)
		if len(outs) != 1 || !strings.Contains(outs[0].Data, data) {
			t.Fatalf("%q: %v", data, outs)
		}
	}
}

// P18.1: what is sent is of the session that there is.
func TestSessions(t *testing.T) {
	for _, session := range []uint64{0, 1, 255, 256, math.MaxUint32, 1 << 32, 1<<63 - 1, 1 << 63, math.MaxUint64} {
		for _, m := range []uint32{0, 2, 6} {
			n := targetOf(3, m)
			n.Session = session
			does(t, seeking(), n)
			n.Wanted = 2
			does(t, getting(1, "abcdefgh"), n)
			n = sourceOf(3, m)
			n.Session = session
			asSource(t, n)
		}
	}
}

// vectors are all of few generations.
func vectors() []api.Vector {
	few := []uint64{0, 1, 9, math.MaxUint64}
	var l []api.Vector
	for _, current := range few {
		for _, bitmap := range few {
			for _, first := range few {
				for _, second := range few {
					l = append(l, api.Vector{Current: current, Bitmap: bitmap, Old: [2]uint64{first, second}})
				}
			}
		}
	}
	return l
}

// P18.1: behind the last block a target is of the generations that its peer told, whatever its own are; of one that told none it goes down.
func TestEndsAsPeer(t *testing.T) {
	for _, v := range vectors() {
		for flags := 1; flags < 8; flags += 2 {
			n := upOf(superOf(3, flags), 0, api.StTarget)
			n.Peer.Vector = v
			for _, n.Store.Disk.Fuse = range []int{0, 2, 3, 6} {
				n.Wanted = 0
				got, outs := does(t, seeking(), n)
				if got.Up && (len(outs) != 1 || got.Store.Super.Inc || got.Store.Super.Vector.Current != v.Current) {
					t.Fatal(v, got, outs)
				}
				n.Wanted = 2
				got, outs = does(t, getting(1, "abcdefgh"), n)
				if v.Current == 0 && (got.Up || n.Store.Disk.Fuse != 2 && len(outs) != 1) {
					t.Fatal(v, got, outs)
				}
			}
		}
	}
}

// P18.1: nothing but its generations counts of what the peer told.
func TestPeerTold(t *testing.T) {
	for _, blocks := range []int{math.MinInt, 0, 1, 3, 32, 33} {
		for flags := range 16 {
			n := targetOf(3, 0)
			n.Peer = api.Hello{Blocks: blocks, Vector: n.Peer.Vector, Inc: flags&1 != 0, Was: flags&2 != 0, Dis: flags&4 != 0, Pri: flags&8 != 0, Mask: math.MaxUint32}
			n.Wanted = 1
			asTarget(t, n)
			n.Wanted = 0
			asTarget(t, n)
		}
	}
}

// P18.1: a source retires its own mask's generation, whatever its peer told; where its superblock says so already, no fuse is burnt.
func TestEndedVectors(t *testing.T) {
	for _, v := range vectors() {
		if v.Current == 0 {
			continue
		}
		for flags := range 8 {
			b := superOf(3, flags)
			b.Vector = v
			n := upOf(b, 4, api.StSource)
			for _, n.Primary = range []bool{false, !b.Inc} {
				for n.Store.Disk.Fuse = range 4 {
					got, _ := does(t, ending(), n)
					if still := v.Bitmap == 0 && b.Pri == n.Primary; still && (!got.Up || got.Store.Disk.Fuse != n.Store.Disk.Fuse) {
						t.Fatal(v, got)
					}
				}
			}
		}
	}
}

// P18.1: two answers of one node don't disturb each other, though they share memory.
func TestTwoAnswers(t *testing.T) {
	n := copyOf(targetOf(3, 7))
	n.Wanted = 1
	a, outs := sync.Got(n, 0, "aaaaaaaa")
	want, said := copyOf(a), slices.Clone(outs)
	b, _ := sync.Got(n, 0, "bbbbbbbb")
	sync.Got(a, 1, "cccccccc")
	sync.Got(b, 1, "dddddddd")
	if !like(a, want) || !slices.Equal(outs, said) {
		t.Errorf("%#v, %#v, not %#v, %#v", a, outs, want, said)
	}
	n = copyOf(sourceOf(3, 7))
	a, _ = sync.Copied(n, 0)
	want = copyOf(a)
	b, _ = sync.Copied(n, 1)
	sync.Copied(a, 2)
	sync.Ended(a)
	sync.Copied(b, 2)
	if !like(a, want) {
		t.Errorf("%#v, not %#v", a, want)
	}
}

// P18.1: whatever a node that is down has beside its disk, its calls end.
func TestDownEnds(t *testing.T) {
	ends := func(n api.Node) {
		for i := range 3 {
			for _, x := range []deed{seeking(), getting(i, "abcdefgh"), done(), giving(i), copied(i), ending()} {
				x.call(n)
			}
		}
	}
	eachKind(func(n api.Node) {
		n.Up = false
		for _, n.State = range []int{api.StSource, api.StTarget} {
			ends(node.Down(n))
			for _, n.Store.Disk.Dead = range []bool{false, true} {
				ends(n)
			}
			n.Store = api.Store{Disk: api.Disk{Sure: []string{"x"}}, Super: n.Store.Super, Mask: math.MaxUint32}
			ends(n)
		}
	})
}
