package node_test

import (
	"encoding/binary"
	"hash/fnv"
	"math"
	"reflect"
	"slices"
	"strconv"
	"strings"
	"testing"

	"gemination/api"
	"gemination/area"
	"gemination/bits"
	"gemination/disk"
	"gemination/meta"
	"gemination/node"
	"gemination/store"
	"gemination/super"
)

// superOf has unlike generations, and flags by the bits of a number: Inc, Pri, Dis.
func superOf(blocks, flags int) api.Super {
	v := api.Vector{Current: 9, Bitmap: 7, Old: [2]uint64{5, 3}}
	return api.Super{Blocks: blocks, Vector: v, Inc: flags&1 != 0, Pri: flags&2 != 0, Dis: flags&4 != 0}
}

// blockOf is eight bytes that tell a number.
func blockOf(n int) string {
	return string(binary.BigEndian.AppendUint64(nil, uint64(n)*0x0102030405060709))
}

// superWrite is what a commit writes.
func superWrite(t *testing.T, b api.Super) api.Write {
	t.Helper()
	data, e := super.Encode(b)
	if e != api.OK {
		t.Fatal(b, e)
	}
	return api.Write{Sector: 0, Data: data}
}

// diskOf is a disk of that superblock and that mask, each block with data of its own, and all sure.
func diskOf(t *testing.T, b api.Super, m uint32) api.Disk {
	t.Helper()
	d, e := area.Format(b.Blocks, 7)
	for i := range b.Blocks {
		if e == api.OK {
			d, e = area.Put(d, i, blockOf(i+1))
		}
	}
	if e == api.OK {
		d, e = meta.Commit(d, b)
	}
	if e == api.OK {
		d, e = bits.Save(d, m)
	}
	if e != api.OK {
		t.Fatal(b, m, e)
	}
	return d
}

// upOf is a node with all its fields set, up with a store of that superblock and that mask, alone, and not primary.
func upOf(t *testing.T, b api.Super, m uint32) api.Node {
	t.Helper()
	return api.Node{
		Id:      1,
		Up:      true,
		Store:   api.Store{Disk: diskOf(t, b, m), Super: b, Mask: m},
		Session: 0x0102030405060708,
		Peer:    api.Hello{Blocks: 2, Vector: api.Vector{Current: 4, Old: [2]uint64{2, 1}}, Was: true, Mask: 3},
		Req:     api.Request{Id: 31, Block: 1, Data: "12345678"},
		AskId:   32,
		Wanted:  2,
		Minted:  true,
		Draws:   []uint64{21, 22, 0},
		Mints:   []api.Mint{{Gen: 9, Parent: 7, Node: 1}, {Gen: 7, Parent: 5}},
	}
}

// all is what is in a list, by just one kind of list for none.
func all[T any](l []T) []T {
	return append([]T{}, l...)
}

// flat is a node with lists that are nil nowhere.
func flat(n api.Node) api.Node {
	n.Store.Disk.Sure, n.Store.Disk.Cache = all(n.Store.Disk.Sure), all(n.Store.Disk.Cache)
	n.Draws, n.Mints = all(n.Draws), all(n.Mints)
	return n
}

// like tells whether two nodes are the same, part by part, without the package's own Same.
func like(a, b api.Node) bool {
	return reflect.DeepEqual(flat(a), flat(b))
}

// roomy has what is in a list, and filled room behind it, so that who writes there is seen.
func roomy[T any](l []T, spare T) []T {
	return append(slices.Clone(l), spare, spare)[:len(l)]
}

// copyOf shares no memory with a node.
func copyOf(n api.Node) api.Node {
	d := &n.Store.Disk
	d.Sure = roomy(d.Sure, "spare")
	d.Cache = roomy(d.Cache, api.Write{Sector: 77, Data: "spare"})
	n.Draws = roomy(n.Draws, 771)
	n.Mints = roomy(n.Mints, api.Mint{Gen: 772})
	return n
}

// filled tells whether a list that roomy made is as it was, the room behind it, too.
func filled[T comparable](l, was []T, spare T) bool {
	return slices.Equal(l[:len(was)+2], roomy(was, spare)[:len(was)+2])
}

// untouched tells whether a node that copyOf made is as it was, its spare room, too.
func untouched(given, n api.Node) bool {
	d, was := given.Store.Disk, n.Store.Disk
	return like(given, n) && filled(d.Sure, was.Sure, "spare") && filled(d.Cache, was.Cache, api.Write{Sector: 77, Data: "spare"}) &&
		filled(given.Draws, n.Draws, 771) && filled(given.Mints, n.Mints, api.Mint{Gen: 772})
}

// mayBe tells whether a node may be, by the chapter's words.
func mayBe(n api.Node) bool {
	if n.Id != 0 && n.Id != 1 {
		return false
	}
	if !n.Up {
		return disk.Right(n.Store.Disk)
	}
	s, e := store.Attach(n.Store.Disk)
	return e == api.OK && s.Super == n.Store.Super && s.Mask == n.Store.Mask && n.State >= 0 && n.State <= 4 && !(n.Primary && s.Super.Inc)
}

// laid is the sectors of a disk once writes have come to them, one by one.
func laid(d api.Disk, writes ...api.Write) []string {
	l := slices.Clone(d.Sure)
	for _, w := range writes {
		l[w.Sector] = w.Data
	}
	return l
}

// fallen is a node that went down, with that cache.
func fallen(n api.Node, cache []api.Write) api.Node {
	d := api.Disk{Sure: n.Store.Disk.Sure, Cache: cache, Dead: true}
	return api.Node{Id: n.Id, Store: api.Store{Disk: d}, Draws: n.Draws, Mints: n.Mints}
}

// committed is what a commit makes of a node, and whether that stays up; what stands there already burns no fuse.
func committed(t *testing.T, n api.Node, b api.Super) (api.Node, bool) {
	t.Helper()
	if b == n.Store.Super {
		return n, true
	}
	d := n.Store.Disk
	wrote := append(slices.Clone(d.Cache), superWrite(t, b))
	switch d.Fuse {
	case 1:
		return fallen(n, d.Cache), false
	case 2:
		return fallen(n, wrote), false
	}
	n.Store.Disk = api.Disk{Sure: laid(d, wrote...), Fuse: max(d.Fuse-2, 0)}
	n.Store.Super = b
	return n, true
}

// reply is an output, as it is put out to what was asked.
func reply(n api.Node, id int, e api.Errno, data string) api.Out {
	return api.Out{Kind: api.OutReply, Node: n.Id, Id: id, Err: e, Data: data}
}

// sent is an output of a packet without fields; its bytes are written without the packages of the program.
func sent(n api.Node, kind byte) api.Out {
	b := binary.BigEndian.AppendUint64([]byte{kind}, n.Session)
	h := fnv.New32a()
	h.Write(b)
	return api.Out{Kind: api.OutPacket, Node: n.Id, Data: string(h.Sum(b))}
}

// bar is a case, and the error that is replied in it.
type bar struct {
	holds bool
	e     api.Errno
}

// firstOf is the error of the first case that holds.
func firstOf(l ...bar) api.Errno {
	for _, b := range l {
		if b.holds {
			return b.e
		}
	}
	return api.OK
}

// call is one of a node, with all but the node; asked is what the chapter makes of it.
type call func(api.Node) (api.Node, []api.Out)
type asked func(*testing.T, api.Node) (api.Node, []api.Out)

func promoting(id int) call {
	return func(n api.Node) (api.Node, []api.Out) { return node.Promote(n, id) }
}

func demoting(id int) call {
	return func(n api.Node) (api.Node, []api.Out) { return node.Demote(n, id) }
}

func discarding(id int) call {
	return func(n api.Node) (api.Node, []api.Out) { return node.Discard(n, id) }
}

func reading(id, block int) call {
	return func(n api.Node) (api.Node, []api.Out) { return node.Read(n, id, block) }
}

// promoted is what the chapter's words make of a promotion.
func promoted(id int) asked {
	return func(t *testing.T, n api.Node) (api.Node, []api.Out) {
		b := n.Store.Super
		e := firstOf(bar{!n.Up, api.ErrDown}, bar{n.Primary, api.ErrRole}, bar{b.Inc, api.ErrInc}, bar{b.Dis, api.ErrDis},
			bar{n.State == api.StGreet, api.ErrBusy}, bar{n.State == api.StTarget, api.ErrBusy}, bar{n.Asking, api.ErrBusy}, bar{n.PeerPri, api.ErrPeer})
		if e != api.OK {
			return n, []api.Out{reply(n, id, e, "")}
		}
		if n.State != api.StAlone {
			n.Asking, n.AskId = true, id
			return n, []api.Out{sent(n, 10)}
		}
		b.Pri = true
		n, up := committed(t, n, b)
		if !up {
			return n, nil
		}
		n.Primary = true
		return n, []api.Out{reply(n, id, api.OK, "")}
	}
}

// demoted is what the chapter's words make of a demotion.
func demoted(id int) asked {
	return func(t *testing.T, n api.Node) (api.Node, []api.Out) {
		e := firstOf(bar{!n.Up, api.ErrDown}, bar{!n.Primary, api.ErrRole}, bar{n.Req.On, api.ErrBusy}, bar{n.State == api.StGreet, api.ErrBusy})
		if e != api.OK {
			return n, []api.Out{reply(n, id, e, "")}
		}
		b := n.Store.Super
		b.Pri = false
		n, up := committed(t, n, b)
		if !up {
			return n, nil
		}
		n.Primary = false
		if n.State == api.StLinked || n.State == api.StSource {
			return n, []api.Out{sent(n, 13), reply(n, id, api.OK, "")}
		}
		return n, []api.Out{reply(n, id, api.OK, "")}
	}
}

// discarded is what the chapter's words make of a discarding.
func discarded(id int) asked {
	return func(t *testing.T, n api.Node) (api.Node, []api.Out) {
		e := firstOf(bar{!n.Up, api.ErrDown}, bar{n.Primary, api.ErrRole}, bar{n.State != api.StAlone, api.ErrBusy})
		if e != api.OK {
			return n, []api.Out{reply(n, id, e, "")}
		}
		b := n.Store.Super
		b.Dis = true
		n, up := committed(t, n, b)
		if !up {
			return n, nil
		}
		return n, []api.Out{reply(n, id, api.OK, "")}
	}
}

// read is what the chapter's words make of a reading of such a block; without data there is none.
func read(id int, data string) asked {
	return func(t *testing.T, n api.Node) (api.Node, []api.Out) {
		e := firstOf(bar{!n.Up, api.ErrDown}, bar{!n.Primary, api.ErrRole}, bar{data == "", api.ErrRange})
		if e != api.OK {
			data = ""
		}
		return n, []api.Out{reply(n, id, e, data)}
	}
}

// does: a call makes of a node what is asked, and leaves what was handed in as it was; so it does once more.
func does(t *testing.T, c call, a asked, n api.Node) {
	t.Helper()
	want, outs := a(t, n)
	for range 2 {
		given := copyOf(n)
		got, put := c(given)
		if !like(got, want) || !slices.Equal(put, outs) {
			t.Fatalf("%#v: %#v, %#v, not %#v, %#v", n, got, put, want, outs)
		}
		if !untouched(given, n) {
			t.Fatalf("%#v: changed to %#v", n, given)
		}
		if !mayBe(got) {
			t.Fatalf("%#v: may not be: %#v", n, got)
		}
	}
}

// caches are some with which a store stays whole: nothing, a mask that isn't sure, and each part once more.
func caches(t *testing.T, s api.Store) [][]api.Write {
	t.Helper()
	noted, e := bits.Note(s.Disk, s.Mask)
	if e != api.OK {
		t.Fatal(e)
	}
	mark := noted.Cache[len(noted.Cache)-1]
	return [][]api.Write{nil, {mark}, {{Sector: 2, Data: blockOf(8)}, superWrite(t, superOf(s.Super.Blocks, 0)), mark, superWrite(t, s.Super)}}
}

// eachKind goes through nodes of two blocks with all that may be of Id, Up, Primary, State, PeerPri, Asking, a write that waits, and a superblock's flags.
func eachKind(t *testing.T, f func(api.Node)) {
	t.Helper()
	for flags := range 8 {
		n := upOf(t, superOf(2, flags), 2)
		for bits := range 1 << 6 {
			n.Id = bits & 1
			n.Up = bits&2 != 0
			n.Primary = bits&4 != 0
			n.PeerPri = bits&8 != 0
			n.Asking = bits&16 != 0
			n.Req.On = bits&32 != 0
			if n.Up && n.Primary && n.Store.Super.Inc {
				continue
			}
			for n.State = range 5 {
				f(n)
			}
		}
	}
}

// P16.1, P16.2: of nodes of each kind each call, whatever is in the cache, at each end of the fuse.
func TestEachKind(t *testing.T) {
	eachKind(t, func(n api.Node) {
		for _, cache := range caches(t, n.Store) {
			n.Store.Disk.Cache = cache
			data, e := area.Read(n.Store.Disk, 1)
			if e != api.OK {
				t.Fatal(e)
			}
			for _, fuse := range []int{0, 1, 2, 3, 9} {
				n.Store.Disk.Fuse = fuse
				does(t, promoting(41), promoted(41), n)
				does(t, demoting(42), demoted(42), n)
				does(t, discarding(43), discarded(43), n)
				does(t, reading(44, 1), read(44, data), n)
				does(t, reading(45, 2), read(45, ""), n)
			}
		}
	})
}

// numbers are of whoever asked: the edges of their types, and some between.
func numbers() []int {
	return []int{math.MinInt, math.MinInt32, -1, 0, 1, 2, 255, 256, math.MaxInt32, 1 << 32, 1<<32 + 1, math.MaxInt}
}

// P16.1: whoever asks is replied by just that number, and asked for by it.
func TestIds(t *testing.T) {
	for _, id := range numbers() {
		n := upOf(t, superOf(2, 0), 0)
		for n.State = range 5 {
			for n.Primary = range bools() {
				does(t, promoting(id), promoted(id), n)
				does(t, demoting(id), demoted(id), n)
				does(t, discarding(id), discarded(id), n)
				does(t, reading(id, 0), read(id, blockOf(1)), n)
				does(t, reading(id, -1), read(id, ""), n)
			}
		}
	}
}

// bools goes through both.
func bools() func(func(bool) bool) {
	return func(yield func(bool) bool) { _ = yield(false) && yield(true) }
}

// P16.1: what is sent is of the session that there is.
func TestSessions(t *testing.T) {
	n := upOf(t, superOf(2, 0), 0)
	for _, n.State = range []int{api.StLinked, api.StSource} {
		for _, n.Session = range []uint64{0, 1, 255, 256, math.MaxUint32, 1 << 32, 1<<63 - 1, 1 << 63, math.MaxUint64} {
			for n.Primary = range bools() {
				does(t, promoting(3), promoted(3), n)
				does(t, demoting(4), demoted(4), n)
			}
		}
	}
}

// P16.1: a primary reads each block of each number of them, whatever it is doing, and none else; no fuse is burnt.
func TestRead(t *testing.T) {
	for blocks := 1; blocks <= api.MaxBlocks; blocks++ {
		n := upOf(t, superOf(blocks, 2), 1)
		n.Primary = true
		n.Store.Disk.Fuse = blocks % 3
		for n.State = range 5 {
			for i := range blocks {
				does(t, reading(5, i), read(5, blockOf(i+1)), n)
			}
			for _, i := range append(numbers(), -2, -blocks, 32, 33, 64) {
				if i < 0 || i >= blocks {
					does(t, reading(5, i), read(5, ""), n)
				}
			}
			does(t, reading(5, blocks), read(5, ""), n)
		}
	}
}

// P16.1: data are told as they are, bytes of all kinds.
func TestReadAnyBytes(t *testing.T) {
	n := upOf(t, superOf(3, 0), 0)
	n.Primary = true
	for _, data := range []string{"\x00\x00\x00\x00\x00\x00\x00\x00", "\xff\xfe\x00\xc3\x28\x80ab", "01234567", strings.Repeat("\u00e9", 4)} {
		n.Store.Disk.Cache = []api.Write{{Sector: 3, Data: data}}
		does(t, reading(6, 1), read(6, data), n)
		does(t, reading(6, 2), read(6, blockOf(3)), n)
	}
}

// P16.1: of all nodes only their number, their disk's sectors and cache, their draws and their mints stay when they go down.
func TestDown(t *testing.T) {
	eachKind(t, func(n api.Node) {
		for _, cache := range caches(t, n.Store) {
			n.Store.Disk.Cache = cache
			for _, fuse := range []int{0, 1, 7} {
				n.Store.Disk.Fuse = fuse
				for n.Store.Disk.Dead = range bools() {
					if n.Up && n.Store.Disk.Dead {
						continue
					}
					given := copyOf(n)
					got := node.Down(given)
					if !like(got, fallen(n, cache)) || !untouched(given, n) {
						t.Fatalf("%#v: %#v, %#v", n, got, given)
					}
				}
			}
		}
	})
}

// attaches: what comes of an Attach, and its error; what was handed in stays as it was.
func attaches(t *testing.T, n api.Node, keeps []bool, want api.Node, e api.Errno) {
	t.Helper()
	given, kept := copyOf(n), roomy(keeps, true)
	got, f := node.Attach(given, kept...)
	if f != e || !like(got, want) {
		t.Fatalf("%#v, kept %v: %#v, %d, not %#v, %d", n, keeps, got, f, want, e)
	}
	if !untouched(given, n) || !filled(kept, keeps, true) {
		t.Fatalf("%#v, kept %v: changed to %#v, %v", n, keeps, given, kept)
	}
	if !mayBe(got) {
		t.Fatalf("%#v, kept %v: may not be: %#v", n, keeps, got)
	}
}

// keepsOf is all lists of just so many keeps, and some that are shorter or longer.
func keepsOf(n int) [][]bool {
	l := [][]bool{nil, {true}, {false, true}, slices.Repeat([]bool{true}, n+3)}
	for bits := range 1 << n {
		keeps := make([]bool, n)
		for i := range keeps {
			keeps[i] = bits>>i&1 == 1
		}
		l = append(l, keeps)
	}
	return l
}

// P16.1: who is up is told so, and is as it was, whatever is kept.
func TestAttachUp(t *testing.T) {
	eachKind(t, func(n api.Node) {
		if n.Up {
			for _, cache := range caches(t, n.Store) {
				n.Store.Disk.Cache = cache
				for _, fuse := range []int{0, 1, 5} {
					n.Store.Disk.Fuse = fuse
					attaches(t, n, nil, n, api.ErrDown)
					attaches(t, n, []bool{true, false, true, true}, n, api.ErrDown)
				}
			}
		}
	})
}

// P16.1: who is down comes up with what its disk is behind the revival, alone, not primary; what isn't named stays as it was.
func TestAttachDown(t *testing.T) {
	old, next := superOf(2, 4), superOf(2, 2)
	noted, e := bits.Note(diskOf(t, old, 1), 2)
	if e != api.OK {
		t.Fatal(e)
	}
	cache := append(noted.Cache, superWrite(t, next), api.Write{Sector: 3, Data: "abcdefgh"})
	eachKind(t, func(n api.Node) {
		n.Up = false
		n.Store.Disk = api.Disk{Sure: noted.Sure, Cache: cache, Fuse: 3}
		for n.Store.Disk.Dead = range bools() {
			for _, keeps := range keepsOf(len(cache)) {
				want := n
				want.Up, want.State, want.Primary = true, api.StAlone, false
				want.Store = api.Store{Disk: api.Disk{Sure: slices.Clone(noted.Sure)}, Super: old, Mask: 1}
				for i, w := range cache[:min(len(keeps), len(cache))] {
					if !keeps[i] {
						continue
					}
					want.Store.Disk.Sure[w.Sector] = w.Data
					switch w.Sector {
					case 0:
						want.Store.Super = next
					case 1:
						want.Store.Mask = 2
					}
				}
				attaches(t, n, keeps, want, api.OK)
			}
		}
	})
}

// P16.1: who goes down and comes up has all but what it was doing.
func TestAttachWhoWentDown(t *testing.T) {
	eachKind(t, func(n api.Node) {
		want := api.Node{Id: n.Id, Up: true, Store: n.Store, Draws: n.Draws, Mints: n.Mints}
		attaches(t, node.Down(n), nil, want, api.OK)
	})
}

// P16.1: each part that is wrong on the revived disk has its error, that part that stands first; the node is as it was but for that disk.
func TestAttachWrong(t *testing.T) {
	n := upOf(t, superOf(2, 0), 1)
	good := n.Store.Disk
	n.Up, n.State, n.Primary, n.PeerPri, n.Asking = false, api.StSource, true, true, true
	for _, x := range []struct {
		w api.Write
		e api.Errno
	}{
		{api.Write{Sector: 0}, api.ErrForm}, {api.Write{Sector: 0, Data: "x"}, api.ErrForm}, {api.Write{Sector: 0, Data: "xxxx"}, api.ErrCheck}, {superWrite(t, superOf(3, 0)), api.ErrForm},
		{api.Write{Sector: 1}, api.ErrForm}, {api.Write{Sector: 1, Data: "xxxx"}, api.ErrCheck},
		{api.Write{Sector: 2}, api.ErrForm}, {api.Write{Sector: 3, Data: "1234567"}, api.ErrForm}, {api.Write{Sector: 3, Data: "123456789"}, api.ErrForm},
	} {
		wrong := api.Disk{Sure: laid(good, x.w)}
		want := n
		want.Store.Disk = wrong
		for n.Store.Disk.Dead = range bools() {
			n.Store.Disk = api.Disk{Sure: wrong.Sure, Fuse: 2, Dead: n.Store.Disk.Dead}
			attaches(t, n, nil, want, x.e)
			attaches(t, n, []bool{true}, want, x.e)
			// Wrong in the cache alone, and right in the cache alone: what is kept tells.
			n.Store.Disk = api.Disk{Sure: good.Sure, Cache: []api.Write{x.w}, Dead: n.Store.Disk.Dead}
			attaches(t, n, []bool{true}, want, x.e)
			mend := api.Write{Sector: x.w.Sector, Data: good.Sure[x.w.Sector]}
			n.Store.Disk = api.Disk{Sure: wrong.Sure, Cache: []api.Write{mend}, Dead: n.Store.Disk.Dead}
			attaches(t, n, []bool{false, true}, want, x.e)
			up := n
			up.Up, up.State, up.Primary = true, api.StAlone, false
			up.Store = api.Store{Disk: good, Super: superOf(2, 0), Mask: 1}
			attaches(t, n, []bool{true}, up, api.OK)
		}
	}
	n.Store.Disk = api.Disk{Sure: []string{"xxxx", "x", "x", ""}, Dead: true}
	want := n
	want.Store.Disk.Dead = false
	attaches(t, n, nil, want, api.ErrCheck)
	n.Store.Disk.Sure = []string{""}
	want.Store.Disk.Sure = []string{""}
	attaches(t, n, nil, want, api.ErrForm)
}

// others is a thing with each single part of it, however deep, changed, one at a time; a list gets one part more, too.
func others(v reflect.Value, path string, f func(string)) {
	switch v.Kind() {
	case reflect.Struct:
		for i := range v.NumField() {
			others(v.Field(i), path+"."+v.Type().Field(i).Name, f)
		}
		return
	case reflect.Slice:
		was := reflect.ValueOf(v.Interface())
		v.Set(reflect.AppendSlice(reflect.MakeSlice(v.Type(), 0, 9), was))
		for i := range v.Len() {
			others(v.Index(i), path+"["+strconv.Itoa(i)+"]", f)
		}
		v.Set(reflect.Append(v, reflect.Zero(v.Type().Elem())))
		f(path + " with one more")
		v.Set(was)
		return
	case reflect.Array:
		for i := range v.Len() {
			others(v.Index(i), path+"["+strconv.Itoa(i)+"]", f)
		}
		return
	}
	was := reflect.ValueOf(v.Interface())
	switch v.Kind() {
	case reflect.Bool:
		v.SetBool(!v.Bool())
	case reflect.String:
		v.SetString(v.String() + "x")
	case reflect.Int:
		v.SetInt(v.Int() ^ 1<<40)
	case reflect.Uint32:
		v.SetUint(v.Uint() ^ 1<<31)
	default:
		v.SetUint(v.Uint() ^ 1<<63)
	}
	f(path)
	v.Set(was)
}

// P16.1: nodes are the same if each part is, whether they may be or not; a list that holds nothing may be none.
func TestSame(t *testing.T) {
	full := upOf(t, superOf(3, 5), 2)
	full.Store.Disk.Cache = []api.Write{{Sector: 1, Data: "a"}, {Sector: 9, Data: "b"}}
	full.Req.On, full.Id, full.State, full.Primary = true, -3, 77, true
	for _, n := range []api.Node{full, {}, upOf(t, superOf(1, 0), 0), node.Down(full)} {
		parts := 0
		x := copyOf(n)
		others(reflect.ValueOf(&x).Elem(), "", func(path string) {
			parts++
			if node.Same(n, x) || node.Same(x, n) {
				t.Errorf("with another %s: the same", path)
			}
		})
		// So many single parts has a node whose lists hold nothing.
		if parts < 39 {
			t.Error("too few parts:", parts)
		}
		a, b := copyOf(n), copyOf(n)
		if !node.Same(a, b) || !node.Same(x, n) || !untouched(a, n) || !untouched(b, n) {
			t.Errorf("%#v: not the same", n)
		}
	}
	empty := flat(api.Node{})
	if !node.Same(api.Node{}, empty) || !node.Same(empty, api.Node{}) {
		t.Error("none, and empty")
	}
	a, b := api.Node{Draws: []uint64{1, 2}}, api.Node{Draws: []uint64{2, 1}}
	if node.Same(a, b) {
		t.Error("in another order")
	}
}
