package store_test

import (
	"encoding/binary"
	"hash/fnv"
	"math"
	"slices"
	"strings"
	"testing"

	"gemination/api"
	"gemination/area"
	"gemination/store"
)

// first is the sector of the block 0; ahead of it stand the superblock and the mask.
const first = 2

// sealed is a text with its sum behind it, written without the packages of the program.
func sealed(text string) string {
	h := fnv.New32a()
	h.Write([]byte(text))
	return string(h.Sum([]byte(text)))
}

// superBytes is a superblock's bytes, written without the packages of the program.
func superBytes(s api.Super) string {
	b := []byte{71, 77, 1, byte(s.Blocks), 0}
	for i, on := range []bool{s.Inc, s.Pri, s.Dis} {
		if on {
			b[4] |= 1 << i
		}
	}
	for _, g := range []uint64{s.Vector.Current, s.Vector.Bitmap, s.Vector.Old[0], s.Vector.Old[1]} {
		b = binary.BigEndian.AppendUint64(b, g)
	}
	return sealed(string(b))
}

// maskBytes is a mask's bytes, written without the packages of the program.
func maskBytes(m uint32) string {
	return sealed(string(binary.BigEndian.AppendUint32(nil, m)))
}

// superWrite, maskWrite and blockWrite are what the layers below write.
func superWrite(b api.Super) api.Write        { return api.Write{Sector: 0, Data: superBytes(b)} }
func maskWrite(m uint32) api.Write            { return api.Write{Sector: 1, Data: maskBytes(m)} }
func blockWrite(i int, data string) api.Write { return api.Write{Sector: i + first, Data: data} }

// blockOf is eight bytes that tell a number.
func blockOf(n int) string {
	return string(binary.BigEndian.AppendUint64(nil, uint64(n)*0x0102030405060709))
}

// superOf has unlike generations, and flags by the bits of a number.
func superOf(blocks, flags int) api.Super {
	v := api.Vector{Current: 9, Bitmap: 7, Old: [2]uint64{5, 3}}
	return api.Super{Blocks: blocks, Vector: v, Inc: flags&1 != 0, Pri: flags&2 != 0, Dis: flags&4 != 0}
}

// made is a whole store of that superblock and that mask, each block with data of its own, and all sure.
func made(b api.Super, m uint32) api.Store {
	d := api.Disk{Sure: []string{superBytes(b), maskBytes(m)}}
	for i := range b.Blocks {
		d.Sure = append(d.Sure, blockOf(i+1))
	}
	return api.Store{Disk: d, Super: b, Mask: m}
}

// laid is the sectors of a disk once writes have come to them, one by one, without the package disk.
func laid(d api.Disk, writes ...api.Write) []string {
	l := slices.Clone(d.Sure)
	for _, w := range writes {
		l[w.Sector] = w.Data
	}
	return l
}

// revived is a disk behind a crash, without the package disk.
func revived(d api.Disk, keeps []bool) api.Disk {
	var kept []api.Write
	for i, w := range d.Cache {
		if i < len(keeps) && keeps[i] {
			kept = append(kept, w)
		}
	}
	return api.Disk{Sure: laid(d, kept...)}
}

// keepsOf is all lists of just so many keeps, and some that are shorter or longer.
func keepsOf(n int) [][]bool {
	all := [][]bool{nil, slices.Repeat([]bool{true}, n+3)}
	for bits := range 1 << n {
		l := make([]bool, n)
		for i := range l {
			l[i] = bits>>i&1 == 1
		}
		all = append(all, l)
	}
	return all
}

// like tells whether two stores are the same, part by part, without the package's own Same.
func like(a, b api.Store) bool {
	x, y := a.Disk, b.Disk
	return slices.Equal(x.Sure, y.Sure) && slices.Equal(x.Cache, y.Cache) && x.Fuse == y.Fuse && x.Dead == y.Dead && a.Super == b.Super && a.Mask == b.Mask
}

// copyOf shares no memory with a store; it has spare room that is filled, so that who writes there is seen.
func copyOf(s api.Store) api.Store {
	s.Disk.Sure = append(slices.Clone(s.Disk.Sure), "spare", "spare")[:len(s.Disk.Sure)]
	s.Disk.Cache = append(slices.Clone(s.Disk.Cache), api.Write{Sector: 77, Data: "spare"}, api.Write{Sector: 78, Data: "spare"})[:len(s.Disk.Cache)]
	return s
}

// untouched tells whether a copy of a store is as it was made, its spare room, too.
func untouched(given, s api.Store) bool {
	g, x := given.Disk, copyOf(s).Disk
	return like(given, s) && slices.Equal(g.Sure[:len(g.Sure)+2], x.Sure[:len(x.Sure)+2]) && slices.Equal(g.Cache[:len(g.Cache)+2], x.Cache[:len(x.Cache)+2])
}

// whole tells whether a store is, by its sectors' bytes, without the packages of the program.
func whole(s api.Store) bool {
	d := s.Disk
	if d.Dead || d.Fuse < 0 || len(d.Sure) != s.Super.Blocks+first || uint64(s.Mask)>>s.Super.Blocks != 0 || s.Super.Vector.Current == 0 {
		return false
	}
	l := laid(d, d.Cache...)
	unlike := func(data string) bool { return len(data) != api.BlockBytes }
	return l[0] == superBytes(s.Super) && l[1] == maskBytes(s.Mask) && !slices.ContainsFunc(l[first:], unlike)
}

// caches are some with which that store stays whole: of each part nothing, what stands there, and other things below it.
func caches(s api.Store) [][]api.Write {
	top := s.Super.Blocks - 1
	return [][]api.Write{
		nil,
		{maskWrite(s.Mask)},
		{blockWrite(top, "in cache"), superWrite(s.Super)},
		{{Sector: 0, Data: "junk"}, maskWrite(0), blockWrite(0, ""), superWrite(s.Super), maskWrite(s.Mask), blockWrite(0, "\xff\xfe\x00\x00\xc3\x28ab")},
	}
}

// masks are of so many blocks: none, all, some, and each single one.
func masks(blocks int) []uint32 {
	all := uint32(1<<blocks - 1)
	l := []uint32{0, all, all & 0x55555555, all & 0x92492492, all >> 1}
	for i := range blocks {
		l = append(l, 1<<i)
	}
	return l
}

// noBlocks are numbers of blocks that no store of so many has; the low bits of many are those of one.
func noBlocks(blocks int) []int {
	l := []int{math.MinInt, math.MinInt + 1, math.MinInt32, -1 << 32, 1 << 32, 1<<32 + 1, math.MaxInt32, math.MaxInt - 2, math.MaxInt - 1, math.MaxInt}
	for i := -70; i < 0; i++ {
		l = append(l, i)
	}
	for i := blocks; i < 140; i++ {
		l = append(l, i)
	}
	return append(l, 255, 256, 257)
}

// call is one of a store, with all but the store.
type call func(api.Store) (api.Store, api.Errno)

func committing(b api.Super) call {
	return func(s api.Store) (api.Store, api.Errno) { return store.Commit(s, b) }
}

func marking(i int) call {
	return func(s api.Store) (api.Store, api.Errno) { return store.Mark(s, i) }
}

func wiping(i int) call {
	return func(s api.Store) (api.Store, api.Errno) { return store.Wipe(s, i) }
}

func joining(m uint32) call {
	return func(s api.Store) (api.Store, api.Errno) { return store.Join(s, m) }
}

func putting(i int, data string) call {
	return func(s api.Store) (api.Store, api.Errno) { return store.Put(s, i, data) }
}

// comes: what a call made of a store; what was handed in stays as it was.
func comes(t *testing.T, c call, s, want api.Store, e api.Errno) {
	t.Helper()
	given := copyOf(s)
	got, f := c(given)
	if f != e || !like(got, want) {
		t.Fatalf("%#v: %#v, %d, not %#v, %d", s, got, f, want, e)
	}
	if !untouched(given, s) {
		t.Fatalf("%#v: changed to %#v", s, given)
	}
	if e == api.OK && !whole(got) {
		t.Fatalf("%#v: not whole: %#v", s, got)
	}
}

// leaves: a call tells that, and the store is as it was; no fuse is burnt, whatever is in the cache.
func leaves(t *testing.T, c call, s api.Store, e api.Errno) {
	t.Helper()
	for _, cache := range caches(s) {
		for _, fuse := range []int{0, 1, 2, 3, math.MaxInt} {
			s.Disk.Cache, s.Disk.Fuse = cache, fuse
			comes(t, c, s, s, e)
		}
	}
}

// saves: a call writes that and flushes, by two operations of the fuse, whatever is in the cache; b and m stand behind it, or, where it ends between, what stood ahead.
func saves(t *testing.T, c call, s api.Store, w api.Write, b api.Super, m uint32) {
	t.Helper()
	for _, cache := range caches(s) {
		wrote := append(slices.Clone(cache), w)
		s.Disk.Cache = cache
		for _, fuse := range []int{0, 3, 4, 5, math.MaxInt} {
			s.Disk.Fuse = fuse
			comes(t, c, s, api.Store{Disk: api.Disk{Sure: laid(s.Disk, wrote...), Fuse: max(fuse-2, 0)}, Super: b, Mask: m}, api.OK)
		}
		want := s
		want.Disk = api.Disk{Sure: s.Disk.Sure, Cache: wrote, Dead: true}
		s.Disk.Fuse = 2
		comes(t, c, s, want, api.ErrDead)
		want.Disk.Cache = cache
		s.Disk.Fuse = 1
		comes(t, c, s, want, api.ErrDead)
	}
}

// notes: a call writes that mask by one operation of the fuse, at the end of the cache, and flushes nothing.
func notes(t *testing.T, c call, s api.Store, m uint32) {
	t.Helper()
	for _, cache := range caches(s) {
		wrote := append(slices.Clone(cache), maskWrite(m))
		s.Disk.Cache = cache
		for _, fuse := range []int{0, 2, 3, 4, math.MaxInt} {
			s.Disk.Fuse = fuse
			comes(t, c, s, api.Store{Disk: api.Disk{Sure: s.Disk.Sure, Cache: wrote, Fuse: max(fuse-1, 0)}, Super: s.Super, Mask: m}, api.OK)
		}
		want := s
		want.Disk = api.Disk{Sure: s.Disk.Sure, Cache: cache, Dead: true}
		s.Disk.Fuse = 1
		comes(t, c, s, want, api.ErrDead)
	}
}

// attaches: a disk is that store's, and stays as it was.
func attaches(t *testing.T, d api.Disk, want api.Store) {
	t.Helper()
	given := copyOf(api.Store{Disk: d})
	got, e := store.Attach(given.Disk)
	if e != api.OK || !like(got, want) || !whole(got) {
		t.Fatalf("%#v: %#v, %d, not %#v", d, got, e, want)
	}
	if !untouched(given, api.Store{Disk: d}) {
		t.Fatalf("%#v: changed to %#v", d, given.Disk)
	}
}

// attachesNot: a disk has that error, no store beside it, and stays as it was.
func attachesNot(t *testing.T, d api.Disk, want api.Errno) {
	t.Helper()
	given := copyOf(api.Store{Disk: d})
	got, e := store.Attach(given.Disk)
	if e != want || !like(got, api.Store{}) || !untouched(given, api.Store{Disk: d}) {
		t.Fatalf("%#v: %#v, %d, not %d", d, got, e, want)
	}
}

// P15.1: of each number of blocks, with all flags, and some masks: the disk, and what stands on it; no fuse is burnt.
func TestAttach(t *testing.T) {
	for blocks := 1; blocks <= api.MaxBlocks; blocks++ {
		for flags := range 8 {
			for _, m := range masks(blocks) {
				s := made(superOf(blocks, flags), m)
				for _, fuse := range []int{0, 1, 2, math.MaxInt} {
					s.Disk.Fuse = fuse
					attaches(t, s.Disk, s)
				}
			}
		}
	}
}

// P15.1: what stands in the cache counts, and stays there.
func TestAttachOfTheCache(t *testing.T) {
	for blocks := 1; blocks <= api.MaxBlocks; blocks++ {
		for _, m := range masks(blocks) {
			s := made(superOf(blocks, 0), m)
			for _, cache := range caches(s) {
				s.Disk.Cache = cache
				attaches(t, s.Disk, s)
			}
		}
	}
	s := made(superOf(3, 0), 5)
	s.Disk.Sure = []string{"", "junk", "a", "", "c"}
	s.Super.Inc, s.Mask = true, 4
	s.Disk.Cache = []api.Write{superWrite(superOf(3, 0)), blockWrite(0, "01234567"), maskWrite(s.Mask), blockWrite(2, "89abcdef"), superWrite(s.Super), blockWrite(1, "ghijklmn")}
	attaches(t, s.Disk, s)
}

// P15.1: a disk that was formatted is a fresh store.
func TestAttachFormatted(t *testing.T) {
	for blocks := 1; blocks <= api.MaxBlocks; blocks++ {
		d, e := area.Format(blocks, 7)
		if e != api.OK {
			t.Fatal(e)
		}
		attaches(t, d, api.Store{Disk: d, Super: api.Super{Blocks: blocks, Vector: api.Vector{Current: 7}}})
	}
}

// P15.1: each part that is wrong has its error, and of two the part that stands first; a dead disk says so ahead of all.
func TestAttachWrong(t *testing.T) {
	good := made(superOf(3, 0), 5).Disk
	type part struct {
		data string
		e    api.Errno
	}
	gone := superOf(3, 0)
	gone.Vector.Current = 0
	supers := []part{{good.Sure[0], api.OK}, {"", api.ErrForm}, {"abc", api.ErrForm}, {"junk", api.ErrCheck}, {good.Sure[0] + "\x00", api.ErrCheck}, {sealed(good.Sure[0]), api.ErrForm},
		{superBytes(superOf(2, 0)), api.ErrForm}, {superBytes(superOf(4, 0)), api.ErrForm}, {superBytes(superOf(0, 0)), api.ErrForm}, {superBytes(gone), api.ErrForm}, {maskBytes(5), api.ErrForm}}
	marks := []part{{good.Sure[1], api.OK}, {"", api.ErrForm}, {"abc", api.ErrForm}, {"junk", api.ErrCheck}, {good.Sure[1][:7], api.ErrCheck}, {sealed("\x05"), api.ErrForm},
		{maskBytes(8), api.ErrForm}, {maskBytes(1 << 31), api.ErrForm}, {good.Sure[0], api.ErrForm}}
	blocks := []part{{blockOf(5), api.OK}, {"", api.ErrForm}, {"1234567", api.ErrForm}, {"123456789", api.ErrForm}, {strings.Repeat("x", api.MaxSector), api.ErrForm}}
	for _, a := range supers {
		for _, b := range marks {
			for _, c := range blocks {
				for i := range 3 {
					d := api.Disk{Sure: laid(good, api.Write{Sector: 0, Data: a.data}, api.Write{Sector: 1, Data: b.data}, blockWrite(i, c.data))}
					e := a.e
					if e == api.OK {
						e = b.e
					}
					if e == api.OK {
						e = c.e
					}
					if e == api.OK {
						attaches(t, d, api.Store{Disk: d, Super: superOf(3, 0), Mask: 5})
					} else {
						attachesNot(t, d, e)
						cached := api.Disk{Sure: good.Sure, Cache: []api.Write{{Sector: 0, Data: a.data}, blockWrite(i, c.data), {Sector: 1, Data: b.data}}}
						attachesNot(t, cached, e)
					}
					d.Dead = true
					attachesNot(t, d, api.ErrDead)
				}
			}
		}
	}
}

// P15.1: a disk of another number of sectors than its superblock has blocks, and two, isn't attached.
func TestAttachOfEachSize(t *testing.T) {
	for sectors := 1; sectors <= api.MaxSectors; sectors++ {
		for blocks := 1; blocks <= api.MaxBlocks; blocks++ {
			s := made(superOf(blocks, 0), 1)
			d := api.Disk{Sure: slices.Repeat([]string{"12345678"}, sectors)}
			copy(d.Sure, s.Disk.Sure)
			if s.Disk = d; sectors == blocks+first {
				attaches(t, d, s)
			} else {
				attachesNot(t, d, api.ErrForm)
			}
			d.Dead = true
			attachesNot(t, d, api.ErrDead)
		}
	}
}

// P15.1: what the superblock is is committed by no operation at all; another one by two, whichever part of it is another one.
func TestCommit(t *testing.T) {
	for _, blocks := range []int{1, 2, 3, 31, 32} {
		s := made(superOf(blocks, 0), 1)
		leaves(t, committing(s.Super), s, api.OK)
		for part := range 7 {
			b := s.Super
			switch part {
			case 0, 1, 2:
				b = superOf(blocks, 1<<part)
			case 3:
				b.Vector.Current++
			case 4:
				b.Vector.Bitmap = 0
			case 5, 6:
				b.Vector.Old[part-5] = 1 << 63
			}
			saves(t, committing(b), s, superWrite(b), b, s.Mask)
			back := made(b, 1)
			leaves(t, committing(b), back, api.OK)
			saves(t, committing(s.Super), back, superWrite(s.Super), s.Super, s.Mask)
		}
	}
}

// P15.1: of all flags each can become each other one, with each mask.
func TestCommitFlags(t *testing.T) {
	for x := range 8 {
		for y := range 8 {
			for _, m := range masks(3) {
				s, b := made(superOf(3, x), m), superOf(3, y)
				if x == y {
					leaves(t, committing(b), s, api.OK)
				} else {
					saves(t, committing(b), s, superWrite(b), b, m)
				}
			}
		}
	}
}

// P15.1: a superblock that may not be, or that the disk doesn't fit, is refused ahead of the fuse.
func TestCommitWrong(t *testing.T) {
	for _, blocks := range []int{1, 2, 3, 30, 31, 32} {
		s := made(superOf(blocks, 0), 1)
		for _, n := range append(noBlocks(blocks+1), 0, blocks-1) {
			leaves(t, committing(superOf(n, 0)), s, api.ErrArg)
		}
		b := s.Super
		b.Vector.Current = 0
		leaves(t, committing(b), s, api.ErrArg)
		leaves(t, committing(api.Super{}), s, api.ErrArg)
		leaves(t, committing(api.Super{Blocks: blocks}), s, api.ErrArg)
	}
}

// P15.1: of each number of blocks each block is marked, by two operations; one that is in the mask by none.
func TestMark(t *testing.T) {
	for _, blocks := range []int{1, 2, 3, 8, 31, 32} {
		for _, m := range masks(blocks) {
			s := made(superOf(blocks, 2), m)
			for i := range blocks {
				if one := uint32(1) << i; m&one != 0 {
					leaves(t, marking(i), s, api.OK)
				} else {
					saves(t, marking(i), s, maskWrite(m|one), s.Super, m|one)
				}
			}
		}
	}
}

// P15.1: of each number of blocks each block's mark is wiped, by one operation; of one that isn't in the mask by none.
func TestWipe(t *testing.T) {
	for _, blocks := range []int{1, 2, 3, 8, 31, 32} {
		for _, m := range masks(blocks) {
			s := made(superOf(blocks, 2), m)
			for i := range blocks {
				if one := uint32(1) << i; m&one == 0 {
					leaves(t, wiping(i), s, api.OK)
				} else {
					notes(t, wiping(i), s, m&^one)
				}
			}
		}
	}
}

// P15.1: a block that isn't there is neither marked nor wiped, neither read nor put; that comes ahead of the data, and of the fuse.
func TestNoBlock(t *testing.T) {
	for _, blocks := range []int{1, 2, 3, 31, 32} {
		for _, m := range []uint32{0, uint32(1<<blocks - 1)} {
			s := made(superOf(blocks, 0), m)
			for _, i := range noBlocks(blocks) {
				leaves(t, marking(i), s, api.ErrRange)
				leaves(t, wiping(i), s, api.ErrRange)
				leaves(t, putting(i, "01234567"), s, api.ErrRange)
				leaves(t, putting(i, "0123456"), s, api.ErrRange)
				readsNot(t, s, i, api.ErrRange)
			}
		}
	}
}

// P15.1: each mask of few blocks is joined to each other one: by two operations, or, where it brings nothing, by none.
func TestJoin(t *testing.T) {
	for m := range uint32(16) {
		s := made(superOf(4, 0), m)
		for x := range uint32(16) {
			if x&^m == 0 {
				leaves(t, joining(x), s, api.OK)
			} else {
				saves(t, joining(x), s, maskWrite(m|x), s.Super, m|x)
			}
		}
	}
	for _, blocks := range []int{1, 2, 31, 32} {
		for _, m := range masks(blocks) {
			for _, x := range masks(blocks) {
				s := made(superOf(blocks, 5), m)
				if x&^m == 0 {
					leaves(t, joining(x), s, api.OK)
				} else {
					saves(t, joining(x), s, maskWrite(m|x), s.Super, m|x)
				}
			}
		}
	}
}

// P15.1: a mask with a block that isn't there is refused ahead of the fuse, whatever else is in it.
func TestJoinWrong(t *testing.T) {
	for blocks := 1; blocks < api.MaxBlocks; blocks++ {
		for _, m := range masks(blocks) {
			s := made(superOf(blocks, 0), m)
			for _, x := range []uint32{1 << blocks, 1<<blocks | 1, 1<<blocks | m, 1 << 31, 1<<31 | m, math.MaxUint32, math.MaxUint32 << blocks} {
				leaves(t, joining(x), s, api.ErrArg)
			}
		}
	}
}

// P15.1: a block is put by two operations, whether it holds just that or not; its mark stays as it was.
func TestPut(t *testing.T) {
	for _, blocks := range []int{1, 2, 3, 32} {
		for _, m := range []uint32{0, 1, uint32(1<<blocks - 1)} {
			s := made(superOf(blocks, 1), m)
			for i := range blocks {
				for _, data := range []string{"01234567", "\xff\xfe\x00\xff\xc3\x28\x00\x80", strings.Repeat("\x00", 8), blockOf(i + 1)} {
					saves(t, putting(i, data), s, blockWrite(i, data), s.Super, m)
				}
			}
		}
	}
}

// P15.1: data of a wrong length are refused ahead of the fuse.
func TestPutOfEachLength(t *testing.T) {
	s := made(superOf(3, 0), 2)
	for n := range 2*api.MaxSector + 2 {
		if n != api.BlockBytes {
			leaves(t, putting(1, strings.Repeat("y", n)), s, api.ErrLong)
		}
	}
	// Eight runes are more than eight bytes.
	leaves(t, putting(1, strings.Repeat("\u00e9", 8)), s, api.ErrLong)
}

// reads: the block has these data, and the store stays as it was.
func reads(t *testing.T, s api.Store, i int, want string) {
	t.Helper()
	given := copyOf(s)
	if got, e := store.Read(given, i); e != api.OK || got != want || !untouched(given, s) {
		t.Fatalf("block %d of %#v: %q, %d, not %q", i, s, got, e, want)
	}
}

// readsNot: the block has that error, no data beside it, and the store stays as it was.
func readsNot(t *testing.T, s api.Store, i int, want api.Errno) {
	t.Helper()
	given := copyOf(s)
	if got, e := store.Read(given, i); e != want || got != "" || !untouched(given, s) {
		t.Fatalf("block %d of %#v: %q, %d, not %d", i, s, got, e, want)
	}
}

// P15.1: each block of each number of them is read, whatever is in the cache; no fuse is burnt.
func TestRead(t *testing.T) {
	for blocks := 1; blocks <= api.MaxBlocks; blocks++ {
		s := made(superOf(blocks, 0), 1)
		for _, cache := range caches(s) {
			for _, fuse := range []int{0, 1, 2} {
				s.Disk.Cache, s.Disk.Fuse = cache, fuse
				for i, want := range laid(s.Disk, cache...)[first:] {
					reads(t, s, i, want)
				}
			}
		}
	}
}

// P15.1: stores are the same if each part is; a list that holds nothing may be none.
func TestSame(t *testing.T) {
	l := []api.Store{{}, {Mask: 1}, {Mask: 1 << 31}, {Mask: math.MaxUint32}, made(superOf(3, 0), 0), made(superOf(3, 0), 1), made(superOf(4, 0), 1)}
	for _, d := range []api.Disk{{Sure: []string{""}}, {Sure: []string{"a"}}, {Sure: []string{"a", ""}}, {Cache: make([]api.Write, 1)}, {Cache: []api.Write{{Sector: 1}}}, {Cache: []api.Write{{Data: "a"}}}, {Fuse: 1}, {Fuse: -1}, {Dead: true}} {
		l = append(l, api.Store{Disk: d})
	}
	for _, b := range []api.Super{{Blocks: 1}, {Blocks: -1}, {Inc: true}, {Pri: true}, {Dis: true}} {
		l = append(l, api.Store{Super: b})
	}
	for _, v := range []api.Vector{{Current: 1}, {Bitmap: 1}, {Old: [2]uint64{1, 0}}, {Old: [2]uint64{0, 1}}, {Current: 1 << 63}} {
		l = append(l, api.Store{Super: api.Super{Vector: v}})
	}
	for i, a := range l {
		for k, b := range l {
			x, y := copyOf(a), copyOf(b)
			if got := store.Same(x, y); got != (i == k) || !untouched(x, a) || !untouched(y, b) {
				t.Fatalf("%#v, %#v: %v", a, b, got)
			}
		}
	}
	if !store.Same(api.Store{}, api.Store{Disk: api.Disk{Sure: []string{}, Cache: []api.Write{}}}) {
		t.Error("none, and empty")
	}
}

// P15.1: of two stores that were one before each has its own disk and mask, and nothing is kept from call to call.
func TestTwoOfOne(t *testing.T) {
	s := made(superOf(4, 0), 15)
	s.Disk.Cache = make([]api.Write, 0, 9)
	a, _ := store.Wipe(s, 0)
	b, _ := store.Wipe(s, 1)
	c, _ := store.Wipe(a, 2)
	d, _ := store.Wipe(a, 3)
	for i, x := range []struct {
		s    api.Store
		want []uint32
	}{{s, nil}, {a, []uint32{14}}, {b, []uint32{13}}, {c, []uint32{14, 10}}, {d, []uint32{14, 6}}} {
		want := made(superOf(4, 0), 15)
		for _, m := range x.want {
			want.Mask = m
			want.Disk.Cache = append(want.Disk.Cache, maskWrite(m))
		}
		if !like(x.s, want) {
			t.Errorf("%d: %#v", i, x.s)
		}
	}
}
