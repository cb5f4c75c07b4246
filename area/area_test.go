package area_test

import (
	"encoding/binary"
	"hash/fnv"
	"math"
	"math/rand"
	"slices"
	"strings"
	"testing"

	"gemination/api"
	"gemination/area"
	"gemination/bits"
	"gemination/disk"
	"gemination/meta"
)

// nought is a block of a disk that is new.
const nought = "\x00\x00\x00\x00\x00\x00\x00\x00"

// sealed is a text with its sum behind it, written without the packages of the program.
func sealed(text string) string {
	h := fnv.New32a()
	h.Write([]byte(text))
	return string(h.Sum([]byte(text)))
}

// fresh is a formatted disk as the chapters list it, written without the packages of the program.
func fresh(blocks int, g uint64) api.Disk {
	b := binary.BigEndian.AppendUint64([]byte{71, 77, 1, byte(blocks), 0}, g)
	d := api.Disk{Sure: []string{sealed(string(b) + strings.Repeat("\x00", 24)), sealed("\x00\x00\x00\x00")}}
	for range blocks {
		d.Sure = append(d.Sure, nought)
	}
	return d
}

// blockOf is eight bytes that tell a number.
func blockOf(n int) string {
	return string(binary.BigEndian.AppendUint64(nil, uint64(n)*0x0102030405060709))
}

// filled is a disk of that many sectors, each block with data of its own.
func filled(sectors int) api.Disk {
	d := api.Disk{Sure: make([]string, sectors)}
	for i := range d.Sure {
		d.Sure[i] = blockOf(i)
	}
	return d
}

// with is a disk in whose cache those writes stand.
func with(d api.Disk, writes ...api.Write) api.Disk {
	d.Cache = writes
	return d
}

// laid is the sectors of a disk once writes have come to them, one by one.
func laid(d api.Disk, writes ...api.Write) []string {
	l := slices.Clone(d.Sure)
	for _, w := range writes {
		l[w.Sector] = w.Data
	}
	return l
}

// copyOf shares no memory with a disk; it has spare room that is filled, so that who writes there is seen.
func copyOf(d api.Disk) api.Disk {
	d.Sure = append(slices.Clone(d.Sure), "spare", "spare")[:len(d.Sure)]
	d.Cache = append(slices.Clone(d.Cache), api.Write{Sector: 77, Data: "spare"}, api.Write{Sector: 78, Data: "spare"})[:len(d.Cache)]
	return d
}

// untouched tells whether a copy of a disk is as it was made, its spare room, too.
func untouched(given, d api.Disk) bool {
	x := copyOf(d)
	return disk.Same(given, d) && slices.Equal(given.Sure[:len(given.Sure)+2], x.Sure[:len(x.Sure)+2]) && slices.Equal(given.Cache[:len(given.Cache)+2], x.Cache[:len(x.Cache)+2])
}

// noBlocks are numbers of blocks that no disk of that many sectors has; 2 and more added to some of them wrap round.
func noBlocks(sectors int) []int {
	l := []int{math.MinInt, math.MinInt + 1, -1 << 32, 1<<32 - 2, 1 << 32, 1<<32 + 1, math.MaxInt - 2, math.MaxInt - 1, math.MaxInt}
	for i := -66; i <= 130; i++ {
		if i < 0 || i >= sectors-2 {
			l = append(l, i)
		}
	}
	return l
}

// reads: the block has these data, and the disk stays as it was.
func reads(t *testing.T, d api.Disk, i int, want string) {
	t.Helper()
	given := copyOf(d)
	if got, e := area.Read(given, i); e != api.OK || got != want || !untouched(given, d) {
		t.Fatalf("block %d of %#v: %q, %d, not %q", i, d, got, e, want)
	}
}

// readsNot: the block has that error, no data beside it, and the disk stays as it was.
func readsNot(t *testing.T, d api.Disk, i int, want api.Errno) {
	t.Helper()
	given := copyOf(d)
	if got, e := area.Read(given, i); e != want || got != "" || !untouched(given, d) {
		t.Fatalf("block %d of %#v: %q, %d, not %d", i, d, got, e, want)
	}
}

// puts: what a put made of a disk; what was handed in stays as it was.
func puts(t *testing.T, d api.Disk, i int, data string, want api.Disk, e api.Errno) {
	t.Helper()
	given := copyOf(d)
	got, f := area.Put(given, i, data)
	if f != e || !disk.Same(got, want) {
		t.Fatalf("block %d of %#v, %q: %#v, %d, not %#v, %d", i, d, data, got, f, want, e)
	}
	if !untouched(given, d) {
		t.Fatalf("block %d of %#v, %q: changed to %#v", i, d, data, given)
	}
}

// tellsAll: all blocks, or that error and none beside it; the disk stays as it was.
func tellsAll(t *testing.T, d api.Disk, want []string, e api.Errno) {
	t.Helper()
	given := copyOf(d)
	if got, f := area.All(given); f != e || !slices.Equal(got, want) || !untouched(given, d) {
		t.Fatalf("%#v: %q, %d, not %q, %d", d, got, f, want, e)
	}
}

// P9.1: a disk of each number of blocks, byte by byte, as the layers below it load it, too.
func TestFormat(t *testing.T) {
	for blocks := 1; blocks <= api.MaxBlocks; blocks++ {
		for _, g := range []uint64{1, 2, 255, 1 << 32, 0x0102030405060708, 1 << 63, math.MaxUint64} {
			d, e := area.Format(blocks, g)
			if e != api.OK || !disk.Right(d) || !disk.Same(d, fresh(blocks, g)) {
				t.Fatalf("%d, %d: %#v, %d", blocks, g, d, e)
			}
			s, e := meta.Load(d)
			if want := (api.Super{Blocks: blocks, Vector: api.Vector{Current: g}}); e != api.OK || s != want {
				t.Fatalf("%d, %d: %v, %d", blocks, g, s, e)
			}
			if m, e := bits.Load(d); e != api.OK || m != 0 {
				t.Fatalf("%d, %d: %#x, %d", blocks, g, m, e)
			}
			tellsAll(t, d, slices.Repeat([]string{nought}, blocks), api.OK)
		}
	}
}

// P9.1: the chapter's example, its bytes written out.
func TestFormatExample(t *testing.T) {
	d, e := area.Format(2, 9)
	if e != api.OK || len(d.Sure) != 4 || d.Sure[0][:37] != "GM\x01\x02\x00"+"\x00\x00\x00\x00\x00\x00\x00\x09"+nought+nought+nought {
		t.Fatalf("%#v, %d", d, e)
	}
	if d.Sure[1][:4] != "\x00\x00\x00\x00" || d.Sure[2] != nought || d.Sure[3] != nought {
		t.Fatalf("%#v", d)
	}
}

// P9.1: all is sure, whatever is kept at a crash.
func TestFormatIsSure(t *testing.T) {
	d, _ := area.Format(5, 3)
	for _, keeps := range [][]bool{nil, {true}, slices.Repeat([]bool{true}, 70)} {
		if x := disk.Revive(disk.Crash(d), keeps...); !disk.Same(x, fresh(5, 3)) {
			t.Errorf("%v: %#v", keeps, x)
		}
	}
}

// P9.1: too few or too many blocks, or no generation, and no disk beside the error.
func TestFormatWrong(t *testing.T) {
	wrong := []int{math.MinInt, math.MinInt + 3, -1 << 32, -33, -2, -1, 0, 33, 34, 62, 63, 64, 255, 257, 1<<32 + 1, 1<<32 + 32, math.MaxInt - 2, math.MaxInt - 1, math.MaxInt}
	for _, blocks := range wrong {
		for _, g := range []uint64{0, 1, 7, math.MaxUint64} {
			if d, e := area.Format(blocks, g); e != api.ErrArg || !disk.Same(d, api.Disk{}) {
				t.Errorf("%d, %d: %#v, %d", blocks, g, d, e)
			}
		}
	}
	for blocks := 1; blocks <= api.MaxBlocks; blocks++ {
		if d, e := area.Format(blocks, 0); e != api.ErrArg || !disk.Same(d, api.Disk{}) {
			t.Errorf("%d, 0: %#v, %d", blocks, d, e)
		}
	}
}

// P9.1: two formatted disks share nothing: who writes into one doesn't change what the other one holds, or a third one will.
func TestFormatIsNew(t *testing.T) {
	a, _ := area.Format(3, 1)
	b, _ := area.Format(3, 1)
	for i := range a.Sure {
		a.Sure[i] = "other"
	}
	c, _ := area.Format(3, 1)
	if !disk.Same(b, fresh(3, 1)) || !disk.Same(c, fresh(3, 1)) {
		t.Errorf("%#v, %#v", b, c)
	}
}

// P9.1: each block of each number of sectors is read, and no other one is there, whether the disk is dead or not.
func TestReadOfEachSize(t *testing.T) {
	for sectors := 1; sectors <= api.MaxSectors; sectors++ {
		d, dead := filled(sectors), disk.Crash(filled(sectors))
		for i := range sectors - 2 {
			reads(t, d, i, blockOf(i+2))
			readsNot(t, dead, i, api.ErrDead)
		}
		for _, i := range noBlocks(sectors) {
			readsNot(t, d, i, api.ErrRange)
			readsNot(t, dead, i, api.ErrRange)
		}
	}
}

// P9.1: any eight bytes are a block, and fewer or more are none; a dead disk says so first.
func TestReadOfEachLength(t *testing.T) {
	for _, fill := range []string{"\x00", "a", "\xff", "\xc3"} {
		for n := range api.MaxSector + 1 {
			s := strings.Repeat(fill, n)
			sure := filled(5)
			sure.Sure[3] = s
			for _, d := range []api.Disk{sure, with(filled(5), api.Write{Sector: 3, Data: s})} {
				if n == api.BlockBytes {
					reads(t, d, 1, s)
				} else {
					readsNot(t, d, 1, api.ErrForm)
				}
				readsNot(t, disk.Crash(d), 1, api.ErrDead)
				reads(t, d, 0, blockOf(2))
				reads(t, d, 2, blockOf(4))
			}
		}
	}
	// Eight bytes are counted, not eight runes.
	d := filled(3)
	d.Sure[2] = strings.Repeat("\u00e9", 8)
	readsNot(t, d, 0, api.ErrForm)
	d.Sure[2] = strings.Repeat("\u00e9", 4)
	reads(t, d, 0, "\u00e9\u00e9\u00e9\u00e9")
}

// P9.1: the last write of the block's sector in the cache is what it holds, and no write of another one.
func TestReadOfTheCache(t *testing.T) {
	d := with(filled(5), api.Write{Sector: 1, Data: "of 1...."}, api.Write{Sector: 2, Data: "of 2...."}, api.Write{Sector: 4, Data: "of 4...."})
	reads(t, d, 1, blockOf(3))
	reads(t, d, 0, "of 2....")
	reads(t, d, 2, "of 4....")
	d = with(filled(5), api.Write{Sector: 3, Data: "junk"}, api.Write{Sector: 3, Data: "a block."}, api.Write{Sector: 2, Data: ""})
	reads(t, d, 1, "a block.")
	d = with(filled(5), api.Write{Sector: 3, Data: "a block."}, api.Write{Sector: 3, Data: "junk"})
	readsNot(t, d, 1, api.ErrForm)
	// Blocks are read of a disk without a superblock and a mask, too.
	d = filled(5)
	d.Sure[0], d.Sure[1] = "", "junk"
	reads(t, d, 1, blockOf(3))
}

// P9.1: a read burns no fuse, so the last operation is still to be had.
func TestReadBurnsNoFuse(t *testing.T) {
	for _, fuse := range []int{0, 1, 2, 3, math.MaxInt} {
		d := disk.Arm(filled(4), fuse)
		reads(t, d, 1, blockOf(3))
		reads(t, d, 1, blockOf(3))
		tellsAll(t, d, []string{blockOf(2), blockOf(3)}, api.OK)
	}
}

// P9.1: each block of each number of sectors is put, and no other one is there; that comes ahead of data of a wrong length.
func TestPutOfEachSize(t *testing.T) {
	for sectors := 1; sectors <= api.MaxSectors; sectors++ {
		d, dead := filled(sectors), disk.Crash(filled(sectors))
		for i := range sectors - 2 {
			puts(t, d, i, "01234567", api.Disk{Sure: laid(d, api.Write{Sector: i + 2, Data: "01234567"})}, api.OK)
			puts(t, dead, i, "01234567", dead, api.ErrDead)
		}
		for _, i := range noBlocks(sectors) {
			puts(t, d, i, "01234567", d, api.ErrRange)
			puts(t, d, i, "0123456", d, api.ErrRange)
			puts(t, dead, i, "01234567", dead, api.ErrRange)
			puts(t, dead, i, "", dead, api.ErrRange)
		}
	}
}

// caches are of a disk of four sectors or more: the first four have no write of the sector 3, the others have.
func caches() [][]api.Write {
	return [][]api.Write{
		nil,
		{{Sector: 0, Data: "a"}},
		{{Sector: 1, Data: "a"}, {Sector: 1, Data: "b"}},
		{{Sector: 2, Data: "a block."}, {Sector: 0, Data: ""}, {Sector: 2, Data: "another1"}},
		{{Sector: 3, Data: "junk"}, {Sector: 2, Data: "c"}},
		{{Sector: 3, Data: "a block."}, {Sector: 3, Data: strings.Repeat("x", api.MaxSector)}},
	}
}

// P9.1: put by two operations of the fuse, whatever is in the cache; one that ends ends there.
func TestPut(t *testing.T) {
	for _, cache := range caches() {
		for _, data := range []string{nought, "01234567", "\xff\xfe\x00\xff\xc3\x28\x00\x80", blockOf(3)} {
			d := with(filled(5), cache...)
			wrote := append(slices.Clone(cache), api.Write{Sector: 3, Data: data})
			puts(t, d, 1, data, api.Disk{Sure: laid(d, wrote...)}, api.OK)
			for _, fuse := range []int{3, 4, 5, math.MaxInt} {
				puts(t, disk.Arm(d, fuse), 1, data, api.Disk{Sure: laid(d, wrote...), Fuse: fuse - 2}, api.OK)
			}
			puts(t, disk.Arm(d, 2), 1, data, api.Disk{Sure: d.Sure, Cache: wrote, Dead: true}, api.ErrDead)
			puts(t, disk.Arm(d, 1), 1, data, api.Disk{Sure: d.Sure, Cache: cache, Dead: true}, api.ErrDead)
		}
	}
}

// P9.1: data of a wrong length are refused ahead of all that the disk says, and of the fuse.
func TestPutOfEachLength(t *testing.T) {
	for n := range 2*api.MaxSector + 2 {
		if n == api.BlockBytes {
			continue
		}
		for _, cache := range caches() {
			for _, fuse := range []int{0, 1, 2, 7} {
				d := disk.Arm(with(filled(5), cache...), fuse)
				puts(t, d, 1, strings.Repeat("y", n), d, api.ErrLong)
				d.Dead = true
				puts(t, d, 1, strings.Repeat("y", n), d, api.ErrLong)
				puts(t, d, 3, strings.Repeat("y", n), d, api.ErrRange)
				puts(t, d, 1, "a block.", d, api.ErrDead)
			}
		}
	}
	// Eight runes are more than eight bytes.
	puts(t, filled(5), 1, strings.Repeat("\u00e9", 8), filled(5), api.ErrLong)
}

// P9.1: a block that had no eight bytes has them again once it is put.
func TestPutMends(t *testing.T) {
	d := filled(4)
	d.Sure[3] = "junk"
	readsNot(t, d, 1, api.ErrForm)
	d, e := area.Put(d, 1, "01234567")
	if e != api.OK {
		t.Fatal(e)
	}
	reads(t, d, 1, "01234567")
}

// P9.1: all blocks of each number of sectors; none where there are none, whether the disk is dead or not.
func TestAll(t *testing.T) {
	for sectors := 1; sectors <= api.MaxSectors; sectors++ {
		var want []string
		for i := range sectors - 2 {
			want = append(want, blockOf(i+2))
		}
		d := filled(sectors)
		tellsAll(t, d, want, api.OK)
		if sectors > 2 {
			tellsAll(t, disk.Crash(d), nil, api.ErrDead)
		} else {
			tellsAll(t, disk.Crash(d), nil, api.OK)
		}
	}
}

// P9.1: the cache counts, and what stands in the sectors of no block doesn't.
func TestAllOfTheCache(t *testing.T) {
	d := with(filled(5), api.Write{Sector: 3, Data: "junk"}, api.Write{Sector: 0, Data: "j"}, api.Write{Sector: 3, Data: "a block."}, api.Write{Sector: 1, Data: ""})
	tellsAll(t, d, []string{blockOf(2), "a block.", blockOf(4)}, api.OK)
}

// P9.1: one block without eight bytes, wherever, and there is none of the others beside the error.
func TestAllWrong(t *testing.T) {
	for sectors := 3; sectors <= api.MaxSectors; sectors++ {
		for i := 2; i < sectors; i++ {
			for _, s := range []string{"", "1234567", "123456789"} {
				d := filled(sectors)
				d.Sure[i] = s
				tellsAll(t, d, nil, api.ErrForm)
				tellsAll(t, disk.Crash(d), nil, api.ErrDead)
				tellsAll(t, with(filled(sectors), api.Write{Sector: i, Data: s}), nil, api.ErrForm)
			}
		}
	}
}

// P9.1: what is told is a list of its own: who writes into it doesn't change the disk, and the next call tells as before.
func TestAllIsNew(t *testing.T) {
	d := filled(5)
	l, _ := area.All(d)
	for i := range l {
		l[i] = "other"
	}
	tellsAll(t, d, []string{blockOf(2), blockOf(3), blockOf(4)}, api.OK)
}

// P9.2: what is put is read, and neither another block nor the superblock nor the mask is another one.
func TestPutIsRead(t *testing.T) {
	for blocks := 1; blocks <= api.MaxBlocks; blocks++ {
		d, _ := area.Format(blocks, 7)
		want := fresh(blocks, 7)
		for n := range 3 * blocks {
			i, data := n*5%blocks, blockOf(n+1)
			x, e := area.Put(d, i, data)
			if e != api.OK {
				t.Fatal(e)
			}
			want.Sure[i+2] = data
			if !disk.Same(x, want) {
				t.Fatalf("block %d of %d: %#v", i, blocks, x)
			}
			d = x
			for j := range blocks {
				reads(t, d, j, want.Sure[j+2])
			}
			tellsAll(t, disk.Revive(disk.Crash(d), true, true), want.Sure[2:], api.OK)
		}
		if s, e := meta.Load(d); e != api.OK || s != (api.Super{Blocks: blocks, Vector: api.Vector{Current: 7}}) {
			t.Fatal(s, e)
		}
		if m, e := bits.Load(d); e != api.OK || m != 0 {
			t.Fatal(m, e)
		}
	}
}

// keepsOf is all lists of just so many keeps, and one that is longer.
func keepsOf(n int) [][]bool {
	all := [][]bool{slices.Repeat([]bool{true}, n+3)}
	for bits := range 1 << n {
		l := make([]bool, n)
		for i := range l {
			l[i] = bits>>i&1 == 1
		}
		all = append(all, l)
	}
	return all
}

// P9.2: one put, each end of its fuse, all that may be kept: the block as it was, or as it is put, and this alone where it was done.
func TestWhollyOrAsItWas(t *testing.T) {
	old, data := "old data", "new data"
	for _, cache := range caches()[:3] {
		for fuse := range 5 {
			d := with(filled(5), cache...)
			d.Sure[3], d.Fuse = old, fuse
			x, e := area.Put(d, 1, data)
			if done := fuse == 0 || fuse > 2; done != (e == api.OK) {
				t.Fatalf("fuse %d: %d", fuse, e)
			}
			seen := map[string]bool{}
			for _, keeps := range keepsOf(len(x.Cache)) {
				y := disk.Revive(disk.Crash(x), keeps...)
				s, f := area.Read(y, 1)
				if f != api.OK {
					t.Fatalf("fuse %d, keeps %v: %d", fuse, keeps, f)
				}
				seen[s] = true
				reads(t, y, 0, blockOf(2))
				reads(t, y, 2, blockOf(4))
			}
			// Both only where its write is done, and isn't sure.
			if seen[old] != (fuse == 1 || fuse == 2) || seen[data] != (fuse != 1) || len(seen) > 2 || len(seen) == 2 && fuse != 2 {
				t.Errorf("fuse %d: %v", fuse, seen)
			}
		}
	}
}

// P9.2: of what is refused, or comes to a disk that is dead, nothing is seen later.
func TestRefusedIsNotSeen(t *testing.T) {
	for _, x := range []struct {
		fuse, block int
		data        string
		dead        bool
	}{{0, 1, "too long.", false}, {0, 1, "short", false}, {0, 3, "12345678", false}, {0, -1, "12345678", false}, {0, 1, "12345678", true}, {1, 1, "12345678", false}} {
		d := disk.Arm(filled(5), x.fuse)
		d.Dead = x.dead
		y, e := area.Put(d, x.block, x.data)
		if e == api.OK {
			t.Errorf("%v", x)
		}
		if z := disk.Revive(disk.Crash(y), true, true); !disk.Same(z, filled(5)) {
			t.Errorf("%v: %#v", x, z)
		}
	}
}

// someKeeps are drawn.
func someKeeps(r *rand.Rand) []bool {
	keeps := make([]bool, r.Intn(5))
	for i := range keeps {
		keeps[i] = r.Intn(2) == 0
	}
	return keeps
}

// P9.2: many puts, with masks noted and superblocks committed between them, and crashes wherever a fuse ends.
func TestManyPuts(t *testing.T) {
	r := rand.New(rand.NewSource(1))
	for range 300 {
		blocks := 1 + r.Intn(api.MaxBlocks)
		d, _ := area.Format(blocks, 1)
		now := slices.Repeat([]string{nought}, blocks)
		for range 60 {
			if r.Intn(3) == 0 {
				d, _ = bits.Note(d, uint32(1)<<r.Intn(blocks))
			}
			if r.Intn(8) == 0 {
				d, _ = meta.Commit(d, api.Super{Blocks: blocks, Vector: api.Vector{Current: 1 + r.Uint64()>>1}})
			}
			if d.Fuse == 0 && r.Intn(3) == 0 {
				d = disk.Arm(d, r.Intn(5))
			}
			i, data := r.Intn(blocks), blockOf(r.Int())
			x, e := area.Put(d, i, data)
			d = x
			if e != api.OK || r.Intn(5) == 0 {
				d = disk.Revive(disk.Crash(d), someKeeps(r)...)
			}
			got, f := area.Read(d, i)
			if f != api.OK || got != data && (e == api.OK || got != now[i]) {
				t.Fatalf("block %d: %q, then %q: %q, %d", i, now[i], data, got, f)
			}
			now[i] = got
			tellsAll(t, d, now, api.OK)
		}
	}
}
