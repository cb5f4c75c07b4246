package meta_test

import (
	"encoding/binary"
	"hash/fnv"
	"math"
	"math/rand"
	"slices"
	"strings"
	"testing"

	"gemination/api"
	"gemination/meta"
)

// sealed is a text with its sum behind it, written without the packages of the program.
func sealed(text string) string {
	h := fnv.New32a()
	h.Write([]byte(text))
	return string(h.Sum([]byte(text)))
}

// bytesOf is a superblock's bytes as layer 6's chapter lists them, written without the packages of the program.
func bytesOf(s api.Super) string {
	b := []byte{71, 77, 1, byte(s.Blocks), 0}
	for i, on := range []bool{s.Inc, s.Pri, s.Dis} {
		if on {
			b[4] |= 1 << i
		}
	}
	for _, g := range []uint64{s.Vector.Current, s.Vector.Bitmap, s.Vector.Old[0], s.Vector.Old[1]} {
		b = binary.BigEndian.AppendUint64(b, g)
	}
	return sealed(string(b))
}

// plain has no more than it must.
func plain(blocks int) api.Super {
	return api.Super{Blocks: blocks, Vector: api.Vector{Current: 1}}
}

// drawn may be.
func drawn(r *rand.Rand, blocks int) api.Super {
	v := api.Vector{Current: max(r.Uint64(), 1), Bitmap: r.Uint64(), Old: [2]uint64{r.Uint64(), r.Uint64()}}
	return api.Super{Blocks: blocks, Vector: v, Inc: r.Intn(2) == 0, Pri: r.Intn(2) == 0, Dis: r.Intn(2) == 0}
}

// copyOf shares no memory with a disk; it has spare room that is filled, so that who writes there is seen.
func copyOf(d api.Disk) api.Disk {
	d.Sure = append(slices.Clone(d.Sure), "spare", "spare")[:len(d.Sure)]
	d.Cache = append(slices.Clone(d.Cache), api.Write{Sector: 77, Data: "spare"}, api.Write{Sector: 78, Data: "spare"})[:len(d.Cache)]
	return d
}

// like tells whether two disks are the same, part by part.
func like(a, b api.Disk) bool {
	return slices.Equal(a.Sure, b.Sure) && slices.Equal(a.Cache, b.Cache) && a.Fuse == b.Fuse && a.Dead == b.Dead
}

// filled is a disk of that many sectors with that in the sector 0, and something in each other one.
func filled(sectors int, first string) api.Disk {
	d := api.Disk{Sure: make([]string, sectors)}
	for i := range d.Sure {
		d.Sure[i] = strings.Repeat("s", i)
	}
	d.Sure[0] = first
	return d
}

// laid is the sectors of a disk once writes have come to them, one by one, without the package disk.
func laid(d api.Disk, writes ...api.Write) []string {
	l := slices.Clone(d.Sure)
	for _, w := range writes {
		l[w.Sector] = w.Data
	}
	return l
}

// revived is a disk behind a crash, without the package disk.
func revived(d api.Disk, keeps []bool) api.Disk {
	var kept []api.Write
	for i, w := range d.Cache {
		if i < len(keeps) && keeps[i] {
			kept = append(kept, w)
		}
	}
	return api.Disk{Sure: laid(d, kept...)}
}

// keepsOf is all lists of just so many keeps, and some that are shorter or longer.
func keepsOf(n int) [][]bool {
	all := [][]bool{nil, slices.Repeat([]bool{true}, n+3)}
	for bits := range 1 << n {
		l := make([]bool, n)
		for i := range l {
			l[i] = bits>>i&1 == 1
		}
		all = append(all, l)
	}
	if n > 1 {
		all = append(all, slices.Repeat([]bool{true}, n-1))
	}
	return all
}

// wrongSupers may not be, and a disk of four sectors fits the last five of them.
func wrongSupers() []api.Super {
	return []api.Super{
		{},
		{Blocks: 0, Vector: api.Vector{Current: 1}},
		{Blocks: -1, Vector: api.Vector{Current: 1}},
		{Blocks: -2, Vector: api.Vector{Current: 1}},
		{Blocks: 33, Vector: api.Vector{Current: 1}},
		{Blocks: 62, Vector: api.Vector{Current: 1}},
		{Blocks: 258, Vector: api.Vector{Current: 1}},
		{Blocks: 1<<32 + 2, Vector: api.Vector{Current: 1}},
		{Blocks: math.MaxInt, Vector: api.Vector{Current: 1}},
		{Blocks: math.MinInt, Vector: api.Vector{Current: 1}},
		{Blocks: 2},
		{Blocks: 2, Vector: api.Vector{Bitmap: 1}},
		{Blocks: 2, Vector: api.Vector{Old: [2]uint64{1, 1}}},
		{Blocks: 2, Vector: api.Vector{Bitmap: 1, Old: [2]uint64{1, 1}}, Inc: true, Pri: true, Dis: true},
		{Blocks: 2, Pri: true},
	}
}

// P7.1: a disk fits by its sectors and a superblock's blocks alone.
func TestFits(t *testing.T) {
	numbers := []int{math.MinInt, math.MinInt + 1, -1 << 32, math.MinInt32, math.MaxInt32, 1 << 32, math.MaxInt - 1, math.MaxInt}
	for blocks := -70; blocks <= 330; blocks++ {
		numbers = append(numbers, blocks, 1<<32+blocks)
	}
	for sectors := 1; sectors <= api.MaxSectors; sectors++ {
		d := api.Disk{Sure: make([]string, sectors)}
		for _, blocks := range numbers {
			if got := meta.Fits(d, plain(blocks)); got != (blocks == sectors-2) {
				t.Fatalf("%d sectors, %d blocks: %v", sectors, blocks, got)
			}
		}
	}
}

// P7.1: whether a disk fits hangs on nothing else, neither on what it holds nor on whether it is dead.
func TestFitsWhateverElse(t *testing.T) {
	s := api.Super{Blocks: 3, Vector: api.Vector{Current: 7, Bitmap: 6, Old: [2]uint64{5, 4}}, Inc: true, Pri: true, Dis: true}
	for i, d := range []api.Disk{
		filled(5, "junk"),
		filled(5, bytesOf(plain(7))),
		{Sure: make([]string, 5), Dead: true},
		{Sure: make([]string, 5), Fuse: 1},
		{Sure: make([]string, 5), Cache: make([]api.Write, 9)},
	} {
		for _, x := range []api.Super{s, plain(3), {Blocks: 3}} {
			if !meta.Fits(d, x) {
				t.Errorf("%d fits %v", i, x)
			}
		}
		for _, x := range []api.Super{{}, plain(2), plain(4), plain(5), plain(7), plain(-3)} {
			if meta.Fits(d, x) {
				t.Errorf("%d does not fit %v", i, x)
			}
		}
	}
}

// loads: the disk has that superblock, and stays as it was.
func loads(t *testing.T, d api.Disk, want api.Super) {
	t.Helper()
	was := copyOf(d)
	if got, e := meta.Load(d); e != api.OK || got != want || !like(d, was) {
		t.Fatalf("%#v: %v, %d, not %v", was, got, e, want)
	}
}

// loadsNot: the disk has that error, no superblock beside it, and stays as it was.
func loadsNot(t *testing.T, d api.Disk, want api.Errno) {
	t.Helper()
	was := copyOf(d)
	if got, e := meta.Load(d); e != want || got != (api.Super{}) || !like(d, was) {
		t.Fatalf("%#v: %v, %d, not %d", was, got, e, want)
	}
}

// P7.1: what the sector 0 holds is the superblock, on a disk that fits it; on each other one it has not the form.
func TestLoad(t *testing.T) {
	r := rand.New(rand.NewSource(1))
	for sectors := 1; sectors <= api.MaxSectors; sectors++ {
		for blocks := 1; blocks <= api.MaxBlocks; blocks++ {
			s := drawn(r, blocks)
			if d := filled(sectors, bytesOf(s)); blocks == sectors-2 {
				loads(t, d, s)
			} else {
				loadsNot(t, d, api.ErrForm)
			}
		}
	}
	for range 2000 {
		s := drawn(r, 1+r.Intn(32))
		loads(t, filled(s.Blocks+2, bytesOf(s)), s)
	}
}

// P7.1: the last write of the sector 0 in the cache is what it holds, and no write of another one.
func TestLoadOfTheCache(t *testing.T) {
	a, b, c := plain(2), api.Super{Blocks: 2, Vector: api.Vector{Current: 2, Bitmap: 1}, Pri: true}, api.Super{Blocks: 2, Vector: api.Vector{Current: 3}, Inc: true, Dis: true}
	d := filled(4, bytesOf(a))
	d.Cache = []api.Write{{Sector: 1, Data: bytesOf(b)}, {Sector: 3, Data: bytesOf(c)}}
	loads(t, d, a)
	d.Cache = []api.Write{{Sector: 0, Data: bytesOf(b)}, {Sector: 2, Data: "junk"}}
	loads(t, d, b)
	d.Cache = []api.Write{{Sector: 0, Data: bytesOf(b)}, {Sector: 0, Data: bytesOf(c)}}
	loads(t, d, c)
	d.Cache = []api.Write{{Sector: 0, Data: "junk"}, {Sector: 0, Data: bytesOf(b)}, {Sector: 1, Data: bytesOf(c)}}
	loads(t, d, b)
	d.Cache = []api.Write{{Sector: 0, Data: bytesOf(b)}, {Sector: 0, Data: "junk"}}
	loadsNot(t, d, api.ErrCheck)
	d.Cache = []api.Write{{Sector: 0, Data: bytesOf(b)}, {Sector: 0, Data: bytesOf(plain(3))}}
	loadsNot(t, d, api.ErrForm)
	d.Cache = []api.Write{{Sector: 0, Data: ""}}
	loadsNot(t, d, api.ErrForm)
	// Only the sector 0 counts.
	loadsNot(t, api.Disk{Sure: []string{"", bytesOf(a), bytesOf(a), bytesOf(a)}}, api.ErrForm)
}

// P7.1: a load burns no fuse, so the last operation is still to be had.
func TestLoadBurnsNoFuse(t *testing.T) {
	s := plain(2)
	for _, fuse := range []int{0, 1, 2, 3, math.MaxInt} {
		d := filled(4, bytesOf(s))
		d.Fuse = fuse
		loads(t, d, s)
		loads(t, d, s)
	}
}

// P7.1: each error, and which of two comes.
func TestLoadWrong(t *testing.T) {
	good := bytesOf(plain(2))
	text := good[:37]
	for _, x := range []struct {
		first string
		want  api.Errno
	}{
		{"", api.ErrForm},
		{"GM\x01", api.ErrForm},
		{"junk", api.ErrCheck},
		{text, api.ErrCheck},
		{good + "\x00", api.ErrCheck},
		{strings.Repeat("\x00", 41), api.ErrCheck},
		{strings.Repeat("x", api.MaxSector), api.ErrCheck},
		{sealed(""), api.ErrForm},
		{sealed(text + "\x00"), api.ErrForm},
		{sealed("gM" + text[2:]), api.ErrForm},
		{sealed(text[:2] + "\x02" + text[3:]), api.ErrForm},
		{sealed(text[:3] + "\x00" + text[4:]), api.ErrForm},
		{sealed(text[:3] + "\x21" + text[4:]), api.ErrForm},
		{sealed(text[:4] + "\x08" + text[5:]), api.ErrForm},
		{sealed(text[:5] + strings.Repeat("\x00", 32)), api.ErrForm},
	} {
		// The disk of four sectors fits by the byte of the blocks, the other ones don't: the bytes' own error comes first.
		for _, sectors := range []int{1, 2, 3, 4, 5, 35, 64} {
			d := filled(sectors, x.first)
			loadsNot(t, d, x.want)
			d.Dead = true
			loadsNot(t, d, api.ErrDead)
		}
	}
	for _, sectors := range []int{3, 4, 5} {
		d := filled(sectors, good)
		d.Dead = true
		loadsNot(t, d, api.ErrDead)
		d.Fuse = 5
		loadsNot(t, d, api.ErrDead)
	}
}

// commits: the disk and the error that come of it; what was handed in stays as it was.
func commits(t *testing.T, d api.Disk, s api.Super, want api.Disk, e api.Errno) {
	t.Helper()
	given := copyOf(d)
	got, f := meta.Commit(given, s)
	if f != e || !like(got, want) {
		t.Fatalf("%#v, %v: %#v, %d, not %#v, %d", d, s, got, f, want, e)
	}
	// Spare room, too.
	if x := copyOf(d); !like(given, d) || !slices.Equal(given.Sure[:len(given.Sure)+2], x.Sure[:len(x.Sure)+2]) || !slices.Equal(given.Cache[:len(given.Cache)+2], x.Cache[:len(x.Cache)+2]) {
		t.Fatalf("%#v, %v: changed to %#v", d, s, given)
	}
}

// caches are of a disk of three sectors or more: the first three have no write of the sector 0, the others have.
func caches() [][]api.Write {
	return [][]api.Write{
		nil,
		{{Sector: 1, Data: "a"}},
		{{Sector: 2, Data: "a"}, {Sector: 1, Data: ""}, {Sector: 2, Data: "b"}},
		{{Sector: 0, Data: "junk"}, {Sector: 1, Data: "c"}},
		{{Sector: 0, Data: bytesOf(plain(1))}, {Sector: 0, Data: strings.Repeat("x", api.MaxSector)}},
	}
}

// P7.1: its bytes are written, and then all is flushed, by two operations of the fuse; one that ends ends there.
func TestCommit(t *testing.T) {
	r := rand.New(rand.NewSource(2))
	for blocks := 1; blocks <= api.MaxBlocks; blocks++ {
		for _, cache := range caches() {
			for _, first := range []string{"", "junk", bytesOf(plain(blocks))} {
				s := drawn(r, blocks)
				d := filled(blocks+2, first)
				d.Cache = cache
				wrote := append(slices.Clone(cache), api.Write{Sector: 0, Data: bytesOf(s)})
				commits(t, d, s, api.Disk{Sure: laid(d, wrote...)}, api.OK)
				for _, fuse := range []int{3, 4, 5, math.MaxInt} {
					d.Fuse = fuse
					commits(t, d, s, api.Disk{Sure: laid(d, wrote...), Fuse: fuse - 2}, api.OK)
				}
				d.Fuse = 2
				commits(t, d, s, api.Disk{Sure: d.Sure, Cache: wrote, Dead: true}, api.ErrDead)
				d.Fuse = 1
				commits(t, d, s, api.Disk{Sure: d.Sure, Cache: cache, Dead: true}, api.ErrDead)
			}
		}
	}
}

// P7.1: the disk of one that is dead is told as it was.
func TestCommitOfTheDead(t *testing.T) {
	for _, cache := range caches() {
		for _, fuse := range []int{0, 1, 2, 7} {
			d := filled(4, bytesOf(plain(2)))
			d.Cache, d.Fuse, d.Dead = cache, fuse, true
			commits(t, d, api.Super{Blocks: 2, Vector: api.Vector{Current: 2}}, d, api.ErrDead)
		}
	}
}

// P7.1: what may not be, or what the disk doesn't fit, is refused ahead of all else, and the disk is as it was.
func TestCommitWrong(t *testing.T) {
	for _, cache := range caches() {
		for _, fuse := range []int{0, 1, 2, 7} {
			for _, dead := range []bool{false, true} {
				d := filled(4, bytesOf(plain(2)))
				d.Cache, d.Fuse, d.Dead = cache, fuse, dead
				for _, s := range wrongSupers() {
					commits(t, d, s, d, api.ErrArg)
				}
				for blocks := 1; blocks <= api.MaxBlocks; blocks++ {
					if blocks != 2 {
						commits(t, d, plain(blocks), d, api.ErrArg)
					}
				}
			}
		}
	}
}

// P7.1: of each number of sectors; a disk that fits no superblock that may be takes none.
func TestCommitOfEachSize(t *testing.T) {
	for sectors := 1; sectors <= api.MaxSectors; sectors++ {
		for blocks := -2; blocks <= 66; blocks++ {
			d, s := filled(sectors, ""), plain(blocks)
			if blocks >= 1 && blocks <= 32 && blocks == sectors-2 {
				commits(t, d, s, api.Disk{Sure: laid(d, api.Write{Sector: 0, Data: bytesOf(s)})}, api.OK)
			} else {
				commits(t, d, s, d, api.ErrArg)
			}
		}
	}
}

// P7.1: the chapter's example, and nothing is kept from call to call.
func TestCommittedIsLoaded(t *testing.T) {
	r := rand.New(rand.NewSource(3))
	for range 3000 {
		s := drawn(r, 1+r.Intn(32))
		d, e := meta.Commit(filled(s.Blocks+2, ""), s)
		if e != api.OK {
			t.Fatalf("%v: %d", s, e)
		}
		loads(t, d, s)
		d.Dead = true
		loads(t, revived(d, nil), s)
		meta.Commit(filled(4, ""), plain(2))
		meta.Load(filled(4, bytesOf(plain(2))))
		d.Dead = false
		loads(t, d, s)
	}
}

// P7.2: one commit, each end of its fuse, all that may be kept of a cache of any writes of other sectors.
func TestWhollyOrNot(t *testing.T) {
	a := api.Super{Blocks: 2, Vector: api.Vector{Current: 0x0102030405060708, Bitmap: 9, Old: [2]uint64{8, 7}}, Dis: true}
	b := api.Super{Blocks: 2, Vector: api.Vector{Current: math.MaxUint64, Bitmap: 0x1112131415161718}, Inc: true, Pri: true}
	for _, cache := range caches()[:3] {
		for fuse := range 5 {
			d := filled(4, bytesOf(a))
			d.Cache, d.Fuse = cache, fuse
			x, e := meta.Commit(d, b)
			if done := fuse == 0 || fuse > 2; done != (e == api.OK) {
				t.Fatalf("fuse %d: %d", fuse, e)
			}
			seen := map[api.Super]bool{}
			for _, keeps := range keepsOf(len(x.Cache)) {
				s, f := meta.Load(revived(x, keeps))
				if f != api.OK {
					t.Fatalf("fuse %d, keeps %v: %d", fuse, keeps, f)
				}
				seen[s] = true
			}
			// Both only where its write is done, and isn't sure.
			if seen[a] != (fuse == 1 || fuse == 2) || seen[b] != (fuse != 1) || len(seen) > 2 || len(seen) == 2 && fuse != 2 {
				t.Errorf("fuse %d: %v", fuse, seen)
			}
		}
	}
}

// P7.2: many commits, one behind the other, with crashes wherever a fuse ends and writes of other sectors between.
func TestManyCommits(t *testing.T) {
	r := rand.New(rand.NewSource(4))
	for range 400 {
		blocks := 1 + r.Intn(32)
		now := drawn(r, blocks)
		d, e := meta.Commit(filled(blocks+2, ""), now)
		if e != api.OK {
			t.Fatal(e)
		}
		for range 50 {
			for range r.Intn(3) {
				d.Cache = append(slices.Clone(d.Cache), api.Write{Sector: 1 + r.Intn(blocks+1), Data: bytesOf(drawn(r, blocks))})
			}
			d.Fuse = r.Intn(5)
			next := drawn(r, blocks)
			d, e = meta.Commit(d, next)
			keeps := make([]bool, r.Intn(6))
			for i := range keeps {
				keeps[i] = r.Intn(2) == 0
			}
			if e != api.OK || r.Intn(4) == 0 {
				d = revived(d, keeps)
			}
			s, f := meta.Load(d)
			if f != api.OK || s != next && (e == api.OK || s != now) {
				t.Fatalf("ahead %v, then %v: %v, %d", now, next, s, f)
			}
			now = s
		}
	}
}

// P7.2: of a commit that is refused, or of a disk that is dead, nothing is seen later.
func TestRefusedIsNotSeen(t *testing.T) {
	a, b := plain(2), api.Super{Blocks: 2, Vector: api.Vector{Current: 2}}
	all := []bool{true, true, true}
	d := filled(4, bytesOf(a))
	for _, s := range wrongSupers() {
		x, _ := meta.Commit(d, s)
		loads(t, x, a)
		loads(t, revived(x, all), a)
	}
	d.Dead = true
	x, _ := meta.Commit(d, b)
	loads(t, revived(x, all), a)
	// A second one behind one that died: the first one's write alone may be kept.
	d = filled(4, bytesOf(a))
	d.Fuse = 2
	d, _ = meta.Commit(d, b)
	x, e := meta.Commit(d, api.Super{Blocks: 2, Vector: api.Vector{Current: 3}})
	if e != api.ErrDead || !like(x, d) {
		t.Fatal(x, e)
	}
	loads(t, revived(x, nil), a)
	loads(t, revived(x, all), b)
}
