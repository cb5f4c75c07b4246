package bits_test

import (
	"encoding/binary"
	"hash/fnv"
	"math"
	"math/rand"
	"slices"
	"strings"
	"testing"

	"gemination/api"
	"gemination/bits"
)

// place is the sector of the mask.
const place = 1

// sealed is a text with its sum behind it, written without the packages of the program.
func sealed(text string) string {
	h := fnv.New32a()
	h.Write([]byte(text))
	return string(h.Sum([]byte(text)))
}

// bytesOf is a mask's bytes, written without the packages of the program.
func bytesOf(m uint32) string {
	return sealed(string(binary.BigEndian.AppendUint32(nil, m)))
}

// mayBe tells whether a mask may be on a disk of that many sectors: from 3 to 34, and no bit beyond its blocks.
func mayBe(m uint32, sectors int) bool {
	return sectors >= 3 && sectors <= 34 && uint64(m) < 1<<(sectors-2)
}

// copyOf shares no memory with a disk; it has spare room that is filled, so that who writes there is seen.
func copyOf(d api.Disk) api.Disk {
	d.Sure = append(slices.Clone(d.Sure), "spare", "spare")[:len(d.Sure)]
	d.Cache = append(slices.Clone(d.Cache), api.Write{Sector: 77, Data: "spare"}, api.Write{Sector: 78, Data: "spare"})[:len(d.Cache)]
	return d
}

// like tells whether two disks are the same, part by part.
func like(a, b api.Disk) bool {
	return slices.Equal(a.Sure, b.Sure) && slices.Equal(a.Cache, b.Cache) && a.Fuse == b.Fuse && a.Dead == b.Dead
}

// untouched tells whether a copy of a disk is as it was made, its spare room, too.
func untouched(given, d api.Disk) bool {
	x := copyOf(d)
	return like(given, d) && slices.Equal(given.Sure[:len(given.Sure)+2], x.Sure[:len(x.Sure)+2]) && slices.Equal(given.Cache[:len(given.Cache)+2], x.Cache[:len(x.Cache)+2])
}

// filled is a disk of that many sectors with that in the mask's (if it has one), and something in each other one.
func filled(sectors int, second string) api.Disk {
	d := api.Disk{Sure: make([]string, sectors)}
	for i := range d.Sure {
		d.Sure[i] = strings.Repeat("s", i)
	}
	if sectors > place {
		d.Sure[place] = second
	}
	return d
}

// laid is the sectors of a disk once writes have come to them, one by one, without the package disk.
func laid(d api.Disk, writes ...api.Write) []string {
	l := slices.Clone(d.Sure)
	for _, w := range writes {
		l[w.Sector] = w.Data
	}
	return l
}

// revived is a disk behind a crash, without the package disk.
func revived(d api.Disk, keeps []bool) api.Disk {
	var kept []api.Write
	for i, w := range d.Cache {
		if i < len(keeps) && keeps[i] {
			kept = append(kept, w)
		}
	}
	return api.Disk{Sure: laid(d, kept...)}
}

// keepsOf is all lists of just so many keeps, and some that are shorter or longer.
func keepsOf(n int) [][]bool {
	all := [][]bool{nil, slices.Repeat([]bool{true}, n+3)}
	for bits := range 1 << n {
		l := make([]bool, n)
		for i := range l {
			l[i] = bits>>i&1 == 1
		}
		all = append(all, l)
	}
	if n > 1 {
		all = append(all, slices.Repeat([]bool{true}, n-1))
	}
	return all
}

// masks are all of few blocks, each single block, all from one on and up to one, and some by chance.
func masks() []uint32 {
	r := rand.New(rand.NewSource(1))
	var l []uint32
	for m := range uint32(20) {
		l = append(l, m)
	}
	for i := range 32 {
		one := uint32(1) << i
		l = append(l, one, one-1, ^(one - 1), one|1)
	}
	for range 30 {
		l = append(l, r.Uint32())
	}
	return append(l, 0x01020304, 0x80808080, 0x7fffffff, math.MaxUint32)
}

// caches are of a disk of three sectors or more: the first three have no write of the mask's, the others have.
func caches() [][]api.Write {
	return [][]api.Write{
		nil,
		{{Sector: 0, Data: "a"}},
		{{Sector: 2, Data: "a"}, {Sector: 0, Data: ""}, {Sector: 2, Data: "b"}},
		{{Sector: place, Data: "junk"}, {Sector: 0, Data: "c"}},
		{{Sector: place, Data: bytesOf(1)}, {Sector: place, Data: strings.Repeat("x", api.MaxSector)}},
	}
}

// loads: the disk has that mask, and stays as it was.
func loads(t *testing.T, d api.Disk, want uint32) {
	t.Helper()
	given := copyOf(d)
	if got, e := bits.Load(given); e != api.OK || got != want || !untouched(given, d) {
		t.Fatalf("%#v: %#x, %d, not %#x", d, got, e, want)
	}
}

// loadsNot: the disk has that error, no mask beside it, and stays as it was.
func loadsNot(t *testing.T, d api.Disk, want api.Errno) {
	t.Helper()
	given := copyOf(d)
	if got, e := bits.Load(given); e != want || got != 0 || !untouched(given, d) {
		t.Fatalf("%#v: %#x, %d, not %d", d, got, e, want)
	}
}

// P8.1: what the sector 1 holds is the mask, where it may be for the disk's sectors but for two; else it has not the form.
func TestLoad(t *testing.T) {
	for sectors := 2; sectors <= api.MaxSectors; sectors++ {
		for _, m := range masks() {
			if d := filled(sectors, bytesOf(m)); mayBe(m, sectors) {
				loads(t, d, m)
			} else {
				loadsNot(t, d, api.ErrForm)
			}
		}
	}
}

// P8.1: a disk of one sector has no mask's, whatever it holds.
func TestLoadOfOneSector(t *testing.T) {
	for _, first := range []string{"", "junk", bytesOf(0), bytesOf(1)} {
		d := api.Disk{Sure: []string{first}}
		loadsNot(t, d, api.ErrRange)
		d.Cache = []api.Write{{Sector: 0, Data: bytesOf(0)}}
		loadsNot(t, d, api.ErrRange)
		d.Dead = true
		loadsNot(t, d, api.ErrDead)
	}
}

// P8.1: the last write of the sector 1 in the cache is what it holds, and no write of another one.
func TestLoadOfTheCache(t *testing.T) {
	d := filled(4, bytesOf(1))
	d.Cache = []api.Write{{Sector: 0, Data: bytesOf(2)}, {Sector: 3, Data: bytesOf(3)}}
	loads(t, d, 1)
	d.Cache = []api.Write{{Sector: 1, Data: bytesOf(2)}, {Sector: 2, Data: "junk"}}
	loads(t, d, 2)
	d.Cache = []api.Write{{Sector: 1, Data: bytesOf(2)}, {Sector: 1, Data: bytesOf(3)}}
	loads(t, d, 3)
	d.Cache = []api.Write{{Sector: 1, Data: "junk"}, {Sector: 1, Data: bytesOf(0)}, {Sector: 0, Data: bytesOf(3)}}
	loads(t, d, 0)
	d.Cache = []api.Write{{Sector: 1, Data: bytesOf(2)}, {Sector: 1, Data: "junk"}}
	loadsNot(t, d, api.ErrCheck)
	d.Cache = []api.Write{{Sector: 1, Data: bytesOf(2)}, {Sector: 1, Data: bytesOf(4)}}
	loadsNot(t, d, api.ErrForm)
	d.Cache = []api.Write{{Sector: 1, Data: ""}}
	loadsNot(t, d, api.ErrForm)
	// Only the sector 1 counts.
	loadsNot(t, api.Disk{Sure: []string{bytesOf(1), "", bytesOf(1), bytesOf(1)}}, api.ErrForm)
}

// P8.1: a load burns no fuse, so the last operation is still to be had.
func TestLoadBurnsNoFuse(t *testing.T) {
	for _, fuse := range []int{0, 1, 2, 3, math.MaxInt} {
		d := filled(4, bytesOf(3))
		d.Fuse = fuse
		loads(t, d, 3)
		loads(t, d, 3)
	}
}

// P8.1: each error, and which of two comes.
func TestLoadWrong(t *testing.T) {
	good := bytesOf(3)
	for _, x := range []struct {
		second string
		want   api.Errno
	}{
		{"", api.ErrForm},
		{"\x00", api.ErrForm},
		{"\x00\x00\x03", api.ErrForm},
		{"\x00\x00\x00\x03", api.ErrCheck},
		{good[:7], api.ErrCheck},
		{good + "\x00", api.ErrCheck},
		{"\x00\x00\x00\x02" + good[4:], api.ErrCheck},
		{strings.Repeat("\x00", 8), api.ErrCheck},
		{strings.Repeat("x", api.MaxSector), api.ErrCheck},
		{sealed(""), api.ErrForm},
		{sealed("\x03"), api.ErrForm},
		{sealed("\x00\x00\x03"), api.ErrForm},
		{sealed("\x00\x00\x00\x03\x00"), api.ErrForm},
		{sealed("\x00\x00\x00\x00\x03"), api.ErrForm},
		{sealed("\x00\x00\x00\x00\x00\x00\x00\x03"), api.ErrForm},
		{sealed(good), api.ErrForm},
		{sealed(strings.Repeat("x", api.MaxSector-4)), api.ErrForm},
	} {
		// On those of 2, 35 and 64 sectors no mask may be: the bytes' own error comes first there, too.
		for _, sectors := range []int{2, 3, 4, 34, 35, 64} {
			d := filled(sectors, x.second)
			loadsNot(t, d, x.want)
			d.Dead = true
			loadsNot(t, d, api.ErrDead)
		}
	}
	for _, sectors := range []int{1, 2, 3, 4, 34} {
		d := filled(sectors, good)
		d.Dead = true
		loadsNot(t, d, api.ErrDead)
		d.Fuse = 5
		loadsNot(t, d, api.ErrDead)
	}
}

// P8.1: a byte that is another one in any place is seen.
func TestLoadChanged(t *testing.T) {
	good := []byte(bytesOf(0x01020304))
	for i := range good {
		for b := range 256 {
			x := slices.Clone(good)
			x[i] = byte(b)
			if d := filled(34, string(x)); x[i] == good[i] {
				loads(t, d, 0x01020304)
			} else {
				loadsNot(t, d, api.ErrCheck)
			}
		}
	}
}

// comes: what a call made of a disk; what was handed in stays as it was.
func comes(t *testing.T, call func(api.Disk, uint32) (api.Disk, api.Errno), d api.Disk, m uint32, want api.Disk, e api.Errno) {
	t.Helper()
	given := copyOf(d)
	got, f := call(given, m)
	if f != e || !like(got, want) {
		t.Fatalf("%#v, %#x: %#v, %d, not %#v, %d", d, m, got, f, want, e)
	}
	if !untouched(given, d) {
		t.Fatalf("%#v, %#x: changed to %#v", d, m, given)
	}
}

// P8.1: of each number of sectors, with each mask: taken where it may be, else refused and the disk as it was.
func TestSaveAndNoteOfEachSize(t *testing.T) {
	for sectors := 1; sectors <= api.MaxSectors; sectors++ {
		for _, m := range masks() {
			d, w := filled(sectors, "junk"), api.Write{Sector: place, Data: bytesOf(m)}
			if mayBe(m, sectors) {
				comes(t, bits.Save, d, m, api.Disk{Sure: laid(d, w)}, api.OK)
				comes(t, bits.Note, d, m, api.Disk{Sure: d.Sure, Cache: []api.Write{w}}, api.OK)
			} else {
				comes(t, bits.Save, d, m, d, api.ErrArg)
				comes(t, bits.Note, d, m, d, api.ErrArg)
			}
		}
	}
}

// P8.1: saved by two operations of the fuse, whatever is in the cache; one that ends ends there.
func TestSave(t *testing.T) {
	for _, cache := range caches() {
		for _, m := range []uint32{0, 1, 2, 3} {
			d := filled(4, "junk")
			d.Cache = cache
			wrote := append(slices.Clone(cache), api.Write{Sector: place, Data: bytesOf(m)})
			comes(t, bits.Save, d, m, api.Disk{Sure: laid(d, wrote...)}, api.OK)
			for _, fuse := range []int{3, 4, 5, math.MaxInt} {
				d.Fuse = fuse
				comes(t, bits.Save, d, m, api.Disk{Sure: laid(d, wrote...), Fuse: fuse - 2}, api.OK)
			}
			d.Fuse = 2
			comes(t, bits.Save, d, m, api.Disk{Sure: d.Sure, Cache: wrote, Dead: true}, api.ErrDead)
			d.Fuse = 1
			comes(t, bits.Save, d, m, api.Disk{Sure: d.Sure, Cache: cache, Dead: true}, api.ErrDead)
		}
	}
}

// P8.1: noted by one operation of the fuse, at the end of the cache, and nothing is flushed.
func TestNote(t *testing.T) {
	for _, cache := range caches() {
		for _, m := range []uint32{0, 1, 2, 3} {
			d := filled(4, "junk")
			d.Cache = cache
			wrote := append(slices.Clone(cache), api.Write{Sector: place, Data: bytesOf(m)})
			comes(t, bits.Note, d, m, api.Disk{Sure: d.Sure, Cache: wrote}, api.OK)
			for _, fuse := range []int{2, 3, 4, math.MaxInt} {
				d.Fuse = fuse
				comes(t, bits.Note, d, m, api.Disk{Sure: d.Sure, Cache: wrote, Fuse: fuse - 1}, api.OK)
			}
			d.Fuse = 1
			comes(t, bits.Note, d, m, api.Disk{Sure: d.Sure, Cache: cache, Dead: true}, api.ErrDead)
		}
	}
}

// P8.1: a disk that is dead is told as it was; a mask that may not be there is refused ahead of that, and of the fuse.
func TestOfTheDeadAndTheWrong(t *testing.T) {
	for _, cache := range caches() {
		for _, fuse := range []int{0, 1, 2, 7} {
			d := filled(4, bytesOf(3))
			d.Cache, d.Fuse = cache, fuse
			for _, dead := range []bool{false, true} {
				d.Dead = dead
				for _, m := range []uint32{4, 5, 7, 8, 1 << 16, 1<<31 | 1, math.MaxUint32} {
					comes(t, bits.Save, d, m, d, api.ErrArg)
					comes(t, bits.Note, d, m, d, api.ErrArg)
				}
			}
			for _, m := range []uint32{0, 1, 2, 3} {
				comes(t, bits.Save, d, m, d, api.ErrDead)
				comes(t, bits.Note, d, m, d, api.ErrDead)
			}
		}
	}
	// Where no mask may be at all, it is the mask that is wrong, not the sector.
	for _, sectors := range []int{1, 2, 35, 64} {
		d := filled(sectors, "")
		for _, dead := range []bool{false, true} {
			d.Dead = dead
			comes(t, bits.Save, d, 0, d, api.ErrArg)
			comes(t, bits.Note, d, 0, d, api.ErrArg)
		}
	}
}

// P8.1: what is saved or noted is loaded, and nothing is kept from call to call.
func TestThereAndBack(t *testing.T) {
	for _, m := range masks() {
		a, e := bits.Save(filled(34, ""), m)
		b, f := bits.Note(filled(34, ""), m)
		if e != api.OK || f != api.OK {
			t.Fatal(m, e, f)
		}
		bits.Save(filled(34, ""), ^m)
		bits.Note(a, ^m)
		bits.Load(filled(34, bytesOf(^m)))
		loads(t, a, m)
		loads(t, b, m)
	}
}

// P8.2: the chapter's example.
func TestExample(t *testing.T) {
	d, e := bits.Save(filled(5, ""), 5)
	if e != api.OK {
		t.Fatal(e)
	}
	d, e = bits.Note(d, 4)
	if e != api.OK {
		t.Fatal(e)
	}
	d.Dead = true
	loads(t, revived(d, nil), 5)
	loads(t, revived(d, []bool{false}), 5)
	loads(t, revived(d, []bool{true}), 4)
}

// P8.2: one save, each end of its fuse, all that may be kept: what stood there, or what is saved, and this alone where it was done.
func TestSavedStays(t *testing.T) {
	for _, cache := range caches()[:3] {
		for fuse := range 5 {
			d := filled(4, bytesOf(1))
			d.Cache, d.Fuse = cache, fuse
			x, e := bits.Save(d, 2)
			if done := fuse == 0 || fuse > 2; done != (e == api.OK) {
				t.Fatalf("fuse %d: %d", fuse, e)
			}
			seen := map[uint32]bool{}
			for _, keeps := range keepsOf(len(x.Cache)) {
				m, f := bits.Load(revived(x, keeps))
				if f != api.OK {
					t.Fatalf("fuse %d, keeps %v: %d", fuse, keeps, f)
				}
				seen[m] = true
			}
			// Both only where its write is done, and isn't sure.
			if seen[1] != (fuse == 1 || fuse == 2) || seen[2] != (fuse != 1) || len(seen) > 2 || len(seen) == 2 && fuse != 2 {
				t.Errorf("fuse %d: %v", fuse, seen)
			}
		}
	}
}

// P8.2: of one that was noted both are to be seen behind a crash, and no third one; of more each of them, and what was saved.
func TestNotedStaysOrNot(t *testing.T) {
	for _, cache := range caches()[:3] {
		d := filled(6, "")
		d.Cache = cache
		d, e := bits.Save(d, 1)
		if e != api.OK {
			t.Fatal(e)
		}
		for n, m := range []uint32{2, 9, 4, 15} {
			d, e = bits.Note(d, m)
			if e != api.OK {
				t.Fatal(e)
			}
			loads(t, d, m)
			seen := map[uint32]bool{}
			for _, keeps := range keepsOf(len(d.Cache)) {
				m, f := bits.Load(revived(d, keeps))
				if f != api.OK {
					t.Fatal(keeps, f)
				}
				seen[m] = true
			}
			if len(seen) != n+2 || !seen[1] || !seen[m] {
				t.Errorf("%d noted: %v", n+1, seen)
			}
		}
	}
}

// P8.2: a save makes sure what was noted ahead of it, by being the later one: nothing of it comes back.
func TestSavedBehindNoted(t *testing.T) {
	d, _ := bits.Save(filled(6, ""), 1)
	d, _ = bits.Note(d, 2)
	d, _ = bits.Note(d, 4)
	d, e := bits.Save(d, 8)
	if e != api.OK {
		t.Fatal(e)
	}
	for _, keeps := range keepsOf(3) {
		loads(t, revived(d, keeps), 8)
	}
}

// allowed is which masks may stand behind a crash: what is sure, and those that were written since.
func allowed(sure uint32, since []uint32, m uint32) bool {
	return m == sure || slices.Contains(since, m)
}

// P8.2: many saves and notes, with crashes wherever a fuse ends, and writes of other sectors between.
func TestManySavesAndNotes(t *testing.T) {
	r := rand.New(rand.NewSource(2))
	for range 400 {
		blocks := 1 + r.Intn(32)
		all := uint32(1)<<blocks - 1
		sure, since := r.Uint32()&all, []uint32(nil)
		d, e := bits.Save(filled(blocks+2, ""), sure)
		if e != api.OK {
			t.Fatal(e)
		}
		for range 60 {
			if r.Intn(3) == 0 {
				other := api.Write{Sector: r.Intn(2) * (2 + r.Intn(blocks)), Data: bytesOf(r.Uint32() & all)}
				d.Cache = append(slices.Clone(d.Cache), other)
			}
			if d.Fuse == 0 && r.Intn(4) == 0 {
				d.Fuse = r.Intn(5)
			}
			m, save := r.Uint32()&all, r.Intn(3) == 0
			if save {
				d, e = bits.Save(d, m)
			} else {
				d, e = bits.Note(d, m)
			}
			switch {
			case e != api.OK:
				since = append(since, m)
			case save:
				sure, since = m, nil
			default:
				since = append(since, m)
			}
			if e == api.OK {
				loads(t, d, m)
			}
			if e == api.OK && r.Intn(5) > 0 {
				continue
			}
			keeps := make([]bool, r.Intn(8))
			for i := range keeps {
				keeps[i] = r.Intn(2) == 0
			}
			d = revived(d, keeps)
			got, f := bits.Load(d)
			if f != api.OK || !allowed(sure, since, got) {
				t.Fatalf("sure %#x, since %#x: %#x, %d", sure, since, got, f)
			}
			sure, since = got, nil
		}
	}
}

// P8.2: of what is refused, or comes to a disk that is dead, nothing is seen later.
func TestRefusedIsNotSeen(t *testing.T) {
	all := []bool{true, true, true}
	d := filled(4, bytesOf(1))
	for _, m := range []uint32{4, 7, 1 << 31, math.MaxUint32} {
		a, _ := bits.Save(d, m)
		b, _ := bits.Note(d, m)
		loads(t, revived(a, all), 1)
		loads(t, revived(b, all), 1)
	}
	d.Dead = true
	a, _ := bits.Save(d, 2)
	b, _ := bits.Note(d, 2)
	loads(t, revived(a, all), 1)
	loads(t, revived(b, all), 1)
	// A note burns the last of the fuse: it isn't seen either.
	d.Dead, d.Fuse = false, 1
	c, e := bits.Note(d, 2)
	if e != api.ErrDead {
		t.Fatal(e)
	}
	loads(t, revived(c, all), 1)
}
