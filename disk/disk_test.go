package disk_test

import (
	"math"
	"math/rand"
	"slices"
	"strings"
	"testing"

	"gemination/api"
	"gemination/disk"
)

var (
	longest = strings.Repeat("x", 64)
	tooLong = strings.Repeat("x", 65)
)

// copyOf shares no memory with a disk; it has spare room that is filled, so that who writes there is seen.
func copyOf(d api.Disk) api.Disk {
	d.Sure = append(slices.Clone(d.Sure), "spare", "spare")[:len(d.Sure)]
	d.Cache = append(slices.Clone(d.Cache), api.Write{Sector: 77, Data: "spare"}, api.Write{Sector: 78, Data: "spare"})[:len(d.Cache)]
	return d
}

// like tells whether two disks are the same, part by part, without the package's own Same.
func like(a, b api.Disk) bool {
	if len(a.Sure) != len(b.Sure) || len(a.Cache) != len(b.Cache) || a.Fuse != b.Fuse || a.Dead != b.Dead {
		return false
	}
	for i := range a.Sure {
		if a.Sure[i] != b.Sure[i] {
			return false
		}
	}
	for i := range a.Cache {
		if a.Cache[i].Sector != b.Cache[i].Sector || a.Cache[i].Data != b.Cache[i].Data {
			return false
		}
	}
	return true
}

// some is a disk of three sectors: one is written twice, one once, one never.
func some() api.Disk {
	return copyOf(api.Disk{Sure: []string{"p", "q", "r"}, Cache: []api.Write{{Sector: 0, Data: "a"}, {Sector: 1, Data: "b"}, {Sector: 0, Data: "c"}}})
}

// outside are numbers of no sector of a disk of three; the low bits of many are those of one.
func outside() []int {
	return []int{math.MinInt, -1 << 32, math.MinInt32, -256, -64, -3, -1, 3, 4, 63, 64, 65, 256, math.MaxInt32, 1 << 32, 1<<32 + 1, math.MaxInt}
}

// lists are all lists of at most so many keeps.
func lists(n int) [][]bool {
	all := [][]bool{nil}
	last := all
	for range n {
		var longer [][]bool
		for _, l := range last {
			longer = append(longer, append(slices.Clone(l), false), append(slices.Clone(l), true))
		}
		all = append(all, longer...)
		last = longer
	}
	return all
}

// P4.1: from 1 to 64 empty sectors, and nothing else.
func TestNew(t *testing.T) {
	for n := -3; n <= 70; n++ {
		d, e := disk.New(n)
		if n < 1 || n > 64 {
			if e != api.ErrArg || !like(d, api.Disk{}) {
				t.Errorf("New(%d): %v, %v", n, d, e)
			}
			continue
		}
		if e != api.OK || !like(d, api.Disk{Sure: make([]string, n)}) || !disk.Right(d) {
			t.Errorf("New(%d): %v, %v", n, d, e)
		}
	}
	for _, n := range []int{math.MinInt, math.MinInt32, -1<<32 + 1, 1<<32 + 1, 256, 257, math.MaxInt32, math.MaxInt} {
		if d, e := disk.New(n); e != api.ErrArg || !like(d, api.Disk{}) {
			t.Errorf("New(%d): %v, %v", n, d, e)
		}
	}
}

// P4.1: nothing is kept from call to call, so a new disk that is written into changes no other one.
func TestNewAnswersNewMemory(t *testing.T) {
	a, _ := disk.New(2)
	a.Sure[1] = "a"
	if b, _ := disk.New(2); !like(b, api.Disk{Sure: []string{"", ""}}) {
		t.Error(b)
	}
}

// P4.1: each thing by which a disk may not be, at its edge.
func TestRight(t *testing.T) {
	full := slices.Repeat([]string{longest}, 64)
	many := slices.Repeat([]api.Write{{Sector: 63, Data: longest}}, 5000)
	for i, x := range []struct {
		d    api.Disk
		want bool
	}{
		{api.Disk{}, false},
		{api.Disk{Sure: []string{}}, false},
		{api.Disk{Sure: []string{""}}, true},
		{api.Disk{Sure: full}, true},
		{api.Disk{Sure: append(slices.Clone(full), "")}, false},
		{api.Disk{Sure: slices.Repeat([]string{""}, 256+1)}, false},
		{api.Disk{Sure: []string{longest}}, true},
		{api.Disk{Sure: []string{tooLong}}, false},
		{api.Disk{Sure: []string{tooLong, "", ""}}, false},
		{api.Disk{Sure: []string{"", tooLong, ""}}, false},
		{api.Disk{Sure: []string{"", "", tooLong}}, false},
		{api.Disk{Sure: []string{strings.Repeat("é", 32)}}, true},
		{api.Disk{Sure: []string{strings.Repeat("é", 33)}}, false},
		{api.Disk{Sure: []string{strings.Repeat("x", 256)}}, false},
		{api.Disk{Sure: []string{""}, Fuse: 1}, true},
		{api.Disk{Sure: []string{""}, Fuse: math.MaxInt}, true},
		{api.Disk{Sure: []string{""}, Fuse: -1}, false},
		{api.Disk{Sure: []string{""}, Fuse: math.MinInt}, false},
		{api.Disk{Sure: []string{""}, Dead: true}, true},
		{api.Disk{Sure: []string{""}, Dead: true, Fuse: 5}, true},
		{api.Disk{Sure: []string{""}, Dead: true, Fuse: -1}, false},
		{api.Disk{Dead: true}, false},
		{api.Disk{Sure: full, Cache: many}, true},
		{api.Disk{Sure: full, Cache: append(slices.Clone(many), api.Write{Sector: 64})}, false},
		{api.Disk{Sure: full, Cache: append(slices.Clone(many), api.Write{Data: tooLong})}, false},
		{api.Disk{Cache: []api.Write{{}}}, false},
		{api.Disk{Sure: []string{""}, Cache: []api.Write{{Data: longest}}}, true},
		{api.Disk{Sure: []string{""}, Cache: []api.Write{{Data: tooLong}}}, false},
		{api.Disk{Sure: []string{""}, Cache: []api.Write{{Data: tooLong}, {}, {}}}, false},
		{api.Disk{Sure: []string{""}, Cache: []api.Write{{}, {Data: tooLong}, {}}}, false},
		{api.Disk{Sure: []string{""}, Cache: []api.Write{{Sector: 1}}}, false},
		{api.Disk{Sure: []string{"", ""}, Cache: []api.Write{{Sector: 1}}}, true},
		{api.Disk{Sure: []string{"", ""}, Cache: []api.Write{{Sector: 1}, {Sector: 2}, {Sector: 1}}}, false},
		{api.Disk{Sure: []string{"", ""}, Cache: []api.Write{{Sector: -1}, {Sector: 1}}}, false},
	} {
		before := copyOf(x.d)
		if got := disk.Right(x.d); got != x.want {
			t.Errorf("%d: %v", i, got)
		}
		if !like(x.d, before) {
			t.Errorf("%d: another disk", i)
		}
	}
	for _, i := range outside() {
		d := some()
		d.Cache[1].Sector = i
		if disk.Right(d) {
			t.Errorf("a write of sector %d", i)
		}
	}
	if !disk.Right(some()) {
		t.Error("some")
	}
}

// P4.1: what a sector holds, and the errors, that of a dead disk first; the fuse isn't burnt.
func TestRead(t *testing.T) {
	for _, fuse := range []int{0, 1, 2, 9} {
		d := disk.Arm(some(), fuse)
		before := copyOf(d)
		for i, want := range []string{"c", "b", "r"} {
			if s, e := disk.Read(d, i); s != want || e != api.OK {
				t.Errorf("Read(%d): %q, %v", i, s, e)
			}
		}
		for _, i := range outside() {
			if s, e := disk.Read(d, i); s != "" || e != api.ErrRange {
				t.Errorf("Read(%d): %q, %v", i, s, e)
			}
		}
		d.Dead = true
		for _, i := range append(outside(), 0, 1, 2) {
			if s, e := disk.Read(d, i); s != "" || e != api.ErrDead {
				t.Errorf("dead: Read(%d): %q, %v", i, s, e)
			}
		}
		d.Dead = false
		if !like(d, before) {
			t.Error("another disk:", d)
		}
	}
}

// P4.1: an empty text that was written is what the sector holds, too.
func TestReadOfAnEmptyWrite(t *testing.T) {
	d, e := disk.Write(some(), 2, "")
	if s, f := disk.Read(d, 2); e != api.OK || s != "" || f != api.OK {
		t.Error(s, e, f)
	}
}

// P4.1: a write comes to the end of the cache, whatever its bytes are.
func TestWrite(t *testing.T) {
	for _, data := range []string{"", "d", "a", "\x00\xff\x80", strings.Repeat("\xff", 64), longest} {
		for i := range 3 {
			d := some()
			x, e := disk.Write(d, i, data)
			want := copyOf(d)
			want.Cache = append(want.Cache, api.Write{Sector: i, Data: data})
			if e != api.OK || !like(x, want) || !disk.Right(x) || !like(d, some()) {
				t.Errorf("Write(%d, %q): %v, %v", i, data, x, e)
			}
		}
	}
}

// P4.1: of several errors the first one is told, and beside it the disk as it is then; what is refused burns no fuse.
func TestWriteRefused(t *testing.T) {
	for _, fuse := range []int{0, 1, 2, 9} {
		d := disk.Arm(some(), fuse)
		for _, data := range []string{"", "d", longest, tooLong, strings.Repeat("x", 256)} {
			for _, i := range outside() {
				if x, e := disk.Write(d, i, data); e != api.ErrRange || !like(x, d) {
					t.Errorf("Write(%d, %q): %v, %v", i, data, x, e)
				}
			}
			dead := d
			dead.Dead = true
			for _, i := range append(outside(), 0, 1, 2) {
				if x, e := disk.Write(dead, i, data); e != api.ErrDead || !like(x, dead) {
					t.Errorf("dead: Write(%d, %q): %v, %v", i, data, x, e)
				}
			}
		}
		for i := range 3 {
			for _, data := range []string{tooLong, strings.Repeat("é", 33), strings.Repeat("x", 256), strings.Repeat("x", 1<<16)} {
				if x, e := disk.Write(d, i, data); e != api.ErrLong || !like(x, d) {
					t.Errorf("Write(%d, %d bytes): %v, %v", i, len(data), x, e)
				}
			}
		}
	}
}

// P4.1: each sector holds for sure what it held, the cache is empty, and the rest is as it was.
func TestFlush(t *testing.T) {
	for _, fuse := range []int{0, 2, 9} {
		d := disk.Arm(some(), fuse)
		x, e := disk.Flush(d)
		if e != api.OK || !like(x, api.Disk{Sure: []string{"c", "b", "r"}, Fuse: max(fuse-1, 0)}) {
			t.Error(x, e)
		}
		d.Dead = true
		if x, e := disk.Flush(d); e != api.ErrDead || !like(x, d) {
			t.Error("dead:", x, e)
		}
	}
	d, _ := disk.New(2)
	if x, e := disk.Flush(d); e != api.OK || !like(x, d) {
		t.Error("of nothing:", x, e)
	}
}

// P4.1: at a fuse of n there are n-1 operations done, writes and flushes alike, and the one behind them is the death.
func TestFuse(t *testing.T) {
	for n := 1; n <= 9; n++ {
		for pattern := range 1 << n {
			d := disk.Arm(some(), n)
			for k := range n {
				var x api.Disk
				var e api.Errno
				if pattern>>k&1 == 1 {
					x, e = disk.Flush(d)
				} else {
					x, e = disk.Write(d, k%3, "w")
				}
				want, died := api.OK, copyOf(d)
				if k == n-1 {
					want, died.Dead, died.Fuse = api.ErrDead, true, 0
				}
				if e != want || x.Dead != (k == n-1) || x.Fuse != n-1-k {
					t.Fatalf("fuse %d, operation %d: %v, %v", n, k, x, e)
				}
				if k == n-1 && !like(x, died) {
					t.Fatalf("fuse %d: something was done: %v", n, x)
				}
				d = x
			}
		}
	}
	d := some()
	for k := range 200 {
		x, e := disk.Write(d, 0, "w")
		if e != api.OK || x.Fuse != 0 || len(x.Cache) != len(d.Cache)+1 {
			t.Fatal("without a fuse:", k, e)
		}
		d = x
	}
}

// P4.1: the fuse is as long as is said, but not below 0; the rest is as it was.
func TestArm(t *testing.T) {
	for _, n := range []int{math.MinInt, -1 << 32, -5, -1, 0, 1, 2, 7, 256, 1 << 32, math.MaxInt} {
		for _, dead := range []bool{false, true} {
			for _, fuse := range []int{0, 1, 5} {
				d := some()
				d.Dead, d.Fuse = dead, fuse
				want := copyOf(d)
				want.Fuse = n
				if n < 0 {
					want.Fuse = 0
				}
				if got := disk.Arm(d, n); !like(got, want) || d.Fuse != fuse {
					t.Errorf("Arm(%d): %v", n, got)
				}
			}
		}
	}
}

// P4.1: a crash leaves what is sure, and the cache, since some of it may be kept yet.
func TestCrash(t *testing.T) {
	for _, fuse := range []int{0, 1, 5} {
		for _, dead := range []bool{false, true} {
			d := some()
			d.Fuse, d.Dead = fuse, dead
			want := some()
			want.Dead = true
			if got := disk.Crash(d); !like(got, want) || d.Dead != dead || d.Fuse != fuse {
				t.Error(got)
			}
		}
	}
}

// P4.1: of the cache those writes stay whose keeps are true, one behind the other; of a disk that isn't dead, too.
func TestRevive(t *testing.T) {
	for _, keeps := range lists(6) {
		want := api.Disk{Sure: []string{"p", "q", "r"}}
		if len(keeps) > 0 && keeps[0] {
			want.Sure[0] = "a"
		}
		if len(keeps) > 1 && keeps[1] {
			want.Sure[1] = "b"
		}
		if len(keeps) > 2 && keeps[2] {
			want.Sure[0] = "c"
		}
		for _, fuse := range []int{0, 1, 5} {
			for _, dead := range []bool{false, true} {
				d := some()
				d.Fuse, d.Dead = fuse, dead
				before, asked := copyOf(d), slices.Clone(keeps)
				if got := disk.Revive(d, keeps...); !like(got, want) {
					t.Errorf("Revive(%v): %v", keeps, got)
				}
				if !like(d, before) || !slices.Equal(keeps, asked) {
					t.Errorf("Revive(%v) changed what was handed in", keeps)
				}
			}
		}
	}
	x := disk.Revive(disk.Crash(some()))
	if !like(x, api.Disk{Sure: []string{"p", "q", "r"}}) {
		t.Error("without keeps:", x)
	}
	if y, e := disk.Write(x, 1, "w"); e != api.OK || len(y.Cache) != 1 {
		t.Error("a disk that was revived doesn't write:", y, e)
	}
}

// P4.1: two are the same just when nothing is unlike; of disks that may not be, too.
func TestSame(t *testing.T) {
	w := func(i int, data string) api.Write { return api.Write{Sector: i, Data: data} }
	l := []api.Disk{
		{},
		{Dead: true},
		{Fuse: 1},
		{Fuse: -1},
		{Fuse: math.MinInt},
		{Sure: []string{""}},
		{Sure: []string{"", ""}},
		{Sure: []string{"a"}},
		{Sure: []string{"a\x00"}},
		{Sure: []string{"\xff"}},
		{Sure: []string{"\xfe"}},
		{Sure: []string{"a", "b"}},
		{Sure: []string{"b", "a"}},
		{Sure: []string{"ab"}},
		{Sure: []string{"", "ab"}},
		{Sure: []string{tooLong}},
		{Sure: slices.Repeat([]string{""}, 65)},
		{Cache: []api.Write{w(0, "")}},
		{Sure: []string{"a"}, Cache: []api.Write{w(0, "a")}},
		{Sure: []string{"a"}, Cache: []api.Write{w(0, "a"), w(0, "a")}},
		{Sure: []string{"a"}, Cache: []api.Write{w(0, "b")}},
		{Sure: []string{"a"}, Cache: []api.Write{w(1, "a")}},
		{Sure: []string{"a"}, Cache: []api.Write{w(-1, "a")}},
		{Sure: []string{"a"}, Cache: []api.Write{w(0, "a"), w(0, "b")}},
		{Sure: []string{"a"}, Cache: []api.Write{w(0, "b"), w(0, "a")}},
		{Sure: []string{"a"}, Fuse: 1},
		{Sure: []string{"a"}, Dead: true},
		{Sure: []string{"a"}, Fuse: 1, Dead: true},
		some(),
	}
	for i, a := range l {
		for k, b := range l {
			if got := disk.Same(a, copyOf(b)); got != (i == k) {
				t.Errorf("%d, %d: %v", i, k, got)
			}
		}
	}
	if !disk.Same(api.Disk{}, api.Disk{Sure: []string{}, Cache: []api.Write{}}) {
		t.Error("lists that hold nothing, nil and empty")
	}
}

// P4.1: what is handed in stays as it was, its spare room too, whatever is asked of it; and two that come of one disk are apart.
func TestDisksStayAsTheyWere(t *testing.T) {
	whole := func(d api.Disk) api.Disk {
		return api.Disk{Sure: d.Sure[:len(d.Sure)+2], Cache: d.Cache[:len(d.Cache)+2]}
	}
	d := some()
	before := api.Disk{Sure: slices.Clone(whole(d).Sure), Cache: slices.Clone(whole(d).Cache)}
	x, _ := disk.Write(d, 1, "x")
	y, _ := disk.Write(d, 2, "y")
	f, _ := disk.Flush(d)
	r := disk.Revive(d, true)
	disk.Arm(d, 5)
	disk.Crash(d)
	disk.Right(d)
	disk.Same(d, d)
	disk.Read(d, 0)
	if !like(whole(d), before) {
		t.Error("another disk:", whole(d))
	}
	w := api.Write{Sector: 1, Data: "x"}
	if x.Cache[3] != w || y.Cache[3].Data != "y" || f.Sure[0] != "c" || r.Sure[0] != "a" {
		t.Error("one changed the other:", x, y, f, r)
	}
	// Answers, too, have spare room at times.
	for range 20 {
		p, _ := disk.Write(x, 0, "p")
		q, _ := disk.Write(x, 0, "q")
		if p.Cache[len(p.Cache)-1].Data != "p" || q.Cache[len(q.Cache)-1].Data != "q" {
			t.Fatal("one write changed the other:", p, q)
		}
		x = p
	}
}

// past is what was done to a disk since it was new, one behind the other; a flush has the sector -1.
type past []api.Write

// last is the last write of a sector, or nothing.
func (p past) last(i int) string {
	for k := len(p) - 1; k >= 0; k-- {
		if p[k].Sector == i {
			return p[k].Data
		}
	}
	return ""
}

// split is at its last flush: what is sure, and what isn't.
func (p past) split() (past, past) {
	for k := len(p) - 1; k >= 0; k-- {
		if p[k].Sector == -1 {
			return p[:k], p[k+1:]
		}
	}
	return nil, p
}

// crashed holds a disk behind a crash, for some keeps, against its past; it tells what each sector held.
func crashed(t *testing.T, d api.Disk, p past, keeps []bool) []string {
	t.Helper()
	sure, unsure := p.split()
	back := disk.Revive(disk.Crash(d), keeps...)
	if back.Dead || back.Fuse != 0 || len(back.Cache) != 0 || len(back.Sure) != len(d.Sure) || !disk.Right(back) {
		t.Fatal("revived:", back)
	}
	var held []string
	for i := range back.Sure {
		may := []string{sure.last(i)}
		var kept past
		for k, w := range unsure {
			if w.Sector == i {
				may = append(may, w.Data)
			}
			if k < len(keeps) && keeps[k] {
				kept = append(kept, w)
			}
		}
		got, e := disk.Read(back, i)
		if e != api.OK || !slices.Contains(may, got) {
			t.Fatalf("%#v, keeps %v: sector %d holds %q", p, keeps, i, got)
		}
		if want := append(slices.Clone(sure), kept...).last(i); got != want {
			t.Fatalf("%#v, keeps %v: sector %d holds %q, not %q", p, keeps, i, got, want)
		}
		held = append(held, got)
	}
	return held
}

// play does more to a disk with a past, till it dies; it tells its past then.
func play(t *testing.T, d api.Disk, p past, more ...api.Write) (api.Disk, past) {
	t.Helper()
	for k, w := range more {
		was := d.Fuse
		var e api.Errno
		if w.Sector == -1 {
			d, e = disk.Flush(d)
		} else {
			d, e = disk.Write(d, w.Sector, w.Data)
		}
		if (e == api.ErrDead) != (was == 1) || e != api.OK && e != api.ErrDead {
			t.Fatalf("operation %d at fuse %d: %v", k, was, e)
		}
		if e != api.OK {
			return d, p
		}
		p = append(p, w)
		for i := range d.Sure {
			if got, e := disk.Read(d, i); e != api.OK || got != p.last(i) {
				t.Fatalf("%#v: sector %d holds %q", p, i, got)
			}
		}
	}
	return d, p
}

// P4.2: all pasts of at most five operations on two sectors, wherever the disk dies, whatever is kept.
func TestCrashesOfShortPasts(t *testing.T) {
	keeps := lists(5)
	pasts := []past{nil}
	for from := 0; from < len(pasts) && len(pasts[from]) < 5; from++ {
		p := pasts[from]
		for _, i := range []int{0, 1, -1} {
			// Each write has data of its own, so that it is known which one is held.
			pasts = append(pasts, append(slices.Clone(p), api.Write{Sector: i, Data: string(rune('a' + len(p)))}))
		}
	}
	for _, p := range pasts {
		for fuse := range len(p) + 2 {
			fresh, _ := disk.New(2)
			d, done := play(t, disk.Arm(fresh, fuse), nil, p...)
			for _, l := range keeps {
				crashed(t, d, done, l)
			}
		}
	}
}

// P4.2: long pasts on disks of any size, crash behind crash.
func TestCrashesOfLongPasts(t *testing.T) {
	r := rand.New(rand.NewSource(4))
	for range 300 {
		sectors := 1 + r.Intn(64)
		d, _ := disk.New(sectors)
		var p past
		for range 6 {
			var next []api.Write
			for range r.Intn(80) {
				i := r.Intn(sectors)
				if r.Intn(12) == 0 {
					i = -1
				}
				data := make([]byte, r.Intn(65))
				r.Read(data)
				next = append(next, api.Write{Sector: i, Data: string(data)})
			}
			d, p = play(t, disk.Arm(d, r.Intn(90)), p, next...)
			keeps := make([]bool, r.Intn(len(d.Cache)+3))
			for k := range keeps {
				keeps[k] = r.Intn(2) == 0
			}
			held := crashed(t, d, p, keeps)
			d = disk.Revive(disk.Crash(d), keeps...)
			// What a crash left is sure for all that comes.
			p = nil
			for i, s := range held {
				p = append(p, api.Write{Sector: i, Data: s})
			}
			p = append(p, api.Write{Sector: -1})
		}
	}
}

// P4.2: what was flushed isn't lost, even if the next flush is the death; each write that wasn't may be what is left.
func TestFlushedIsNotLost(t *testing.T) {
	d, _ := disk.New(2)
	d, p := play(t, d, nil, past{{Sector: 0, Data: "a"}, {Sector: 1, Data: "b"}, {Sector: -1}}...)
	if got := disk.Revive(disk.Crash(d)); !like(got, api.Disk{Sure: []string{"a", "b"}}) {
		t.Error("flushed, and lost:", got)
	}
	d, _ = play(t, disk.Arm(d, 3), p, past{{Sector: 0, Data: "c"}, {Sector: 0, Data: "d"}, {Sector: -1}}...)
	for _, x := range []struct {
		keeps []bool
		want  string
	}{{nil, "a"}, {[]bool{true}, "c"}, {[]bool{false, true}, "d"}, {[]bool{true, true}, "d"}, {[]bool{false, false, true}, "a"}} {
		if got := disk.Revive(d, x.keeps...); !like(got, api.Disk{Sure: []string{x.want, "b"}}) {
			t.Error(x.keeps, got)
		}
	}
}
