package store_test

import (
	"maps"
	"math/rand"
	"slices"
	"strings"
	"testing"

	"gemination/api"
	"gemination/area"
	"gemination/store"
)

// P15.2: the chapter's example.
func TestExample(t *testing.T) {
	d, _ := area.Format(3, 7)
	s, e := store.Attach(d)
	if e != api.OK {
		t.Fatal(e)
	}
	s, e = store.Mark(s, 2)
	if e != api.OK {
		t.Fatal(e)
	}
	s, e = store.Put(s, 2, "01234567")
	if e != api.OK {
		t.Fatal(e)
	}
	for _, keeps := range [][]bool{nil, {false}, {true}, {true, true, true}} {
		x, e := store.Attach(revived(s.Disk, keeps))
		if e != api.OK || x.Mask != 4 {
			t.Fatal(keeps, x, e)
		}
		reads(t, x, 2, "01234567")
		reads(t, x, 1, strings.Repeat("\x00", 8))
	}
}

// step is a call, and what it asks to stand there instead: a superblock, a mask of the one ahead of it, or a block's data.
type step struct {
	call  call
	super api.Super
	mask  func(uint32) uint32
	block int
	data  string
}

// stays is a mask as it was.
func stays(m uint32) uint32 { return m }

func commits(b api.Super) step {
	return step{call: committing(b), super: b, mask: stays, block: -1}
}

func marks(i int) step {
	return step{call: marking(i), mask: func(m uint32) uint32 { return m | 1<<i }, block: -1}
}

func wipes(i int) step {
	return step{call: wiping(i), mask: func(m uint32) uint32 { return m &^ (1 << i) }, block: -1}
}

func joins(x uint32) step {
	return step{call: joining(x), mask: func(m uint32) uint32 { return m | x }, block: -1}
}

func places(i int, data string) step {
	return step{call: putting(i, data), mask: stays, block: i, data: data}
}

// wish is what a store would hold behind a step that is wholly done.
type wish struct {
	super  api.Super
	mask   uint32
	blocks []string
}

// wishOf is what a store holds.
func wishOf(s api.Store) wish {
	return wish{s.Super, s.Mask, laid(s.Disk, s.Disk.Cache...)[first:]}
}

// behind is what it would hold behind a step.
func (w wish) behind(x step) wish {
	if x.super.Blocks > 0 {
		w.super = x.super
	}
	w.mask = x.mask(w.mask)
	if x.block >= 0 {
		w.blocks = slices.Clone(w.blocks)
		w.blocks[x.block] = x.data
	}
	return w
}

// took: a step's answer is whole and as wished, or dead, with its superblock and mask as they were.
func took(t *testing.T, s, got api.Store, e api.Errno, w wish) {
	t.Helper()
	if e == api.OK {
		if !whole(got) || got.Super != w.super || got.Mask != w.mask || !slices.Equal(wishOf(got).blocks, w.blocks) {
			t.Fatalf("%#v: %#v, not %#v", s, got, w)
		}
		return
	}
	if e != api.ErrDead || !got.Disk.Dead || got.Super != s.Super || got.Mask != s.Mask {
		t.Fatalf("%#v: %#v, %d", s, got, e)
	}
}

// crash is what a store was ahead of its last step, what was wished of that, whether it was done, and which marks there were since all was sure.
type crash struct {
	was, want wish
	done      bool
	once      uint32
}

// stepped: the store behind a step, and what a crash may make of it.
func (c crash) stepped(t *testing.T, s api.Store, x step) (api.Store, crash) {
	t.Helper()
	c.was = wishOf(s)
	c.want = c.was.behind(x)
	got, e := x.call(s)
	took(t, s, got, e, c.want)
	c.done = e == api.OK
	c.once |= c.want.mask
	if c.done && len(got.Disk.Cache) == 0 {
		c.once = c.want.mask
	}
	return got, c
}

// fresh: nothing happened yet to a store of which all is sure.
func fresh(s api.Store) crash {
	return crash{was: wishOf(s), want: wishOf(s), done: true, once: s.Mask}
}

// survives: it attaches, each part as it was wished, or, where that wasn't done, as it was; but marks that were wiped may come back.
func (c crash) survives(t *testing.T, s api.Store, keeps []bool) api.Store {
	t.Helper()
	was := c.was
	if c.done {
		was = c.want
	}
	x, e := store.Attach(revived(s.Disk, keeps))
	if e != api.OK || !whole(x) || x.Super != was.super && x.Super != c.want.super {
		t.Fatalf("%#v, kept %v: %#v, %d", s, keeps, x, e)
	}
	if least := was.mask & c.want.mask; x.Mask&least != least || x.Mask&^c.once != 0 {
		t.Fatalf("%#v, kept %v: %#x, not from %#x to %#x", s, keeps, x.Mask, least, c.once)
	}
	for i, data := range wishOf(x).blocks {
		if data != was.blocks[i] && data != c.want.blocks[i] {
			t.Fatalf("%#v, kept %v: block %d: %q", s, keeps, i, data)
		}
	}
	return x
}

// steps are some of each kind on two blocks.
func steps() []step {
	l := []step{commits(superOf(2, 0)), commits(superOf(2, 1)), commits(api.Super{Blocks: 2, Vector: api.Vector{Current: 8}}), joins(3), joins(2)}
	for i := range 2 {
		l = append(l, marks(i), wipes(i), places(i, "01234567"), places(i, blockOf(i+1)))
	}
	return l
}

// P15.2: all rows of three steps on two blocks, at each end of the fuse: whole behind each; crashed behind the last one, or where the fuse ends, it attaches, whatever is kept.
func TestAllRows(t *testing.T) {
	l := steps()
	for n := range len(l) * len(l) * len(l) {
		row := []step{l[n%len(l)], l[n/len(l)%len(l)], l[n/len(l)/len(l)]}
		for fuse := range 8 {
			s := made(superOf(2, 0), 1)
			s.Disk.Fuse = fuse
			c := fresh(s)
			for k := 0; k < len(row) && c.done; k++ {
				s, c = c.stepped(t, s, row[k])
			}
			for _, keeps := range keepsOf(len(s.Disk.Cache)) {
				c.survives(t, s, keeps)
			}
		}
	}
}

// text tells stores apart by what they hold.
func (w wish) text() string {
	return superBytes(w.super) + maskBytes(w.mask) + strings.Join(w.blocks, "")
}

// operations is how many of the disk a step needs that leads from the one to the other one.
func (x step) operations(from, to wish) int {
	switch {
	case x.block < 0 && from.text() == to.text():
		return 0
	case from.mask&^to.mask != 0:
		return 1
	}
	return 2
}

// P15.2: each step alone, at each end of its fuse, all that may be kept: just as it was, or just as wished, each where the cache leaves it so.
func TestEachEnd(t *testing.T) {
	for i, x := range steps() {
		s := made(superOf(2, 4), 1)
		old, done := wishOf(s), wishOf(s).behind(x)
		n := x.operations(old, done)
		for fuse := range 4 {
			s.Disk.Fuse = fuse
			got, c := fresh(s).stepped(t, s, x)
			if c.done != (fuse == 0 || fuse > n) {
				t.Fatalf("step %d, fuse %d: %v", i, fuse, c.done)
			}
			seen := map[string]bool{}
			for _, keeps := range keepsOf(len(got.Disk.Cache)) {
				seen[wishOf(c.survives(t, got, keeps)).text()] = true
			}
			want := map[string]bool{}
			// A mark that is wiped is the one thing that may come back though no error was told.
			if !c.done || n == 1 {
				want[old.text()] = true
			}
			if c.done || fuse == 2 {
				want[done.text()] = true
			}
			if !maps.Equal(seen, want) {
				t.Errorf("step %d, fuse %d: %q, not %q", i, fuse, slices.Collect(maps.Keys(seen)), slices.Collect(maps.Keys(want)))
			}
		}
	}
}

// drawnStep is of so many blocks; some ask for what is there already.
func drawnStep(r *rand.Rand, blocks int) step {
	i := r.Intn(blocks)
	switch r.Intn(6) {
	case 0:
		b := superOf(blocks, r.Intn(8))
		b.Vector.Current = 1 + r.Uint64()>>1
		b.Vector.Old[1] = r.Uint64()
		return commits(b)
	case 1:
		return marks(i)
	case 2, 3:
		return wipes(i)
	case 4:
		return joins(r.Uint32() >> (api.MaxBlocks - blocks))
	}
	return places(i, blockOf(r.Int()))
}

// P15.2: long rows of steps, with fuses that end wherever, crashes, and revivals with all that may be kept: whole behind each step, and attached behind each crash.
func TestDrawnRows(t *testing.T) {
	r := rand.New(rand.NewSource(1))
	for range 300 {
		blocks := 1 + r.Intn(api.MaxBlocks)
		d, _ := area.Format(blocks, 7)
		s, e := store.Attach(d)
		if e != api.OK {
			t.Fatal(e)
		}
		c := fresh(s)
		for range 80 {
			if s.Disk.Fuse == 0 && r.Intn(3) == 0 {
				s.Disk.Fuse = r.Intn(6)
			}
			s, c = c.stepped(t, s, drawnStep(r, blocks))
			if !c.done || r.Intn(6) == 0 {
				keeps := make([]bool, r.Intn(8))
				for i := range keeps {
					keeps[i] = r.Intn(2) == 0
				}
				s = c.survives(t, s, keeps)
				c = fresh(s)
			}
		}
	}
}

// P15.2: marks stay, wherever the disk dies, until they are wiped; and of what is refused nothing is seen later.
func TestMarksStay(t *testing.T) {
	for _, m := range masks(5) {
		s := made(superOf(5, 0), 0)
		s, e := store.Join(s, m)
		if e != api.OK {
			t.Fatal(e)
		}
		for _, c := range []call{putting(0, "01234567"), committing(superOf(5, 1)), committing(superOf(6, 1)), marking(4), marking(5), wiping(5), wiping(-1), joining(32), putting(5, "01234567"), putting(0, "0")} {
			for fuse := range 4 {
				x := s
				x.Disk.Fuse = fuse
				x, e = c(x)
				for _, keeps := range keepsOf(len(x.Disk.Cache)) {
					y, f := store.Attach(revived(x.Disk, keeps))
					if f != api.OK || y.Mask&m != m || y.Mask&^m&^16 != 0 {
						t.Fatalf("%#x, fuse %d, kept %v: %d, then %#x, %d", m, fuse, keeps, e, y.Mask, f)
					}
					if (e == api.ErrArg || e == api.ErrRange || e == api.ErrLong) && !like(y, s) {
						t.Fatalf("%#x, fuse %d: %d, then %#v", m, fuse, e, y)
					}
				}
			}
		}
	}
}
