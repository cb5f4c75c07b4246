package lineage_test

import (
	"math"
	"math/rand"
	"slices"
	"testing"

	"gemination/api"
	"gemination/lineage"
)

// of is a mint.
func of(gen, parent uint64) api.Mint {
	return api.Mint{Gen: gen, Parent: parent}
}

// tree is the chapter's example, and more of it: 7 and 8 come of 5, 9 of 8, 5 of 3, and 20 of none.
func tree() []api.Mint {
	return []api.Mint{of(5, 3), of(7, 5), of(8, 5), of(9, 8), of(20, 0)}
}

// rightOf is the chapter's word, each mint held against each other one.
func rightOf(l []api.Mint) bool {
	for i := range l {
		for j := range i {
			if l[i].Gen == l[j].Gen {
				return false
			}
		}
		if l[i].Gen == 0 {
			return false
		}
	}
	return true
}

// lineOf is the chapter's word, each parent looked for in the list itself.
func lineOf(l []api.Mint, g uint64) []uint64 {
	if g == 0 {
		return nil
	}
	line := []uint64{g}
	for {
		at := slices.IndexFunc(l, func(m api.Mint) bool { return m.Gen == line[len(line)-1] })
		if at < 0 || l[at].Parent == 0 || slices.Contains(line, l[at].Parent) {
			return line
		}
		line = append(line, l[at].Parent)
	}
}

// commonOf is the chapter's word, of two lines.
func commonOf(a, b []uint64) uint64 {
	if at := slices.IndexFunc(a, func(g uint64) bool { return slices.Contains(b, g) }); at >= 0 {
		return a[at]
	}
	return 0
}

// holds holds each call against the chapter's words, for these two generations.
func holds(t *testing.T, l []api.Mint, a, b uint64) {
	t.Helper()
	x, y := lineOf(l, a), lineOf(l, b)
	if got := lineage.Line(l, a); !slices.Equal(got, x) {
		t.Fatalf("Line(%v, %d): %v, not %v", l, a, got, x)
	}
	in, back := slices.Contains(y, a), slices.Contains(x, b)
	if got := lineage.In(l, a, b); got != in {
		t.Fatalf("In(%v, %d, %d): %v", l, a, b, got)
	}
	apart := !in && !back
	if got := lineage.Apart(l, a, b); got != apart {
		t.Fatalf("Apart(%v, %d, %d): %v", l, a, b, got)
	}
	if got, want := lineage.Common(l, a, b), commonOf(x, y); got != want {
		t.Fatalf("Common(%v, %d, %d): %d, not %d", l, a, b, got, want)
	}
}

// ahead is what stands in a line ahead of a generation: all of it, where that isn't there.
func ahead(line []uint64, g uint64) []uint64 {
	if at := slices.Index(line, g); at >= 0 {
		return line[:at]
	}
	return line
}

// apart holds the answers against one another: what is apart has something ahead of what is common.
func apart(t *testing.T, l []api.Mint, a, b uint64) {
	t.Helper()
	if !lineage.Apart(l, a, b) {
		return
	}
	c := lineage.Common(l, a, b)
	for i, g := range []uint64{a, b} {
		if line := lineage.Line(l, g); g != 0 && len(ahead(line, c)) == 0 {
			t.Fatalf("of %v %d and %d are apart, %d is common to them, and number %d has nothing ahead of it: %v", l, a, b, c, i, line)
		}
	}
	if c != 0 && (lineage.Apart(l, a, c) || lineage.Apart(l, b, c)) {
		t.Fatalf("of %v %d is common to %d and %d, and apart from one of them", l, c, a, b)
	}
}

// smallLists are all lists of at most three mints, of generations and parents below 4.
func smallLists() [][]api.Mint {
	all := [][]api.Mint{nil}
	for done := 0; len(all[done]) < 3; done++ {
		for gen := range uint64(4) {
			for parent := range uint64(4) {
				all = append(all, append(slices.Clone(all[done]), of(gen, parent)))
			}
		}
	}
	return all
}

// someLists are drawn ones, of few generations: rings, mints that are alike and zeros among them.
func someLists(seed int64) [][]api.Mint {
	r := rand.New(rand.NewSource(seed))
	var all [][]api.Mint
	for range 2000 {
		few := 1 + r.Intn(14)
		l := make([]api.Mint, r.Intn(16))
		for i := range l {
			l[i] = api.Mint{Gen: uint64(r.Intn(few)), Parent: uint64(r.Intn(few)), Node: r.Intn(2)}
		}
		all = append(all, l)
	}
	return all
}

// eachPair goes through all small lists and all drawn ones, with generations of theirs, and ones that are in none of them.
func eachPair(seed int64, f func(l []api.Mint, a, b uint64)) {
	for _, l := range smallLists() {
		for a := range uint64(5) {
			for b := range uint64(5) {
				f(l, a, b)
			}
		}
	}
	for i, l := range append(someLists(seed), tree(), chain(14)) {
		for g := range uint64(15) {
			f(l, g, uint64(i)%15)
		}
	}
}

// chain is of so many mints: each generation comes of the one below it, the first one of a 0.
func chain(n int) []api.Mint {
	l := make([]api.Mint, n)
	for i := range l {
		l[i] = of(uint64(i+1), uint64(i))
	}
	return l
}

// P12.1: mints may be just if none of their generations is 0, and no two are alike, whatever their parents and nodes are.
func TestRight(t *testing.T) {
	for i, x := range []struct {
		l    []api.Mint
		want bool
	}{
		{nil, true},
		{[]api.Mint{}, true},
		{tree(), true},
		{[]api.Mint{of(1, 0)}, true},
		{[]api.Mint{of(0, 1)}, false},
		{[]api.Mint{of(0, 0)}, false},
		{[]api.Mint{of(1, 1)}, true},
		{[]api.Mint{of(1, 2), of(2, 1)}, true},
		{[]api.Mint{of(1, 5), of(2, 5), of(3, 5)}, true},
		{[]api.Mint{of(1, 2), of(1, 3)}, false},
		{[]api.Mint{of(1, 2), of(1, 2)}, false},
		{[]api.Mint{{Gen: 1, Node: 0}, {Gen: 1, Node: 1}}, false},
		{[]api.Mint{{Gen: 1, Node: -7}, {Gen: 2, Node: math.MaxInt}}, true},
		{[]api.Mint{of(1, 9), of(2, 9), of(3, 9), of(1, 9)}, false},
		{[]api.Mint{of(1, 9), of(2, 9), of(3, 9), of(0, 9)}, false},
		{[]api.Mint{of(0, 9), of(2, 9), of(3, 9)}, false},
		{[]api.Mint{of(1, 0), of(1<<32+1, 0), of(1<<63+1, 0), of(math.MaxUint64, 0)}, true},
		{[]api.Mint{of(1<<32, 0), of(1<<63, 0)}, true},
		{[]api.Mint{of(math.MaxUint64, 0), of(math.MaxUint64, 0)}, false},
	} {
		if got := lineage.Right(x.l); got != x.want {
			t.Errorf("%d: %v: %v", i, x.l, got)
		}
	}
	for _, l := range append(smallLists(), someLists(1)...) {
		if got := lineage.Right(l); got != rightOf(l) {
			t.Fatal(l, got)
		}
	}
}

// P12.1: a line is the generation, and one parent behind the other.
func TestLine(t *testing.T) {
	for g, want := range map[uint64][]uint64{
		3:              {3},
		5:              {5, 3},
		7:              {7, 5, 3},
		8:              {8, 5, 3},
		9:              {9, 8, 5, 3},
		20:             {20},
		4:              {4},
		math.MaxUint64: {math.MaxUint64},
		1<<32 + 9:      {1<<32 + 9},
		1<<63 + 9:      {1<<63 + 9},
	} {
		if got := lineage.Line(tree(), g); !slices.Equal(got, want) {
			t.Errorf("%d: %v, not %v", g, got, want)
		}
	}
	if got := lineage.Line(nil, 6); !slices.Equal(got, []uint64{6}) {
		t.Error("of no mints", got)
	}
}

// P12.1: in which order the mints stand is nothing to the line, where no two are alike.
func TestOrder(t *testing.T) {
	l := tree()
	slices.Reverse(l)
	if got := lineage.Line(l, 9); !slices.Equal(got, []uint64{9, 8, 5, 3}) {
		t.Error(got)
	}
}

// P12.1: 0 has no line, though there be a mint of it, and no line has a 0.
func TestNoLine(t *testing.T) {
	for _, l := range [][]api.Mint{nil, tree(), {of(0, 5), of(5, 0)}, {of(5, 0), of(0, 6)}, {of(0, 0)}} {
		if got := lineage.Line(l, 0); len(got) != 0 {
			t.Errorf("of %v 0 has the line %v", l, got)
		}
		if got := lineage.Line(l, 5); slices.Contains(got, 0) || got[0] != 5 {
			t.Errorf("of %v 5 has the line %v", l, got)
		}
		for _, g := range []uint64{0, 5, 6, 7} {
			if lineage.In(l, 0, g) || lineage.In(l, g, 0) {
				t.Errorf("of %v 0 stands in the line of %d, or that one in its", l, g)
			}
			if !lineage.Apart(l, 0, g) || !lineage.Apart(l, g, 0) {
				t.Errorf("of %v 0 and %d are not apart", l, g)
			}
			if lineage.Common(l, 0, g) != 0 || lineage.Common(l, g, 0) != 0 {
				t.Errorf("of %v something is common to 0 and %d", l, g)
			}
		}
	}
	// A line ends at a parent that is 0: the mint of 0 leads no further.
	if got := lineage.Line([]api.Mint{of(5, 0), of(0, 6)}, 5); !slices.Equal(got, []uint64{5}) {
		t.Error(got)
	}
}

// P12.1: of mints that are alike the first one counts, though its parent be 0.
func TestFirstMint(t *testing.T) {
	for i, x := range []struct {
		l    []api.Mint
		want []uint64
	}{
		{[]api.Mint{of(7, 5), of(7, 6)}, []uint64{7, 5}},
		{[]api.Mint{of(7, 6), of(7, 5)}, []uint64{7, 6}},
		{[]api.Mint{of(7, 0), of(7, 5)}, []uint64{7}},
		{[]api.Mint{of(7, 7), of(7, 5)}, []uint64{7}},
		{[]api.Mint{of(7, 5), of(7, 0), of(5, 4), of(5, 3)}, []uint64{7, 5, 4}},
		{[]api.Mint{of(6, 1), of(7, 6), of(6, 2), of(7, 3), of(6, 4)}, []uint64{7, 6, 1}},
		{[]api.Mint{{Gen: 7, Parent: 5, Node: 1}, {Gen: 7, Parent: 6, Node: 0}}, []uint64{7, 5}},
	} {
		if got := lineage.Line(x.l, 7); !slices.Equal(got, x.want) {
			t.Errorf("%d: %v, not %v", i, got, x.want)
		}
	}
}

// P12.1: a line that would go round ends ahead of what stands in it already, wherever in the line that is.
func TestRing(t *testing.T) {
	ring := []api.Mint{of(1, 2), of(2, 3), of(3, 1)}
	for g, want := range map[uint64][]uint64{1: {1, 2, 3}, 2: {2, 3, 1}, 3: {3, 1, 2}} {
		if got := lineage.Line(ring, g); !slices.Equal(got, want) {
			t.Errorf("%d: %v, not %v", g, got, want)
		}
	}
	if got := lineage.Line([]api.Mint{of(4, 4)}, 4); !slices.Equal(got, []uint64{4}) {
		t.Error("its own parent", got)
	}
	// The tail leads into the ring, and isn't of it.
	tail := append(ring, of(9, 8), of(8, 2))
	if got := lineage.Line(tail, 9); !slices.Equal(got, []uint64{9, 8, 2, 3, 1}) {
		t.Error("a tail", got)
	}
	if lineage.Apart(ring, 1, 3) || lineage.Common(ring, 1, 3) != 1 || lineage.Common(ring, 3, 1) != 3 {
		t.Error("two of a ring stand in each other's lines")
	}
	if !lineage.In(tail, 1, 9) || lineage.In(tail, 9, 1) || lineage.Common(tail, 9, 3) != 2 || lineage.Common(tail, 3, 9) != 3 {
		t.Error("the ring stands in the tail's line, and the tail not in the ring's")
	}
}

// P12.1: the chapter's example, and who stands in whose line.
func TestTwo(t *testing.T) {
	for i, x := range []struct {
		a, b      uint64
		in, apart bool
		common    uint64
	}{
		{7, 8, false, true, 5},
		{8, 7, false, true, 5},
		{7, 9, false, true, 5},
		{9, 7, false, true, 5},
		{5, 7, true, false, 5},
		{7, 5, false, false, 5},
		{3, 9, true, false, 3},
		{9, 3, false, false, 3},
		{8, 9, true, false, 8},
		{7, 7, true, false, 7},
		{20, 7, false, true, 0},
		{7, 20, false, true, 0},
		{4, 7, false, true, 0},
		{4, 4, true, false, 4},
		{4, 6, false, true, 0},
		{1<<32 + 5, 7, false, true, 0},
		{7, 1<<63 + 7, false, true, 0},
	} {
		if got := lineage.In(tree(), x.a, x.b); got != x.in {
			t.Errorf("%d: in: %v", i, got)
		}
		if got := lineage.Apart(tree(), x.a, x.b); got != x.apart {
			t.Errorf("%d: apart: %v", i, got)
		}
		if got := lineage.Common(tree(), x.a, x.b); got != x.common {
			t.Errorf("%d: common: %d", i, got)
		}
	}
}

// P12.1: what is common is the first one of a's line, not of b's: in rings the two may be others.
func TestCommonOfFirst(t *testing.T) {
	// 10 leads into the ring at 1, 20 at 3.
	l := []api.Mint{of(1, 2), of(2, 3), of(3, 1), of(10, 1), of(20, 3)}
	if got := lineage.Common(l, 10, 20); got != 1 {
		t.Error(got)
	}
	if got := lineage.Common(l, 20, 10); got != 3 {
		t.Error(got)
	}
}

// P12.1: each call answers as the chapter's words, gone through one by one, for all small lists, and for drawn ones.
func TestWords(t *testing.T) {
	eachPair(2, func(l []api.Mint, a, b uint64) { holds(t, l, a, b) })
}

// P12.1: of generations that are alike but for some of their bits each one is its own.
func TestWide(t *testing.T) {
	l := []api.Mint{of(1, 1<<32+1), of(1<<32+1, 1<<63+1), of(1<<63+1, math.MaxUint64), of(math.MaxUint64, 1<<32)}
	want := []uint64{1, 1<<32 + 1, 1<<63 + 1, math.MaxUint64, 1 << 32}
	if got := lineage.Line(l, 1); !slices.Equal(got, want) {
		t.Error(got)
	}
	for _, a := range want {
		for _, b := range want {
			holds(t, l, a, b)
		}
	}
}

// P12.1: a long line is told to its end, and a long ring comes to one.
func TestLong(t *testing.T) {
	const n = 200000
	l := chain(n)
	line := lineage.Line(l, n)
	if len(line) != n || line[0] != n || line[n-1] != 1 {
		t.Fatal(len(line))
	}
	for i, g := range line {
		if g != uint64(n-i) {
			t.Fatal(i, g)
		}
	}
	if !lineage.In(l, 1, n) || lineage.In(l, n, 1) || lineage.Apart(l, 1, n) || lineage.Common(l, n, n/2) != n/2 || !lineage.Right(l) {
		t.Error("the first one and the last one")
	}
	l[0].Parent = n
	if got := lineage.Line(l, n/2); len(got) != n || got[n-1] != n/2+1 {
		t.Error("a ring", len(got))
	}
}

// P12.1: what is handed in stays as it was, its spare room too.
func TestLeft(t *testing.T) {
	room := append(tree(), of(1, 1), of(2, 2), of(9, 9))
	before := slices.Clone(room)
	l := room[:len(tree())]
	lineage.Right(l)
	for g := range uint64(21) {
		line := lineage.Line(l, g)
		lineage.In(l, 5, g)
		lineage.Apart(l, g, 7)
		lineage.Common(l, g, 9)
		// Who writes into an answer changes nothing that was handed in.
		for i := range line[:cap(line)] {
			line[:cap(line)][i] = 99
		}
	}
	if !slices.Equal(room, before) {
		t.Error(room)
	}
}

// P12.1: nothing is kept from call to call.
func TestKept(t *testing.T) {
	l := tree()
	first := lineage.Line(l, 9)
	lineage.Line([]api.Mint{of(9, 1), of(1, 2)}, 9)
	lineage.Common([]api.Mint{of(7, 1), of(8, 1)}, 7, 8)
	if again := lineage.Line(l, 9); !slices.Equal(first, []uint64{9, 8, 5, 3}) || !slices.Equal(again, first) {
		t.Error(first, again)
	}
	l[3].Parent = 7
	if got := lineage.Line(l, 9); !slices.Equal(got, []uint64{9, 7, 5, 3}) || lineage.Apart(l, 7, 9) {
		t.Error("the list was changed from outside", got)
	}
}

// P12.2: where two are apart, each of their lines has something ahead of what they have in common.
func TestApart(t *testing.T) {
	eachPair(3, func(l []api.Mint, a, b uint64) { apart(t, l, a, b) })
}

// P12.2: just what stands ahead, of two that are apart and have something in common.
func TestAhead(t *testing.T) {
	l := tree()
	if !lineage.Apart(l, 7, 9) {
		t.Fatal("7 and 9 are not apart")
	}
	c := lineage.Common(l, 7, 9)
	if got := ahead(lineage.Line(l, 7), c); !slices.Equal(got, []uint64{7}) {
		t.Error(got)
	}
	if got := ahead(lineage.Line(l, 9), c); !slices.Equal(got, []uint64{9, 8}) {
		t.Error(got)
	}
}
