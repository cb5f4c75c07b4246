package mask_test

import (
	"math"
	"math/rand"
	"slices"
	"testing"

	"gemination/api"
	"gemination/mask"
)

// member is what is in a mask, block by block: it leans on divisions alone, on no shift and no bits.
type member [32]bool

func memberOf(m uint32) member {
	var in member
	rest := uint64(m)
	for i := range in {
		in[i] = rest%2 == 1
		rest /= 2
	}
	return in
}

func (in member) mask() uint32 {
	var sum, worth uint64 = 0, 1
	for _, is := range in {
		if is {
			sum += worth
		}
		worth *= 2
	}
	return uint32(sum)
}

// list is all that are in it, rising.
func (in member) list() []int {
	var l []int
	for i, is := range in {
		if is {
			l = append(l, i)
		}
	}
	return l
}

// someMasks has none, all, each block alone, each one left out, all from one on, all up to one, and any.
func someMasks() []uint32 {
	l := []uint32{0, 5, 6, 0x55555555, 0xaaaaaaaa, math.MaxInt32, math.MaxInt32 + 1, math.MaxUint32}
	for i := range 32 {
		var one, low member
		one[i] = true
		for k := range i {
			low[k] = true
		}
		l = append(l, one.mask(), math.MaxUint32-one.mask(), low.mask(), math.MaxUint32-low.mask(), one.mask()+1, low.mask()/2)
	}
	r := rand.New(rand.NewSource(1))
	for range 500 {
		l = append(l, r.Uint32(), r.Uint32()&r.Uint32()&r.Uint32(), r.Uint32()|r.Uint32()|r.Uint32())
	}
	return l
}

// outside are numbers of no block: their low bits, too, are those of blocks.
func outside() []int {
	return []int{math.MinInt, math.MinInt + 5, -1 << 32, -1<<32 + 5, math.MinInt32, -256, -64, -33, -32, -31, -27, -2, -1,
		32, 33, 37, 63, 64, 69, 255, 256, 261, 65536, math.MaxInt32, 1 << 32, 1<<32 + 5, 1<<32 + 31, math.MaxInt - 31, math.MaxInt}
}

// numbers are those of all blocks, and of none.
func numbers() []int {
	l := outside()
	for i := range 32 {
		l = append(l, i)
	}
	return l
}

// P3.1: all of so many, for each number of blocks that may be, and for others.
func TestAll(t *testing.T) {
	for _, n := range numbers() {
		var want uint32
		if n >= 1 && n <= 32 {
			for i := range n {
				want += uint32(math.Pow(2, float64(i)))
			}
		}
		if got := mask.All(n); got != want {
			t.Errorf("All(%d): %#x, not %#x", n, got, want)
		}
	}
	if mask.All(1) != 1 || mask.All(5) != 31 || mask.All(31) != math.MaxInt32 || mask.All(32) != math.MaxUint32 {
		t.Error("all that are known")
	}
	if mask.All(0) != 0 || mask.All(33) != 0 || mask.All(api.MaxBlocks) != math.MaxUint32 {
		t.Error("at the limit")
	}
}

// P3.1: a mask may be where the number of blocks may be, and no block above is in it.
func TestRight(t *testing.T) {
	for _, m := range someMasks() {
		l := memberOf(m).list()
		for _, n := range numbers() {
			want := n >= 1 && n <= 32 && (len(l) == 0 || l[len(l)-1] < n)
			if got := mask.Right(m, n); got != want {
				t.Fatalf("Right(%#x, %d): %v", m, n, got)
			}
		}
	}
	for _, x := range []struct {
		m    uint32
		n    int
		want bool
	}{{0, 0, false}, {0, 1, true}, {0, 32, true}, {0, 33, false}, {0, -1, false}, {1, 0, false}, {1, 1, true}, {2, 1, false}, {3, 1, false},
		{1 << 31, 31, false}, {1 << 31, 32, true}, {math.MaxUint32, 32, true}, {math.MaxUint32, 31, false}, {math.MaxUint32, 33, false}, {1, math.MinInt, false}, {1, math.MaxInt, false}} {
		if got := mask.Right(x.m, x.n); got != x.want {
			t.Errorf("Right(%#x, %d): %v", x.m, x.n, got)
		}
	}
}

// P3.1: a block is in a mask by its bit; none below 0, or above 31, is.
func TestHas(t *testing.T) {
	for _, m := range someMasks() {
		in := memberOf(m)
		for i, want := range in {
			if mask.Has(m, i) != want {
				t.Fatalf("Has(%#x, %d): %v", m, i, !want)
			}
		}
		for _, i := range outside() {
			if mask.Has(m, i) {
				t.Fatalf("Has(%#x, %d)", m, i)
			}
		}
	}
}

// someLists are lists of blocks: of none, of one, of the same ones again, of all, and of such as are none between others.
func someLists() [][]int {
	l := [][]int{nil, {}, {0, 2}, {2, 0}, {31}, {5, 5}, {5, 5, 5, 5}, outside(), numbers(), append(numbers(), numbers()...)}
	for i := range 32 {
		l = append(l, []int{i}, []int{-1, i, 32}, []int{i, i + 32, i - 32, i + 64, i + 1<<32})
	}
	for _, i := range outside() {
		l = append(l, []int{i})
	}
	r := rand.New(rand.NewSource(2))
	for range 60 {
		var some []int
		for range r.Intn(50) {
			some = append(some, r.Intn(40)-4)
		}
		l = append(l, some)
	}
	return l
}

// P3.1: with all of a list, or without them; what isn't a block doesn't count.
func TestSetAndClear(t *testing.T) {
	if mask.Set(0, 0, 2) != 5 || mask.Clear(5, 2) != 1 || mask.Set(5) != 5 || mask.Clear(5) != 5 {
		t.Error("some that are known")
	}
	for _, m := range someMasks() {
		for _, l := range someLists() {
			with, without := memberOf(m), memberOf(m)
			for _, i := range l {
				if i >= 0 && i <= 31 {
					with[i], without[i] = true, false
				}
			}
			if got := mask.Set(m, l...); got != with.mask() {
				t.Fatalf("Set(%#x, %v): %#x, not %#x", m, l, got, with.mask())
			}
			if got := mask.Clear(m, l...); got != without.mask() {
				t.Fatalf("Clear(%#x, %v): %#x, not %#x", m, l, got, without.mask())
			}
		}
	}
}

// P3.1: what is in any of them, however many there are.
func TestUnion(t *testing.T) {
	if mask.Union() != 0 || mask.Union([]uint32(nil)...) != 0 || mask.Union(0, 0) != 0 {
		t.Error("of nothing")
	}
	if mask.Union(1, 4) != 5 || mask.Union(5, 4) != 5 || mask.Union(1<<31, 1, 1<<31) != 1<<31|1 {
		t.Error("some that are known")
	}
	masks := someMasks()
	r := rand.New(rand.NewSource(3))
	for range 3000 {
		var l []uint32
		var in member
		for range r.Intn(9) {
			m := masks[r.Intn(len(masks))]
			l = append(l, m)
			for _, i := range memberOf(m).list() {
				in[i] = true
			}
		}
		if got := mask.Union(l...); got != in.mask() {
			t.Fatalf("Union(%#x): %#x, not %#x", l, got, in.mask())
		}
	}
	for _, m := range masks {
		if mask.Union(m) != m || mask.Union(m, m) != m || mask.Union(m, 0) != m || mask.Union(m, ^m) != math.MaxUint32 {
			t.Fatalf("with itself, none and the others: %#x", m)
		}
	}
}

// P3.1: how many, and which ones, rising.
func TestCountAndList(t *testing.T) {
	if mask.Count(0) != 0 || len(mask.List(0)) != 0 || mask.Count(math.MaxUint32) != 32 {
		t.Error("none, and all")
	}
	for _, m := range someMasks() {
		want := memberOf(m).list()
		if got := mask.Count(m); got != len(want) {
			t.Fatalf("Count(%#x): %d", m, got)
		}
		if got := mask.List(m); !slices.Equal(got, want) {
			t.Fatalf("List(%#x): %v", m, got)
		}
	}
}

// P3.1: the least one from one on, itself too; beside false stands 0.
func TestNext(t *testing.T) {
	if i, ok := mask.Next(5, 1); i != 2 || !ok {
		t.Error("Next(5, 1):", i, ok)
	}
	if i, ok := mask.Next(5, 2); i != 2 || !ok {
		t.Error("Next(5, 2):", i, ok)
	}
	if i, ok := mask.Next(5, 3); i != 0 || ok {
		t.Error("Next(5, 3):", i, ok)
	}
	for _, m := range someMasks() {
		in := memberOf(m)
		for _, from := range numbers() {
			want, is := 0, false
			for i := 31; i >= 0 && i >= from; i-- {
				if in[i] {
					want, is = i, true
				}
			}
			if got, ok := mask.Next(m, from); got != want || ok != is {
				t.Fatalf("Next(%#x, %d): %d, %v", m, from, got, ok)
			}
		}
	}
}

// P3.1: what is handed in stays as it was, its spare room too.
func TestListsStayAsTheyWere(t *testing.T) {
	for _, whole := range someLists() {
		was := slices.Clone(whole)
		for k := range len(whole) + 1 {
			mask.Set(6, whole[:k]...)
			mask.Clear(6, whole[:k]...)
			if !slices.Equal(whole, was) {
				t.Fatal(was, whole, k)
			}
		}
	}
	masks := someMasks()[:40]
	was := slices.Clone(masks)
	for k := range len(masks) + 1 {
		mask.Union(masks[:k]...)
		if !slices.Equal(masks, was) {
			t.Fatal("Union", k)
		}
	}
}

// P3.1: nothing is kept from call to call, so an answer that is written into changes no other one.
func TestListAnswersNewMemory(t *testing.T) {
	for _, m := range []uint32{5, math.MaxUint32} {
		want := memberOf(m).list()
		first := mask.List(m)
		clear(first)
		if got := mask.List(m); !slices.Equal(got, want) {
			t.Error(m, got)
		}
	}
}

// P3.2: a mask comes back of what is in it, whether it is listed, asked for or gone through.
func TestMaskIsWhatIsInIt(t *testing.T) {
	for _, m := range someMasks() {
		l := mask.List(m)
		if got := mask.Set(0, l...); got != m {
			t.Fatalf("Set(0, List(%#x)): %#x", m, got)
		}
		if got := mask.Clear(m, l...); got != 0 {
			t.Fatalf("Clear(%#x, all of it): %#x", m, got)
		}
		if len(l) != mask.Count(m) {
			t.Fatalf("%#x: %v, and Count %d", m, l, mask.Count(m))
		}
		var asked []int
		for i := -3; i < 40; i++ {
			if mask.Has(m, i) {
				asked = append(asked, i)
			}
		}
		if !slices.Equal(l, asked) {
			t.Fatalf("%#x: listed %v, asked for %v", m, l, asked)
		}
	}
}

// P3.2: Next tells one behind the other, each once, and ends behind the last one.
func TestNextOneBehindTheOther(t *testing.T) {
	for _, m := range someMasks() {
		var l []int
		i, ok := mask.Next(m, math.MinInt)
		for ok && len(l) <= 32 {
			l = append(l, i)
			i, ok = mask.Next(m, i+1)
		}
		if i != 0 || !slices.Equal(l, mask.List(m)) {
			t.Fatalf("%#x: %v, then %d", m, l, i)
		}
	}
}

// P3.2: two masks are the same just when the same blocks are in them.
func TestMasksThatDiffer(t *testing.T) {
	masks := someMasks()[:250]
	for _, x := range masks {
		for _, y := range masks {
			if slices.Equal(mask.List(x), mask.List(y)) != (x == y) {
				t.Fatalf("%#x, %#x", x, y)
			}
		}
	}
}
