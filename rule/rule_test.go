package rule_test

import (
	"math"
	"math/rand"
	"testing"

	"gemination/api"
	"gemination/rule"
)

const blocks = 4

// The flags of a hello, as bits of a number.
const (
	inc = 1 << iota
	was
	dis
	pri
)

// flagsRight are the flags that may be together: all without Pri, and with it Dis alone, or none.
func flagsRight() []int { return []int{0, 1, 2, 3, 4, 5, 6, 7, pri, pri | dis} }

// of is a hello of four blocks with such flags, such a mask, and the generations Current, Bitmap, and both Old, as many as there are.
func of(flags int, m uint32, g ...uint64) api.Hello {
	l := append(g[:len(g):len(g)], 0, 0, 0)
	h := api.Hello{Blocks: blocks, Vector: api.Vector{Current: l[0], Bitmap: l[1], Old: [2]uint64{l[2], l[3]}}, Mask: m}
	h.Inc, h.Was, h.Dis, h.Pri = flags&inc != 0, flags&was != 0, flags&dis != 0, flags&pri != 0
	return h
}

// placeOf is layer 5's word, once more.
func placeOf(v api.Vector, g uint64) int {
	switch {
	case g == 0:
		return -1
	case v.Current == g:
		return 0
	case v.Bitmap == g:
		return 1
	case v.Old[0] == g:
		return 2
	case v.Old[1] == g:
		return 3
	}
	return -1
}

var (
	refuse = api.Verdict{Kind: api.VerRefuse, Source: -1}
	none   = api.Verdict{Kind: api.VerNone, Source: -1}
)

// verdictOf is the chapter's six rules, in their order, written out for the first one and for the second one.
func verdictOf(x, y api.Hello) api.Verdict {
	v := byRules(x, y)
	if v.Source == 0 && y.Pri || v.Source == 1 && x.Pri {
		return refuse
	}
	return v
}

func byRules(x, y api.Hello) api.Verdict {
	if x.Blocks != y.Blocks || x.Pri && y.Pri || x.Inc && y.Inc || x.Dis && y.Dis {
		return refuse
	}
	if x.Inc {
		return ontoHalf(x, y, 1)
	}
	if y.Inc {
		return ontoHalf(y, x, 0)
	}
	if x.Dis {
		return api.Verdict{Kind: api.VerFull, Source: 1}
	}
	if y.Dis {
		return api.Verdict{Kind: api.VerFull, Source: 0}
	}
	if x.Vector.Current == y.Vector.Current {
		if x.Mask == 0 && y.Mask == 0 {
			return none
		}
		if !x.Pri && (y.Pri || y.Was && !x.Was) {
			return api.Verdict{Kind: api.VerMask, Source: 1}
		}
		return api.Verdict{Kind: api.VerMask, Source: 0}
	}
	inX, inY := placeOf(x.Vector, y.Vector.Current), placeOf(y.Vector, x.Vector.Current)
	switch {
	case inX == 1 && inY < 0:
		return api.Verdict{Kind: api.VerMask, Source: 0}
	case inX > 1 && inY < 0:
		return api.Verdict{Kind: api.VerFull, Source: 0}
	case inY == 1 && inX < 0:
		return api.Verdict{Kind: api.VerMask, Source: 1}
	case inY > 1 && inX < 0:
		return api.Verdict{Kind: api.VerFull, Source: 1}
	}
	return refuse
}

// ontoHalf is the second rule, of a half copied target, the other one, and its number.
func ontoHalf(target, other api.Hello, number int) api.Verdict {
	mask, full := api.Verdict{Kind: api.VerMask, Source: number}, api.Verdict{Kind: api.VerFull, Source: number}
	if other.Dis {
		return refuse
	}
	if placeOf(other.Vector, target.Vector.Bitmap) >= 0 {
		return mask
	}
	if target.Dis {
		return full
	}
	switch placeOf(other.Vector, target.Vector.Current) {
	case 0, 1:
		return mask
	case 2, 3:
		return full
	}
	return refuse
}

// vectors may be: all of the generations up to n, each one at each place, also at several.
func vectors(n uint64) []api.Vector {
	var l []api.Vector
	for c := uint64(1); c <= n; c++ {
		for b := uint64(0); b <= n; b++ {
			for o := uint64(0); o <= n; o++ {
				for p := uint64(0); p <= n; p++ {
					l = append(l, api.Vector{Current: c, Bitmap: b, Old: [2]uint64{o, p}})
				}
			}
		}
	}
	return l
}

// eachPair calls of all that two small hellos may be: the first one's Current is 1 (names of generations tell nothing), all other generations go up to 3; all flags; masks that are empty, and that aren't.
func eachPair(f func(x, y api.Hello)) {
	hellos := map[bool][]api.Hello{}
	for _, v := range vectors(3) {
		for _, flags := range flagsRight() {
			h := of(flags, 0, v.Current, v.Bitmap, v.Old[0], v.Old[1])
			hellos[true] = append(hellos[true], h)
			if v.Current == 1 {
				hellos[false] = append(hellos[false], h)
			}
		}
	}
	for _, x := range hellos[false] {
		for i, y := range hellos[true] {
			// Each pair of vectors and flags meets two of the four pairs of masks, each pair of flags all of them.
			x.Mask, y.Mask = 0, 0
			f(x, y)
			m := uint32(i/len(flagsRight())%3 + 1)
			x.Mask, y.Mask = m&1*2, m>>1*8
			f(x, y)
		}
	}
}

// drawnPairs are of hellos with few great generations, many blocks, of which sometimes the numbers are unlike, and masks of them.
func drawnPairs(n int, f func(x, y api.Hello)) {
	r := rand.New(rand.NewSource(1))
	gens := []uint64{0, 1, 255, 256, 1 << 32, 1<<32 + 1, 1 << 63, math.MaxInt64, math.MaxUint64}
	draw := func() api.Hello {
		g := func() uint64 { return gens[r.Intn(len(gens))] }
		h := of(flagsRight()[r.Intn(10)], 0, max(g(), 1), g(), g(), g())
		h.Blocks = 32
		if r.Intn(8) == 0 {
			h.Blocks = 1 + r.Intn(32)
		}
		if r.Intn(3) > 0 {
			h.Mask = r.Uint32() >> (32 - h.Blocks)
		}
		return h
	}
	for range n {
		f(draw(), draw())
	}
}

// turned is a verdict told from the other side.
func turned(v api.Verdict) api.Verdict {
	if v.Source >= 0 {
		v.Source = 1 - v.Source
	}
	return v
}

// decided: the verdict of two is this one, and turned about the same from the other side.
func decided(t *testing.T, x, y api.Hello, want api.Verdict) {
	t.Helper()
	if got := rule.Decide(x, y); got != want {
		t.Errorf("%v\n%v: %v, not %v", x, y, got, want)
	}
	if got := rule.Decide(y, x); got != turned(want) {
		t.Errorf("turned about\n%v\n%v: %v, not %v", y, x, got, turned(want))
	}
}

func mask(source int) api.Verdict { return api.Verdict{Kind: api.VerMask, Source: source} }
func full(source int) api.Verdict { return api.Verdict{Kind: api.VerFull, Source: source} }

// P11.1: the chapter's example, and those of the whole.
func TestDecideExamples(t *testing.T) {
	decided(t, of(0, 0, 8, 7), of(0, 0, 7), mask(0))
	// Two fresh ones, and one that wrote alone.
	decided(t, of(0, 0, 1), of(0, 0, 1), none)
	decided(t, of(pri, 2, 8, 1), of(0, 0, 1), mask(0))
	// Both wrote alone; then one is to be discarded.
	decided(t, of(0, 1, 8, 1), of(0, 1, 9, 1), refuse)
	decided(t, of(0, 1, 8, 1), of(dis, 1, 9, 1), full(0))
}

// P11.1: the first rule holds ahead of all others: here each other one would copy, or copy nothing.
func TestDecideUnlikeBlocks(t *testing.T) {
	for _, l := range [][2]api.Hello{
		{of(0, 0, 7), of(0, 0, 7)},
		{of(0, 2, 7), of(0, 0, 7)},
		{of(0, 0, 8, 7), of(0, 0, 7)},
		{of(0, 0, 9, 5, 7), of(0, 0, 7)},
		{of(inc, 0, 7), of(0, 0, 7)},
		{of(inc|dis, 0, 1), of(0, 0, 7)},
		{of(dis, 0, 1), of(0, 0, 7)},
		{of(pri, 0, 7), of(0, 0, 7)},
	} {
		for n := 1; n <= api.MaxBlocks; n++ {
			x, y := l[0], l[1]
			y.Blocks, y.Mask = n, 0
			if n == blocks {
				if got := rule.Decide(x, y); got == refuse {
					t.Errorf("%v\n%v: %v", x, y, got)
				}
				continue
			}
			decided(t, x, y, refuse)
		}
	}
}

// P11.1: the first rule: both primary, both half copied, or both to be discarded; both that were is no such thing.
func TestDecideBoth(t *testing.T) {
	for _, g := range []uint64{7, 8, 9} {
		for _, m := range []uint32{0, 3} {
			decided(t, of(pri, m, 7), of(pri, 0, g, 7), refuse)
			decided(t, of(pri, m, 7), of(pri|dis, 0, g, 7), refuse)
			decided(t, of(inc, m, 7), of(inc, 0, g, 7), refuse)
			decided(t, of(inc, m, 7), of(inc|dis, 0, g, 7), refuse)
			decided(t, of(inc|was, m, 7, g), of(inc, 0, g, 7), refuse)
			decided(t, of(dis, m, 7), of(dis, 0, g, 7), refuse)
			decided(t, of(dis, m, 7), of(dis|inc, 0, g, 7), refuse)
			decided(t, of(dis|pri, m, 7), of(dis|was, 0, g, 7), refuse)
			decided(t, of(dis|pri, m, 7), of(dis|inc, 0, g, 7), refuse)
		}
	}
	decided(t, of(was, 0, 7), of(was, 0, 7), none)
	decided(t, of(was, 0, 8, 7), of(was, 0, 7), mask(0))
}

// P11.1: the second rule: nothing goes on from data that are to be discarded, whatever the generations are.
func TestDecideHalfCopiedOfDiscarded(t *testing.T) {
	for _, flags := range []int{dis, dis | was, dis | pri} {
		for _, v := range [][]uint64{{9}, {9, 8, 7, 6}, {8, 9}, {1}} {
			for _, target := range []int{inc, inc | was} {
				decided(t, of(flags, 3, v...), of(target, 1, 9, 8), refuse)
				decided(t, of(flags, 0, v...), of(target, 0, 9), refuse)
			}
		}
	}
}

// P11.1: the second rule: a copying goes on by the mask where the target's Bitmap is anywhere in the source's vector, to be discarded or not.
func TestDecideHalfCopiedGoesOn(t *testing.T) {
	for _, target := range []int{inc, inc | was, inc | dis, inc | was | dis} {
		for _, flags := range []int{0, was, pri} {
			for _, m := range []uint32{0, 9} {
				for _, v := range [][]uint64{{8}, {9, 8}, {9, 6, 8}, {9, 6, 5, 8}, {9, 0, 8}, {9, 0, 0, 8}, {8, 7}, {9, 8, 7}, {8, 1, 7, 7}} {
					decided(t, of(flags, m, v...), of(target, 0, 7, 8), mask(0))
					decided(t, of(flags, m, v...), of(target, 15, 7, 8, 3, 4), mask(0))
					// Current isn't asked, if Bitmap is there: here it would be full.
					decided(t, of(flags, m, append(v[:len(v):len(v)], 7)...), of(target, 0, 7, 8), mask(0))
				}
			}
		}
	}
}

// P11.1: the second rule: no Bitmap is no generation, though the source has such numbers, and what the target has as Old, or the source in its mask, doesn't count.
func TestDecideHalfCopiedWithoutBitmap(t *testing.T) {
	decided(t, of(0, 0, 9), of(inc, 0, 7), refuse)
	decided(t, of(0, 15, 9, 6, 5, 4), of(inc, 15, 7), refuse)
	decided(t, of(0, 0, 9), of(inc, 0, 7, 8, 9, 9), refuse)
	decided(t, of(pri, 0, 9), of(inc, 0, 7, 0, 9, 9), refuse)
	decided(t, of(0, 0, 9), of(inc|dis, 0, 7), full(0))
	decided(t, of(0, 0, 9), of(inc|dis, 0, 7, 8, 9, 9), full(0))
}

// P11.1: the second rule: a half copied one that is to be discarded is copied whole, also where Current would tell of its mask.
func TestDecideHalfCopiedDiscarded(t *testing.T) {
	for _, flags := range []int{0, was, pri} {
		for _, v := range [][]uint64{{7}, {9, 7}, {9, 6, 7}, {9, 6, 5, 7}, {9, 6, 5, 4}} {
			decided(t, of(flags, 0, v...), of(inc|dis, 0, 7), full(0))
			decided(t, of(flags, 1, v...), of(inc|dis, 2, 7, 8), full(0))
			decided(t, of(flags, 1, v...), of(inc|dis|was, 2, 7, 8), full(0))
		}
	}
}

// P11.1: the second rule: by the place of the target's Current, with empty masks, too.
func TestDecideHalfCopiedByPlace(t *testing.T) {
	for _, target := range []int{inc, inc | was} {
		for _, flags := range []int{0, was, pri} {
			for _, m := range []uint32{0, 8} {
				for _, b := range []uint64{0, 8} {
					half := of(target, m, 7, b)
					decided(t, of(flags, 0, 7), half, mask(0))
					decided(t, of(flags, m, 7, 6, 5, 4), half, mask(0))
					decided(t, of(flags, 0, 9, 7), half, mask(0))
					decided(t, of(flags, 0, 9, 6, 7), half, full(0))
					decided(t, of(flags, m, 9, 6, 5, 7), half, full(0))
					decided(t, of(flags, m, 9, 0, 7), half, full(0))
					decided(t, of(flags, m, 9, 6, 5, 4), half, refuse)
					decided(t, of(flags, 0, 9), half, refuse)
					// The first of its places counts.
					decided(t, of(flags, 0, 7, 7, 7, 7), half, mask(0))
					decided(t, of(flags, 0, 9, 7, 7, 7), half, mask(0))
				}
			}
		}
	}
}

// P11.1: the second rule: a half copied one is the target even where it is the one that is ahead.
func TestDecideHalfCopiedAhead(t *testing.T) {
	decided(t, of(inc, 0, 9, 7), of(0, 0, 7), mask(1))
	decided(t, of(inc, 0, 9, 6, 7), of(0, 0, 7), refuse)
	decided(t, of(inc|was, 5, 9, 0, 7), of(0, 0, 7), refuse)
}

// P11.1: the third rule: who is to be discarded is copied onto, whole, whatever generations, masks and roles say.
func TestDecideDiscarded(t *testing.T) {
	for _, target := range []int{dis, dis | was} {
		for _, flags := range []int{0, was, pri} {
			for _, m := range []uint32{0, 6} {
				for _, v := range [][]uint64{{7}, {8, 7}, {9, 5, 7}, {9}, {9, 6, 5, 4}} {
					decided(t, of(flags, 0, v...), of(target, m, 7), full(0))
					decided(t, of(flags, m, v...), of(target, 0, 7, 9), full(0))
					decided(t, of(flags, m, v...), of(target, 1, 7, 0, 9, 8), full(0))
				}
			}
		}
	}
}

// P11.1: the fourth rule: of like generations nothing is copied with empty masks, whoever is or was primary, and whatever else the vectors have.
func TestDecideLikeWithoutMasks(t *testing.T) {
	for _, x := range []int{0, was, pri} {
		for _, y := range []int{0, was} {
			for _, v := range vectors(2) {
				decided(t, of(x, 0, 7), of(y, 0, 7, v.Bitmap, v.Old[0], v.Old[1]), none)
				decided(t, of(x, 0, 7, v.Bitmap, v.Old[1]), of(y, 0, 7, v.Current, v.Old[0], 7), none)
			}
		}
	}
}

// P11.1: the fourth rule: the source is who is primary, else who alone was, else the first one.
func TestDecideLike(t *testing.T) {
	for _, m := range [][2]uint32{{1, 0}, {0, 1}, {8, 8}, {15, 2}} {
		for _, v := range [][]uint64{{7}, {7, 3}, {7, 3, 4, 5}, {7, 7, 7, 7}} {
			decided(t, of(pri, m[0], 7), of(0, m[1], v...), mask(0))
			decided(t, of(pri, m[0], 7), of(was, m[1], v...), mask(0))
			decided(t, of(pri, m[0], v...), of(was, m[1], 7), mask(0))
			decided(t, of(was, m[0], 7), of(0, m[1], v...), mask(0))
			decided(t, of(was, m[0], v...), of(0, m[1], 7), mask(0))
			for _, flags := range []int{0, was} {
				if got := rule.Decide(of(flags, m[0], 7), of(flags, m[1], v...)); got != mask(0) {
					t.Errorf("%d, %v, %v: %v", flags, m, v, got)
				}
			}
		}
	}
}

// P11.1: the fifth rule: by the place of the one's Current in the other one's vector, masks and past roles telling nothing.
func TestDecideAhead(t *testing.T) {
	for _, x := range []int{0, was, pri} {
		for _, y := range []int{0, was} {
			for _, m := range [][2]uint32{{0, 0}, {2, 0}, {0, 2}, {15, 15}} {
				decided(t, of(x, m[0], 8, 7), of(y, m[1], 7), mask(0))
				decided(t, of(x, m[0], 8, 7, 6, 5), of(y, m[1], 7, 6, 5, 4), mask(0))
				decided(t, of(x, m[0], 8, 6, 7), of(y, m[1], 7), full(0))
				decided(t, of(x, m[0], 8, 0, 7), of(y, m[1], 7, 6), full(0))
				decided(t, of(x, m[0], 8, 6, 5, 7), of(y, m[1], 7), full(0))
				decided(t, of(x, m[0], 8, 0, 0, 7), of(y, m[1], 7), full(0))
				// The first of several places counts.
				decided(t, of(x, m[0], 8, 7, 7, 7), of(y, m[1], 7), mask(0))
			}
		}
	}
}

// P11.1: the sixth rule: neither one has the other one's Current, or each has, at whatever places.
func TestDecideApart(t *testing.T) {
	for _, x := range []int{0, was, pri} {
		for _, y := range []int{0, was} {
			for _, m := range []uint32{0, 5} {
				decided(t, of(x, m, 8), of(y, 0, 9), refuse)
				decided(t, of(x, m, 8, 7), of(y, 0, 9, 7), refuse)
				decided(t, of(x, 0, 8, 7, 6, 5), of(y, m, 9, 7, 6, 5), refuse)
				for _, a := range [][]uint64{{8, 9}, {8, 7, 9}, {8, 7, 6, 9}} {
					for _, b := range [][]uint64{{9, 8}, {9, 7, 8}, {9, 7, 6, 8}} {
						decided(t, of(x, m, a...), of(y, 0, b...), refuse)
					}
				}
			}
		}
	}
}

// P11.1, P11.3: nothing is copied onto a primary: not by the generations, not where it is to be discarded.
func TestDecideOntoPrimary(t *testing.T) {
	for _, m := range []uint32{0, 4} {
		for _, flags := range []int{0, was} {
			decided(t, of(flags, m, 8, 7), of(pri, 0, 7), refuse)
			decided(t, of(flags, m, 8, 6, 7), of(pri, 0, 7), refuse)
			decided(t, of(flags, m, 8, 6, 5, 7), of(pri, m, 7), refuse)
			decided(t, of(flags, m, 7), of(pri|dis, m, 7), refuse)
			decided(t, of(flags, m, 8, 7), of(pri|dis, 0, 7), refuse)
			decided(t, of(flags, m, 8), of(pri|dis, m, 7), refuse)
		}
		// Neither by the second rule: the primary isn't the target there, but it is to be discarded.
		decided(t, of(inc, m, 8, 7), of(pri|dis, 0, 7), refuse)
	}
}

// P11.1: any two hellos that may be, held against the chapter's rules; each kind of verdict comes often, of each source.
func TestDecideAll(t *testing.T) {
	times := map[api.Verdict]int{}
	look := func(x, y api.Hello) {
		got := rule.Decide(x, y)
		if got != verdictOf(x, y) {
			t.Fatalf("%v\n%v: %v, not %v", x, y, got, verdictOf(x, y))
		}
		times[got]++
	}
	eachPair(look)
	drawnPairs(500000, look)
	for _, v := range []api.Verdict{refuse, none, mask(0), mask(1), full(0), full(1)} {
		if times[v] < 1000 {
			t.Errorf("%v: %d times", v, times[v])
		}
	}
}

// P11.1: generations are told apart by all of their bits.
func TestDecideGreatGenerations(t *testing.T) {
	for i := range 64 {
		for j := range 64 {
			a, b := uint64(1)<<i, uint64(1)<<j
			if i != j {
				decided(t, of(0, 0, a), of(0, 0, b), refuse)
				decided(t, of(0, 0, a, b), of(0, 0, b), mask(0))
				decided(t, of(0, 0, a, a, b), of(0, 0, b), full(0))
				decided(t, of(0, 0, a), of(inc, 0, math.MaxUint64, b), refuse)
			} else {
				decided(t, of(0, 0, a), of(0, 0, b), none)
				decided(t, of(0, 0, a), of(inc, 0, math.MaxUint64, b), mask(0))
			}
		}
	}
}

// P11.1: each block of a mask counts, at either side.
func TestDecideEachBlock(t *testing.T) {
	for i := range 32 {
		x, y := of(pri, 1<<i, 7), of(0, 0, 7)
		x.Blocks, y.Blocks = 32, 32
		decided(t, x, y, mask(0))
		x.Mask, y.Mask = y.Mask, x.Mask
		decided(t, x, y, mask(0))
	}
}

// P11.1: of hellos that may not be nothing is promised, but that the call ends.
func TestDecideOfWrongHellosEnds(t *testing.T) {
	for flags := range 16 {
		for other := range 16 {
			for _, n := range []int{math.MinInt, -1, 0, 33, math.MaxInt} {
				x, y := of(flags, math.MaxUint32, 0), of(other, math.MaxUint32, 0, 0)
				x.Blocks, y.Blocks = n, n
				rule.Bits(rule.Decide(x, y), x, y)
				rule.Bits(full(0), x, y)
				rule.Bits(mask(1), y, x)
			}
		}
	}
}

// P11.1: the target is the other one than the source, whatever kind the verdict is; no other number is a source.
func TestTarget(t *testing.T) {
	for _, kind := range []int{0, api.VerNone, api.VerMask, api.VerFull, api.VerRefuse, 5, -1, math.MinInt, math.MaxInt} {
		for _, x := range []struct{ source, want int }{{0, 1}, {1, 0}, {-1, -1}, {2, -1}, {3, -1}, {-2, -1}, {256, -1}, {1 << 32, -1}, {1<<32 + 1, -1}, {math.MinInt, -1}, {math.MaxInt, -1}} {
			if got := rule.Target(api.Verdict{Kind: kind, Source: x.source}); got != x.want {
				t.Errorf("kind %d, source %d: %d", kind, x.source, got)
			}
		}
	}
	for source := -1000; source <= 1000; source++ {
		if got := rule.Target(api.Verdict{Kind: api.VerFull, Source: source}); source != 0 && source != 1 && got != -1 {
			t.Errorf("source %d: %d", source, got)
		}
	}
}

// retired is layer 5's word, once more: the generations that count, without the mask's.
func retired(v api.Vector) [3]uint64 {
	if v.Bitmap == 0 {
		return [3]uint64{v.Current, v.Old[0], v.Old[1]}
	}
	return [3]uint64{v.Current, v.Bitmap, v.Old[0]}
}

// P11.1: two agree by what stays behind the mask's retirement; those known by hand.
func TestSameKnown(t *testing.T) {
	v := func(c, b, o, p uint64) api.Vector {
		return api.Vector{Current: c, Bitmap: b, Old: [2]uint64{o, p}}
	}
	for i, x := range []struct {
		a, b api.Vector
		want bool
	}{
		{v(9, 7, 8, 6), v(9, 7, 8, 6), true},
		{v(9, 7, 8, 6), v(9, 0, 7, 8), true},
		// The last one has no room behind a retirement.
		{v(9, 7, 8, 6), v(9, 7, 8, 5), true},
		{v(9, 0, 7, 6), v(9, 0, 7, 5), false},
		{v(9, 7, 8, 6), v(9, 0, 8, 6), false},
		{v(9, 7, 8, 6), v(8, 7, 8, 6), false},
		{v(9, 7, 0, 0), v(9, 0, 7, 0), true},
		{v(9, 7, 0, 0), v(9, 0, 0, 7), false},
		{v(9, 7, 0, 5), v(9, 0, 7, 0), true},
		{v(9, 7, 8, 6), v(9, 8, 7, 6), false},
		{v(9, 0, 0, 0), v(9, 9, 0, 0), false},
		{v(9, 0, 0, 0), v(9, 0, 0, 0), true},
		{v(9, 0, 0, 0), v(9, 7, 0, 0), false},
		{v(0, 0, 0, 0), v(0, 0, 0, 0), true},
		{v(0, 1, 2, 3), v(0, 0, 1, 2), true},
		{v(0, 0, 0, 0), v(1, 0, 0, 0), false},
		{v(math.MaxUint64, 1<<32, 0, 0), v(math.MaxUint64, 0, 1<<32, 0), true},
		{v(math.MaxUint64, 1<<32, 0, 0), v(math.MaxUint64, 0, 1, 0), false},
	} {
		if rule.Same(x.a, x.b) != x.want || rule.Same(x.b, x.a) != x.want {
			t.Errorf("%d: %v, %v: not %v", i, x.a, x.b, x.want)
		}
	}
}

// P11.1: two agree or not, all of a few generations, also of such as may not be.
func TestSameAll(t *testing.T) {
	all := append(vectors(3), api.Vector{})
	for _, v := range vectors(3) {
		v.Current = 0
		all = append(all, v)
	}
	for _, a := range all {
		for _, b := range all {
			if got := rule.Same(a, b); got != (retired(a) == retired(b)) {
				t.Fatalf("%v, %v: %v", a, b, got)
			}
		}
	}
}

// P11.1: by the mask those of either one are copied, by a verdict of all as many as the first one has, by others none.
func TestBits(t *testing.T) {
	r := rand.New(rand.NewSource(3))
	for n := 1; n <= 32; n++ {
		for m := 1; m <= 32; m++ {
			for range 4 {
				x, y := of(0, 0, 7), of(0, 0, 7)
				x.Blocks, y.Blocks = n, m
				x.Mask, y.Mask = r.Uint32()>>(32-n), r.Uint32()>>(32-m)
				want := map[int]uint32{api.VerMask: x.Mask | y.Mask, api.VerFull: uint32(math.Pow(2, float64(n)) - 1)}
				for _, kind := range []int{0, api.VerNone, api.VerMask, api.VerFull, api.VerRefuse, 5, 6, -1, -2, 258, 1<<32 + 2, 1<<32 + 3, math.MinInt, math.MaxInt} {
					for _, source := range []int{0, 1, -1, 7} {
						if got := rule.Bits(api.Verdict{Kind: kind, Source: source}, x, y); got != want[kind] {
							t.Fatalf("kind %d, source %d, %v, %v: %#x", kind, source, x, y, got)
						}
					}
				}
			}
		}
	}
}

// P11.1: the masks alone tell, at the edges: none, the first and the last block, and all of 32.
func TestBitsEdges(t *testing.T) {
	masks := []uint32{0, 1, 1 << 31, 1<<31 + 1, 0x55555555, 0xaaaaaaaa, math.MaxUint32}
	for _, a := range masks {
		for _, b := range masks {
			x, y := of(0, a, 7), of(0, b, 7)
			x.Blocks, y.Blocks = 32, 32
			if got := rule.Bits(mask(0), x, y); got != a|b {
				t.Errorf("%#x, %#x: %#x", a, b, got)
			}
			if got := rule.Bits(full(1), x, y); got != math.MaxUint32 {
				t.Errorf("%#x, %#x: all %#x", a, b, got)
			}
			if got := rule.Bits(none, x, y) | rule.Bits(refuse, x, y); got != 0 {
				t.Errorf("%#x, %#x: none %#x", a, b, got)
			}
		}
	}
}

// P11.1: nothing is kept from call to call.
func TestCallsHangOnTheirArgumentsAlone(t *testing.T) {
	a, b, c := of(pri, 2, 8, 7), of(was, 1, 7), of(inc|dis, 0, 1)
	for range 3 {
		decided(t, a, b, mask(0))
		decided(t, b, c, full(0))
		if rule.Bits(mask(0), a, b) != 3 || rule.Bits(full(1), a, b) != 15 || rule.Bits(none, a, b) != 0 {
			t.Error("bits")
		}
		decided(t, a, of(0, 0, 9), refuse)
		if !rule.Same(a.Vector, a.Vector) || rule.Same(a.Vector, b.Vector) || rule.Target(mask(1)) != 0 {
			t.Error("same, or target")
		}
	}
}

// P11.2: turned about, the kind is the same, and the source the other one, but of like generations without a primary, where both were, or neither: the first one.
func TestEitherWay(t *testing.T) {
	times := map[bool]int{}
	look := func(x, y api.Hello) {
		v, w := rule.Decide(x, y), rule.Decide(y, x)
		first := v.Kind == api.VerMask && !x.Inc && !y.Inc && x.Vector.Current == y.Vector.Current && !x.Pri && !y.Pri && x.Was == y.Was
		if first && (v != mask(0) || w != mask(0)) || !first && w != turned(v) {
			t.Fatalf("%v\n%v: %v, turned about %v", x, y, v, w)
		}
		times[first]++
	}
	eachPair(look)
	drawnPairs(200000, look)
	if times[true] < 1000 || times[false] < 1000 {
		t.Errorf("%v", times)
	}
}

// P11.3: a source and a target are there where data are copied, and only there; never onto a primary, never from who is half copied or is to be discarded, and only along the line, but onto who is half copied or is to be discarded.
func TestNeverOntoPrimary(t *testing.T) {
	copied := 0
	look := func(x, y api.Hello) {
		v := rule.Decide(x, y)
		both := [2]api.Hello{x, y}
		if v.Kind == api.VerNone || v.Kind == api.VerRefuse {
			if v.Source != -1 || rule.Target(v) != -1 || rule.Bits(v, x, y) != 0 {
				t.Fatalf("%v\n%v: %v", x, y, v)
			}
			return
		}
		if v.Kind != api.VerMask && v.Kind != api.VerFull || v.Source != 0 && v.Source != 1 {
			t.Fatalf("%v\n%v: %v", x, y, v)
		}
		copied++
		source, target := both[v.Source], both[rule.Target(v)]
		if target.Pri || source.Inc || source.Dis {
			t.Fatalf("%v\n%v: %v", x, y, v)
		}
		if !target.Inc && !target.Dis && placeOf(source.Vector, target.Vector.Current) < 0 {
			t.Fatalf("off the line: %v\n%v: %v", x, y, v)
		}
	}
	eachPair(look)
	drawnPairs(200000, look)
	if copied < 10000 {
		t.Errorf("copied %d times", copied)
	}
}
