package vector_test

import (
	"math"
	"math/rand"
	"slices"
	"testing"

	"gemination/api"
	"gemination/vector"
)

// gens are none, small ones, and such as are others only by their high bits, or are none by their low ones.
func gens() []uint64 {
	return []uint64{0, 1, 2, 3, 1 << 32, 1<<32 + 1, 1 << 63, 1<<63 + 1, math.MaxUint32, math.MaxUint64}
}

// someVectors are all that are made of gens: those that may not be, and those with one generation at many places, too.
func someVectors() []api.Vector {
	var l []api.Vector
	for _, current := range gens() {
		for _, bitmap := range gens() {
			for _, first := range gens() {
				for _, second := range gens() {
					l = append(l, api.Vector{Current: current, Bitmap: bitmap, Old: [2]uint64{first, second}})
				}
			}
		}
	}
	return l
}

// some has a generation at each place.
func some() api.Vector {
	return api.Vector{Current: 9, Bitmap: 8, Old: [2]uint64{7, 6}}
}

// placeOf is the first place, looked for from the last one on.
func placeOf(v api.Vector, g uint64) int {
	place := -1
	if v.Old[1] == g {
		place = 3
	}
	if v.Old[0] == g {
		place = 2
	}
	if v.Bitmap == g {
		place = 1
	}
	if v.Current == g {
		place = 0
	}
	if g == 0 {
		place = -1
	}
	return place
}

// P5.1: a vector may be just if it has a current generation, whatever else it has.
func TestRight(t *testing.T) {
	for _, v := range someVectors() {
		if got := vector.Right(v); got != (v.Current > 0) {
			t.Fatalf("Right(%v): %v", v, got)
		}
	}
	if vector.Right(api.Vector{}) || vector.Right(api.Vector{Bitmap: 1, Old: [2]uint64{1, 1}}) {
		t.Error("without a current one")
	}
	if !vector.Right(api.Vector{Current: 1}) || !vector.Right(api.Vector{Current: math.MaxUint64}) || !vector.Right(some()) {
		t.Error("with a current one")
	}
}

// P5.1: the first one of the places; none of 0, and of what isn't there.
func TestPlace(t *testing.T) {
	for _, v := range someVectors() {
		for _, g := range gens() {
			if got := vector.Place(v, g); got != placeOf(v, g) {
				t.Fatalf("Place(%v, %d): %d", v, g, got)
			}
		}
	}
	for _, x := range []struct {
		v    api.Vector
		g    uint64
		want int
	}{
		{some(), 9, 0}, {some(), 8, 1}, {some(), 7, 2}, {some(), 6, 3}, {some(), 5, -1}, {some(), 10, -1}, {some(), 0, -1},
		{some(), 1<<32 + 9, -1}, {some(), math.MaxUint64, -1},
		{api.Vector{}, 0, -1}, {api.Vector{}, 1, -1}, {api.Vector{Current: 1}, 0, -1},
		{api.Vector{Current: 5, Bitmap: 5, Old: [2]uint64{5, 5}}, 5, 0},
		{api.Vector{Current: 1, Bitmap: 5, Old: [2]uint64{5, 5}}, 5, 1},
		{api.Vector{Current: 1, Bitmap: 2, Old: [2]uint64{5, 5}}, 5, 2},
		{api.Vector{Current: 1, Old: [2]uint64{0, 5}}, 5, 3},
		{api.Vector{Bitmap: 5}, 5, 1},
	} {
		if got := vector.Place(x.v, x.g); got != x.want {
			t.Errorf("Place(%v, %d): %d, not %d", x.v, x.g, got, x.want)
		}
	}
}

// P5.1: of 7 one is minted behind the other: the mask's generation stays, and the elder ones move up.
func TestMintOneBehindTheOther(t *testing.T) {
	v := api.Vector{Current: 7}
	for i, want := range []api.Vector{
		{Current: 8, Bitmap: 7},
		{Current: 9, Bitmap: 7, Old: [2]uint64{8, 0}},
		{Current: 10, Bitmap: 7, Old: [2]uint64{9, 8}},
		{Current: 11, Bitmap: 7, Old: [2]uint64{10, 9}},
	} {
		next, e := vector.Mint(v, uint64(8+i))
		if e != api.OK || next != want {
			t.Fatalf("Mint(%v, %d): %v, %v", v, 8+i, next, e)
		}
		v = next
	}
}

// P5.1: what is minted is told by where each generation comes to, of vectors that may not be, and of generations that have a place already, too.
func TestMint(t *testing.T) {
	for _, v := range someVectors() {
		for _, g := range gens() {
			got, e := vector.Mint(v, g)
			if g == 0 {
				if e != api.ErrDraw || got != (api.Vector{}) {
					t.Fatalf("Mint(%v, 0): %v, %v", v, got, e)
				}
				continue
			}
			want := api.Vector{Current: g, Bitmap: v.Bitmap, Old: [2]uint64{v.Current, v.Old[0]}}
			if v.Bitmap == 0 {
				want = api.Vector{Current: g, Bitmap: v.Current, Old: [2]uint64{v.Old[0], v.Old[1]}}
			}
			if e != api.OK || got != want {
				t.Fatalf("Mint(%v, %d): %v, %v", v, g, got, e)
			}
		}
	}
	if got, e := vector.Mint(api.Vector{}, 3); e != api.OK || got != (api.Vector{Current: 3}) {
		t.Error("of nothing:", got, e)
	}
	if got, e := vector.Mint(api.Vector{Current: 3}, 3); e != api.OK || got != (api.Vector{Current: 3, Bitmap: 3}) {
		t.Error("once more:", got, e)
	}
	if got, e := vector.Mint(api.Vector{Current: 3, Old: [2]uint64{2, 1}}, 4); e != api.OK || got != (api.Vector{Current: 4, Bitmap: 3, Old: [2]uint64{2, 1}}) {
		t.Error("behind one that was retired:", got, e)
	}
	if got, e := vector.Mint(api.Vector{Bitmap: 8}, 0); e != api.ErrDraw || got != (api.Vector{}) {
		t.Error("none:", got, e)
	}
}

// P5.1: the mask's generation is the first elder one then; without one nothing changes.
func TestRetire(t *testing.T) {
	for _, v := range someVectors() {
		want := v
		if v.Bitmap != 0 {
			want = api.Vector{Current: v.Current, Old: [2]uint64{v.Bitmap, v.Old[0]}}
		}
		got := vector.Retire(v)
		if got != want {
			t.Fatalf("Retire(%v): %v", v, got)
		}
		if again := vector.Retire(got); again != got {
			t.Fatalf("Retire(%v): %v", got, again)
		}
	}
	for _, x := range []struct{ v, want api.Vector }{
		{api.Vector{}, api.Vector{}},
		{api.Vector{Current: 7}, api.Vector{Current: 7}},
		{api.Vector{Current: 8, Bitmap: 7}, api.Vector{Current: 8, Old: [2]uint64{7, 0}}},
		{some(), api.Vector{Current: 9, Old: [2]uint64{8, 7}}},
		{api.Vector{Current: 9, Old: [2]uint64{7, 6}}, api.Vector{Current: 9, Old: [2]uint64{7, 6}}},
		{api.Vector{Bitmap: 5}, api.Vector{Old: [2]uint64{5, 0}}},
	} {
		if got := vector.Retire(x.v); got != x.want {
			t.Errorf("Retire(%v): %v", x.v, got)
		}
	}
}

// P5.1: only the mask's generation is another one; none, too.
func TestFrom(t *testing.T) {
	for _, v := range someVectors() {
		for _, g := range gens() {
			want := api.Vector{Current: v.Current, Bitmap: g, Old: [2]uint64{v.Old[0], v.Old[1]}}
			if got := vector.From(v, g); got != want {
				t.Fatalf("From(%v, %d): %v", v, g, got)
			}
		}
	}
	if got := vector.From(some(), 0); got != (api.Vector{Current: 9, Old: [2]uint64{7, 6}}) {
		t.Error(got)
	}
}

// P5.1: each of a list has a place, however many there are; of none each one has.
func TestHas(t *testing.T) {
	for i, x := range []struct {
		v    api.Vector
		l    []uint64
		want bool
	}{
		{some(), nil, true}, {some(), []uint64{}, true}, {api.Vector{}, nil, true},
		{some(), []uint64{9}, true}, {some(), []uint64{8}, true}, {some(), []uint64{7}, true}, {some(), []uint64{6}, true},
		{some(), []uint64{6, 7, 8, 9}, true}, {some(), []uint64{9, 9, 6, 6, 9}, true},
		{some(), slices.Repeat([]uint64{6, 9}, 5000), true}, {some(), append(slices.Repeat([]uint64{6, 9}, 5000), 5), false},
		{some(), []uint64{5}, false}, {some(), []uint64{5, 9}, false}, {some(), []uint64{9, 5, 8}, false}, {some(), []uint64{9, 8, 5}, false},
		{some(), []uint64{0}, false}, {some(), []uint64{9, 0}, false}, {some(), []uint64{0, 9}, false},
		{api.Vector{}, []uint64{0}, false}, {api.Vector{Current: 1}, []uint64{0}, false}, {api.Vector{}, []uint64{1}, false},
		{some(), []uint64{1<<32 + 9}, false}, {api.Vector{Current: math.MaxUint64}, []uint64{math.MaxUint64}, true},
	} {
		if got := vector.Has(x.v, x.l...); got != x.want {
			t.Errorf("%d: Has(%v, %v): %v", i, x.v, x.l, got)
		}
	}
	r := rand.New(rand.NewSource(1))
	vectors := someVectors()
	for range 20000 {
		v := vectors[r.Intn(len(vectors))]
		places := []uint64{v.Current, v.Bitmap, v.Old[0], v.Old[1]}
		want := true
		var l []uint64
		for range r.Intn(5) {
			g := places[r.Intn(len(places))]
			if r.Intn(6) == 0 {
				g = gens()[r.Intn(len(gens()))]
			}
			l = append(l, g)
			want = want && placeOf(v, g) >= 0
		}
		if got := vector.Has(v, l...); got != want {
			t.Fatalf("Has(%v, %v): %v", v, l, got)
		}
	}
}

// P5.1: what is handed in stays as it was, the spare room of a list too, and nothing is kept from call to call.
func TestArgumentsStayAsTheyWere(t *testing.T) {
	v := some()
	for range 2 {
		if got, e := vector.Mint(v, 10); e != api.OK || got != (api.Vector{Current: 10, Bitmap: 8, Old: [2]uint64{9, 7}}) {
			t.Error("Mint:", got, e)
		}
		if got := vector.Retire(v); got != (api.Vector{Current: 9, Old: [2]uint64{8, 7}}) {
			t.Error("Retire:", got)
		}
		if got := vector.From(v, 3); got != (api.Vector{Current: 9, Bitmap: 3, Old: [2]uint64{7, 6}}) {
			t.Error("From:", got)
		}
		vector.Mint(v, 0)
		vector.Right(v)
		vector.Place(v, 6)
		if v != some() {
			t.Fatal(v)
		}
	}
	for _, whole := range [][]uint64{{9, 8, 7, 6}, {6, 9, 6, 9}, {9, 5, 8, 0, 7}} {
		was := slices.Clone(whole)
		for k := range len(whole) + 1 {
			vector.Has(v, whole[:k]...)
			if !slices.Equal(whole, was) || v != some() {
				t.Fatal(was, whole, k)
			}
		}
	}
}

// P5.2: what was current, or the mask's, when something was minted, or retired, has a place then.
func TestElderOnesStay(t *testing.T) {
	for _, v := range someVectors() {
		retired := vector.Retire(v)
		for _, g := range gens() {
			if place := vector.Place(v, g); place != 0 && place != 1 {
				continue
			}
			if vector.Place(retired, g) < 0 || !vector.Has(retired, g) {
				t.Fatalf("%d is lost: %v, then %v", g, v, retired)
			}
			for _, drawn := range gens() {
				minted, e := vector.Mint(v, drawn)
				if e == api.OK && (vector.Place(minted, g) < 0 || !vector.Has(minted, drawn, g)) {
					t.Fatalf("%d is lost: %v, then %v", g, v, minted)
				}
			}
		}
	}
}

// P5.2: so in long pasts of mints and retirements: the mask's generation stays till it is retired, and the two that became elder ones last stand behind it, the later one first.
func TestElderOnesStayInLongPasts(t *testing.T) {
	r := rand.New(rand.NewSource(2))
	for range 300 {
		v := api.Vector{Current: 1}
		var mask uint64    // 0: none
		var elder []uint64 // in order: what was retired, and what was current when one was minted beside a mask
		for drawn := uint64(2); drawn < 30; drawn++ {
			was := v.Current
			if r.Intn(3) == 0 {
				v = vector.Retire(v)
				if mask != 0 {
					elder = append(elder, mask)
				}
				mask = 0
			} else {
				v, _ = vector.Mint(v, drawn)
				if mask == 0 {
					mask = was
				} else {
					elder = append(elder, was)
				}
				was = drawn
			}
			if v.Current != was || v.Bitmap != mask {
				t.Fatalf("%v: not %d, %d", v, was, mask)
			}
			for k := range min(len(elder), 2) {
				if g := elder[len(elder)-1-k]; vector.Place(v, g) != 2+k {
					t.Fatalf("%v: of %d another place than %d", v, g, 2+k)
				}
			}
		}
	}
}
