package super_test

import (
	"encoding/binary"
	"hash/fnv"
	"math"
	"math/rand"
	"strings"
	"testing"

	"gemination/api"
	"gemination/super"
)

const (
	textBytes = 37                 // without the seal
	sealOfOne = "\x12\x26\x3b\x86" // of one block, and the generation 1
)

// sealed is a text with its sum behind it, written without the packages of the program.
func sealed(text string) string {
	h := fnv.New32a()
	h.Write([]byte(text))
	return string(h.Sum([]byte(text)))
}

// textOf is the chapter's list of bytes, one by one, whether the superblock may be or not; the seal isn't there.
func textOf(s api.Super) string {
	b := []byte{71, 77, 1, byte(s.Blocks), 0}
	for i, on := range []bool{s.Inc, s.Pri, s.Dis} {
		if on {
			b[4] |= 1 << i
		}
	}
	for _, g := range []uint64{s.Vector.Current, s.Vector.Bitmap, s.Vector.Old[0], s.Vector.Old[1]} {
		b = binary.BigEndian.AppendUint64(b, g)
	}
	return string(b)
}

// superOf is the superblock of a text without its seal, and whether there is one.
func superOf(text string) (api.Super, bool) {
	if len(text) != textBytes {
		return api.Super{}, false
	}
	b := []byte(text)
	gen := func(i int) uint64 { return binary.BigEndian.Uint64(b[5+8*i:]) }
	if b[0] != 71 || b[1] != 77 || b[2] != 1 || b[3] == 0 || b[3] > 32 || b[4] > 7 || gen(0) == 0 {
		return api.Super{}, false
	}
	v := api.Vector{Current: gen(0), Bitmap: gen(1), Old: [2]uint64{gen(2), gen(3)}}
	return api.Super{Blocks: int(b[3]), Vector: v, Inc: b[4]%2 == 1, Pri: b[4]/2%2 == 1, Dis: b[4]/4 == 1}, true
}

// flagged is a superblock with the flags of a number's three lowest bits.
func flagged(s api.Super, flags int) api.Super {
	s.Inc, s.Pri, s.Dis = flags&1 != 0, flags&2 != 0, flags&4 != 0
	return s
}

// gens are none, those with a bit in each byte, and such as are none by their low or their high bits.
func gens() []uint64 {
	l := []uint64{0, 1, 2, 255, 256, 258, math.MaxUint32, 1 << 32, 1<<32 + 1, 1 << 63, math.MaxInt64, 0x0102030405060708, 0xfedcba9876543210, math.MaxUint64}
	for i := range 8 {
		l = append(l, 0x80<<(8*i))
	}
	return l
}

// someSupers may be: each number of blocks with all flags, each generation at each place, and many that are drawn.
func someSupers() []api.Super {
	var l []api.Super
	for blocks := 1; blocks <= api.MaxBlocks; blocks++ {
		for flags := range 8 {
			l = append(l, flagged(api.Super{Blocks: blocks, Vector: api.Vector{Current: uint64(blocks)}}, flags))
		}
	}
	for _, g := range gens() {
		l = append(l,
			api.Super{Blocks: 5, Vector: api.Vector{Current: max(g, 1)}},
			api.Super{Blocks: 5, Vector: api.Vector{Current: 7, Bitmap: g}},
			api.Super{Blocks: 5, Vector: api.Vector{Current: 7, Old: [2]uint64{g, 0}}},
			api.Super{Blocks: 5, Vector: api.Vector{Current: 7, Old: [2]uint64{0, g}}},
			api.Super{Blocks: 5, Vector: api.Vector{Current: max(g, 1), Bitmap: g, Old: [2]uint64{g, g}}})
	}
	r := rand.New(rand.NewSource(1))
	for range 2000 {
		v := api.Vector{Current: max(r.Uint64(), 1), Bitmap: r.Uint64(), Old: [2]uint64{r.Uint64(), r.Uint64()}}
		l = append(l, flagged(api.Super{Blocks: 1 + r.Intn(32), Vector: v}, r.Intn(8)))
	}
	return l
}

// wrongSupers may not be: by their blocks, which may have the low byte of a number that may be, or by their generation.
func wrongSupers() []api.Super {
	var l []api.Super
	for _, blocks := range []int{0, -1, 33, 34, 64, 255, 256, 257, 288, -224, -255, 1<<32 + 1, 1<<16 + 5, math.MinInt, math.MinInt + 1, math.MaxInt} {
		for flags := range 8 {
			l = append(l,
				flagged(api.Super{Blocks: blocks, Vector: api.Vector{Current: 1}}, flags),
				flagged(api.Super{Blocks: blocks, Vector: api.Vector{Current: math.MaxUint64, Bitmap: 2, Old: [2]uint64{3, 4}}}, flags))
		}
	}
	for blocks := range 34 {
		l = append(l,
			api.Super{Blocks: blocks},
			api.Super{Blocks: blocks, Vector: api.Vector{Bitmap: 1, Old: [2]uint64{1, 1}}, Inc: true, Pri: true, Dis: true})
	}
	return l
}

// P6.1: a superblock may be by its blocks and its current generation, whatever else it has.
func TestRight(t *testing.T) {
	for _, s := range someSupers() {
		if !super.Right(s) {
			t.Fatalf("may be: %v", s)
		}
	}
	for _, s := range wrongSupers() {
		if super.Right(s) {
			t.Fatalf("may not be: %v", s)
		}
	}
	for blocks := -300; blocks <= 600; blocks++ {
		if got := super.Right(api.Super{Blocks: blocks, Vector: api.Vector{Current: 1}}); got != (blocks >= 1 && blocks <= 32) {
			t.Errorf("%d blocks: %v", blocks, got)
		}
	}
}

// P6.1: bytes that are known, all of them.
func TestEncodeKnown(t *testing.T) {
	none := strings.Repeat("\x00", 7)
	for i, x := range []struct {
		s    api.Super
		want string
	}{
		{api.Super{Blocks: 1, Vector: api.Vector{Current: 1}}, "GM\x01\x01\x00" + none + "\x01" + strings.Repeat("\x00", 24)},
		{api.Super{Blocks: 5, Vector: api.Vector{Current: 258, Bitmap: 3, Old: [2]uint64{4, 5}}, Inc: true, Dis: true},
			"GM\x01\x05\x05" + none[:6] + "\x01\x02" + none + "\x03" + none + "\x04" + none + "\x05"},
		{api.Super{Blocks: 32, Vector: api.Vector{Current: math.MaxUint64, Bitmap: 1 << 56}, Inc: true, Pri: true, Dis: true},
			"GM\x01\x20\x07" + strings.Repeat("\xff", 8) + "\x01" + none + strings.Repeat("\x00", 16)},
		{api.Super{Blocks: 2, Vector: api.Vector{Current: 9}, Inc: true}, "GM\x01\x02\x01" + none + "\x09" + strings.Repeat("\x00", 24)},
		{api.Super{Blocks: 2, Vector: api.Vector{Current: 9}, Pri: true}, "GM\x01\x02\x02" + none + "\x09" + strings.Repeat("\x00", 24)},
		{api.Super{Blocks: 2, Vector: api.Vector{Current: 9}, Dis: true}, "GM\x01\x02\x04" + none + "\x09" + strings.Repeat("\x00", 24)},
	} {
		if got, e := super.Encode(x.s); e != api.OK || got != sealed(x.want) || len(got) != 41 {
			t.Errorf("%d: %q, %d", i, got, e)
		}
	}
	// The seal too, as it was worked out elsewhere.
	if got, _ := super.Encode(api.Super{Blocks: 1, Vector: api.Vector{Current: 1}}); got[textBytes:] != sealOfOne {
		t.Errorf("%q", got[textBytes:])
	}
}

// P6.1: 41 bytes as the chapter lists them, of each superblock that may be.
func TestEncode(t *testing.T) {
	for _, s := range someSupers() {
		got, e := super.Encode(s)
		if e != api.OK || len(got) != 41 || got != sealed(textOf(s)) {
			t.Fatalf("%v: %q, %d", s, got, e)
		}
	}
}

// P6.1: what may not be has no bytes.
func TestEncodeWrong(t *testing.T) {
	for _, s := range wrongSupers() {
		if got, e := super.Encode(s); e != api.ErrArg || got != "" {
			t.Fatalf("%v: %q, %d", s, got, e)
		}
	}
}

// P6.1: of the chapter's bytes the superblock, whoever wrote them.
func TestDecode(t *testing.T) {
	for _, s := range someSupers() {
		if got, e := super.Decode(sealed(textOf(s))); e != api.OK || got != s {
			t.Fatalf("%v: %v, %d", s, got, e)
		}
	}
}

// refused: bytes have just that error, and no superblock beside it.
func refused(t *testing.T, b string, want api.Errno) {
	t.Helper()
	if got, e := super.Decode(b); e != want || got != (api.Super{}) {
		t.Fatalf("%q: %v, %d, not %d", b, got, e, want)
	}
}

// P6.1: fewer than 4 bytes have not the form, whatever they are; of others the seal is looked at ahead of all else.
func TestDecodeSeal(t *testing.T) {
	for n := range 4 {
		for b := range 256 {
			refused(t, strings.Repeat(string([]byte{byte(b)}), n), api.ErrForm)
		}
	}
	good := textOf(api.Super{Blocks: 5, Vector: api.Vector{Current: 1}})
	refused(t, good[:3], api.ErrForm)
	for n := 4; n <= len(good); n++ {
		refused(t, good[:n], api.ErrCheck)
	}
	whole := sealed(good)
	refused(t, whole[:40], api.ErrCheck)
	refused(t, whole+"\x00", api.ErrCheck)
	refused(t, "\x00"+whole, api.ErrCheck)
	refused(t, whole[37:]+good, api.ErrCheck)
	refused(t, good+"\x00\x00\x00\x00", api.ErrCheck)
	refused(t, strings.Repeat("\x00", 41), api.ErrCheck)
	// Both are wrong: the seal tells.
	refused(t, "gM"+whole[2:], api.ErrCheck)
	refused(t, "GM\x01\x00"+whole[4:], api.ErrCheck)
	refused(t, whole+whole, api.ErrCheck)
}

// P6.1: what was sealed must have just as many bytes; one that is sealed twice isn't one.
func TestDecodeLength(t *testing.T) {
	good := textOf(api.Super{Blocks: 5, Vector: api.Vector{Current: 1, Bitmap: 2, Old: [2]uint64{3, 4}}, Pri: true})
	for n := range len(good) {
		refused(t, sealed(good[:n]), api.ErrForm)
		refused(t, sealed(good[n+1:]), api.ErrForm)
	}
	for n := 1; n < 50; n++ {
		refused(t, sealed(good+strings.Repeat("\x00", n)), api.ErrForm)
	}
	refused(t, sealed(sealed(good)), api.ErrForm)
	refused(t, sealed(good+good), api.ErrForm)
	refused(t, sealed(""), api.ErrForm)
	refused(t, sealed(strings.Repeat(good, 2000)), api.ErrForm)
}

// P6.1: each part that may not be, in bytes whose seal is right.
func TestDecodeParts(t *testing.T) {
	good := textOf(api.Super{Blocks: 5, Vector: api.Vector{Current: 1, Bitmap: 2, Old: [2]uint64{3, 4}}, Pri: true})
	for place, may := range map[int]func(b int) bool{
		0: func(b int) bool { return b == 71 },
		1: func(b int) bool { return b == 77 },
		2: func(b int) bool { return b == 1 },
		3: func(b int) bool { return b >= 1 && b <= 32 },
		4: func(b int) bool { return b <= 7 },
	} {
		for b := range 256 {
			x := sealed(good[:place] + string([]byte{byte(b)}) + good[place+1:])
			if !may(b) {
				refused(t, x, api.ErrForm)
			} else if _, e := super.Decode(x); e != api.OK {
				t.Errorf("byte %d is %d: %d", place, b, e)
			}
		}
	}
	refused(t, sealed(good[:5]+strings.Repeat("\x00", 8)+good[13:]), api.ErrForm)
	refused(t, sealed(good[:5]+strings.Repeat("\x00", 32)), api.ErrForm)
	refused(t, sealed(strings.Repeat("\x00", textBytes)), api.ErrForm)
	refused(t, sealed(strings.Repeat("\xff", textBytes)), api.ErrForm)
	for i := range 8 {
		one := strings.Repeat("\x00", i) + "\x01" + strings.Repeat("\x00", 7-i)
		if s, e := super.Decode(sealed(good[:5] + one + good[13:])); e != api.OK || s.Vector.Current != 1<<(56-8*i) {
			t.Errorf("current by its byte %d: %v, %d", i, s, e)
		}
	}
	// No generation but the current one must be there.
	if s, e := super.Decode(sealed(good[:13] + strings.Repeat("\x00", 24))); e != api.OK || s.Vector != (api.Vector{Current: 1}) {
		t.Error(s, e)
	}
}

// P6.1: any bytes have a superblock, or an error, just as the chapter's words have it.
func TestDecodeAnyBytes(t *testing.T) {
	r := rand.New(rand.NewSource(2))
	supers := someSupers()
	for range 50000 {
		x := []byte(textOf(supers[r.Intn(len(supers))]))
		for range r.Intn(3) {
			x[r.Intn(len(x))] = byte(r.Intn(256))
		}
		for range r.Intn(3) {
			x[r.Intn(6)] = byte(r.Intn(9))
		}
		switch r.Intn(20) {
		case 0:
			x = x[:r.Intn(len(x))]
		case 1:
			x = append(x, byte(r.Intn(256)))
		}
		want, ok := superOf(string(x))
		got, e := super.Decode(sealed(string(x)))
		if ok != (e == api.OK) || !ok && e != api.ErrForm || got != want {
			t.Fatalf("%q: %v, %d", x, got, e)
		}
	}
	for range 5000 {
		x := make([]byte, 4+r.Intn(80))
		r.Read(x)
		if string(x) != sealed(string(x[:len(x)-4])) {
			refused(t, string(x), api.ErrCheck)
		}
	}
}

// P6.1: nothing is kept from call to call.
func TestCallsHangOnTheirArgumentsAlone(t *testing.T) {
	a := api.Super{Blocks: 1, Vector: api.Vector{Current: 1}, Inc: true}
	b := api.Super{Blocks: 32, Vector: api.Vector{Current: 2, Bitmap: 3, Old: [2]uint64{4, 5}}, Pri: true, Dis: true}
	for range 3 {
		for _, s := range []api.Super{a, b, a} {
			x, e := super.Encode(s)
			if e != api.OK || x != sealed(textOf(s)) {
				t.Fatalf("%v: %q, %d", s, x, e)
			}
			super.Encode(api.Super{})
			super.Decode("junk!")
			if got, e := super.Decode(x); e != api.OK || got != s {
				t.Fatalf("%v: %v, %d", s, got, e)
			}
		}
	}
}

// P6.2: superblocks come back of their bytes, and no two have the same ones.
func TestThereAndBack(t *testing.T) {
	whose := map[string]api.Super{}
	for _, s := range someSupers() {
		b, e := super.Encode(s)
		if e != api.OK {
			t.Fatalf("%v: %d", s, e)
		}
		if got, e := super.Decode(b); e != api.OK || got != s {
			t.Fatalf("%v: %v, %d", s, got, e)
		}
		if other, ok := whose[b]; ok && other != s {
			t.Fatalf("%v and %v: %q", s, other, b)
		}
		whose[b] = s
	}
}

// P6.2: each byte of what was sealed changed to each other one, and sealed: refused, or another superblock, that has just these bytes.
func TestWhatIsDecodedHasTheseBytes(t *testing.T) {
	for _, s := range []api.Super{
		{Blocks: 1, Vector: api.Vector{Current: 1}},
		{Blocks: 32, Vector: api.Vector{Current: math.MaxUint64, Bitmap: 2, Old: [2]uint64{3, 4}}, Inc: true, Pri: true, Dis: true},
		{Blocks: 16, Vector: api.Vector{Current: 0x0102030405060708, Old: [2]uint64{1, 0}}, Dis: true},
	} {
		text := []byte(textOf(s))
		for i, was := range text {
			for b := range 256 {
				text[i] = byte(b)
				x := sealed(string(text))
				got, e := super.Decode(x)
				if e != api.OK {
					continue
				}
				if again, e := super.Encode(got); e != api.OK || again != x || (got == s) != (byte(b) == was) {
					t.Fatalf("%v, byte %d changed to %d: %v, %q", s, i, b, got, again)
				}
			}
			text[i] = was
		}
	}
}

// P6.2: a byte that is changed by somebody who doesn't seal anew is found.
func TestOneByteChanged(t *testing.T) {
	for _, s := range []api.Super{
		{Blocks: 1, Vector: api.Vector{Current: 1}},
		{Blocks: 32, Vector: api.Vector{Current: math.MaxUint64, Bitmap: 2, Old: [2]uint64{3, 4}}, Inc: true, Pri: true, Dis: true},
	} {
		good, _ := super.Encode(s)
		x := []byte(good)
		for i, was := range x {
			for b := range 256 {
				x[i] = byte(b)
				if byte(b) != was {
					refused(t, string(x), api.ErrCheck)
				}
			}
			x[i] = was
		}
	}
}
