package hello_test

import (
	"encoding/binary"
	"math"
	"math/rand"
	"strings"
	"testing"

	"gemination/api"
	"gemination/hello"
)

const allBytes = 38

// bytesOf is the chapter's list of bytes, one by one, whether the hello may be or not; the low byte of Blocks alone.
func bytesOf(h api.Hello) string {
	b := []byte{byte(h.Blocks), 0}
	for i, on := range []bool{h.Inc, h.Was, h.Dis, h.Pri} {
		if on {
			b[1] += 1 << i
		}
	}
	for _, g := range []uint64{h.Vector.Current, h.Vector.Bitmap, h.Vector.Old[0], h.Vector.Old[1]} {
		b = binary.BigEndian.AppendUint64(b, g)
	}
	return string(binary.BigEndian.AppendUint32(b, h.Mask))
}

// mayBe is the chapter's rule, in numbers without end.
func mayBe(h api.Hello) bool {
	if h.Blocks < 1 || h.Blocks > 32 || h.Vector.Current == 0 {
		return false
	}
	return float64(h.Mask) < math.Pow(2, float64(h.Blocks)) && (!h.Pri || !h.Was && !h.Inc)
}

// helloOf is the hello of bytes, and whether there is one.
func helloOf(s string) (api.Hello, bool) {
	if len(s) != allBytes || s[1] > 15 {
		return api.Hello{}, false
	}
	b := []byte(s)
	gen := func(i int) uint64 { return binary.BigEndian.Uint64(b[2+8*i:]) }
	v := api.Vector{Current: gen(0), Bitmap: gen(1), Old: [2]uint64{gen(2), gen(3)}}
	h := flagged(api.Hello{Blocks: int(b[0]), Vector: v, Mask: binary.BigEndian.Uint32(b[34:])}, int(b[1]))
	if !mayBe(h) {
		return api.Hello{}, false
	}
	return h, true
}

// flagged is a hello with the flags of a number's four lowest bits.
func flagged(h api.Hello, flags int) api.Hello {
	h.Inc, h.Was, h.Dis, h.Pri = flags&1 != 0, flags&2 != 0, flags&4 != 0, flags&8 != 0
	return h
}

// flagsRight are the numbers of the flags that may be together: all without Pri, and with it Dis alone, or none.
func flagsRight() []int { return []int{0, 1, 2, 3, 4, 5, 6, 7, 8, 12} }

// flagsWrong are the others: Pri with Inc, with Was, or with both.
func flagsWrong() []int { return []int{9, 10, 11, 13, 14, 15} }

// full has another number at each place.
func full() api.Hello {
	v := api.Vector{Current: 0x0102030405060708, Bitmap: 0x1112131415161718, Old: [2]uint64{0x2122232425262728, 0x3132333435363738}}
	return api.Hello{Blocks: 27, Vector: v, Mask: 0x01020304}
}

// gens are none, those with a bit in each byte, and such as are none by their low or their high bits.
func gens() []uint64 {
	l := []uint64{0, 1, 2, 255, 256, 258, math.MaxUint32, 1 << 32, 1<<32 + 1, 1 << 63, math.MaxInt64, 0x0102030405060708, 0xfedcba9876543210, math.MaxUint64}
	for i := range 8 {
		l = append(l, 0x80<<(8*i))
	}
	return l
}

// rightMasks are of so many blocks: none, all, each alone, all but each, and a few that are drawn.
func rightMasks(r *rand.Rand, blocks int) []uint32 {
	all := uint32(1<<blocks - 1)
	l := []uint32{0, all}
	for i := range blocks {
		l = append(l, 1<<i, all&^(1<<i))
	}
	for range 5 {
		l = append(l, r.Uint32()&all)
	}
	return l
}

// someHellos may be: each number of blocks with all flags that may be and many masks, each generation at each place, and many that are drawn.
func someHellos() []api.Hello {
	r := rand.New(rand.NewSource(1))
	var l []api.Hello
	for blocks := 1; blocks <= api.MaxBlocks; blocks++ {
		for _, m := range rightMasks(r, blocks) {
			for _, flags := range flagsRight() {
				l = append(l, flagged(api.Hello{Blocks: blocks, Vector: api.Vector{Current: uint64(blocks)}, Mask: m}, flags))
			}
		}
	}
	for _, g := range gens() {
		for _, v := range []api.Vector{
			{Current: max(g, 1)},
			{Current: 7, Bitmap: g},
			{Current: 7, Old: [2]uint64{g, 0}},
			{Current: 7, Old: [2]uint64{0, g}},
			{Current: max(g, 1), Bitmap: g, Old: [2]uint64{g, g}},
		} {
			l = append(l, api.Hello{Blocks: 5, Vector: v, Mask: 9})
		}
	}
	for range 2000 {
		h := full()
		h.Blocks = 1 + r.Intn(32)
		h.Vector = api.Vector{Current: max(r.Uint64(), 1), Bitmap: r.Uint64(), Old: [2]uint64{r.Uint64(), r.Uint64()}}
		h.Mask = r.Uint32() >> (32 - h.Blocks)
		l = append(l, flagged(h, flagsRight()[r.Intn(10)]))
	}
	return append(l, full())
}

// wrongHellos may not be: by their blocks, which may have the low byte of a number that may be, by their generation, by their mask, by their flags, or by several.
func wrongHellos() []api.Hello {
	v := api.Vector{Current: 1, Bitmap: 2, Old: [2]uint64{3, 4}}
	var l []api.Hello
	for _, blocks := range []int{0, -1, -31, -32, -33, 33, 34, 64, 255, 256, 257, 288, -224, -255, 1<<32 + 1, 1<<32 + 32, 1<<16 + 5, math.MinInt, math.MinInt + 1, math.MaxInt} {
		for flags := range 16 {
			for _, m := range []uint32{0, 1, math.MaxUint32} {
				l = append(l, flagged(api.Hello{Blocks: blocks, Vector: v, Mask: m}, flags))
			}
		}
	}
	for blocks := 1; blocks <= 32; blocks++ {
		for flags := range 16 {
			none := api.Vector{Bitmap: 1, Old: [2]uint64{1, 1}}
			l = append(l, flagged(api.Hello{Blocks: blocks}, flags), flagged(api.Hello{Blocks: blocks, Vector: none, Mask: 1}, flags))
		}
		for _, flags := range flagsWrong() {
			l = append(l, flagged(api.Hello{Blocks: blocks, Vector: v}, flags), flagged(api.Hello{Blocks: blocks, Vector: v, Mask: 1}, flags))
		}
		for i := blocks; i < 32; i++ {
			for flags := range 16 {
				l = append(l, flagged(api.Hello{Blocks: blocks, Vector: v, Mask: 1 << i}, flags), flagged(api.Hello{Blocks: blocks, Vector: v, Mask: 1<<i + 1}, flags))
			}
		}
	}
	return append(l, api.Hello{})
}

// P10.1: a hello tells what its superblock, its role and its mask are, whatever they are: each field by each other one.
func TestOf(t *testing.T) {
	supers := []api.Super{{}, {Blocks: 3, Vector: api.Vector{Current: 9}}, {Blocks: 27, Vector: full().Vector}, {Blocks: math.MinInt}, {Blocks: 257, Vector: api.Vector{Bitmap: 1}}}
	for _, s := range supers {
		for flags := range 8 {
			s.Inc, s.Pri, s.Dis = flags&1 != 0, flags&2 != 0, flags&4 != 0
			for _, primary := range []bool{false, true} {
				for _, m := range []uint32{0, 5, 1 << 31, math.MaxUint32} {
					want := api.Hello{Blocks: s.Blocks, Vector: s.Vector, Inc: s.Inc, Dis: s.Dis, Mask: m}
					if primary {
						want.Pri = true
					} else if s.Pri {
						want.Was = true
					}
					if got := hello.Of(s, primary, m); got != want {
						t.Fatalf("Of(%v, %v, %d): %v", s, primary, m, got)
					}
				}
			}
		}
	}
}

// P10.1: who is primary says Pri, who was says Was, and nobody says both.
func TestOfRole(t *testing.T) {
	for i, x := range []struct{ super, primary, pri, was bool }{
		{false, false, false, false},
		{false, true, true, false},
		{true, false, false, true},
		{true, true, true, false},
	} {
		h := hello.Of(api.Super{Blocks: 1, Vector: api.Vector{Current: 1}, Pri: x.super}, x.primary, 1)
		if h.Pri != x.pri || h.Was != x.was || !hello.Right(h) {
			t.Error(i, h)
		}
	}
}

// P10.1: the hello of a node that is primary and half copied may not be; that of one that was may.
func TestOfHalfCopied(t *testing.T) {
	s := api.Super{Blocks: 1, Vector: api.Vector{Current: 1}, Inc: true, Pri: true}
	if h := hello.Of(s, true, 0); hello.Right(h) {
		t.Error(h)
	}
	if h := hello.Of(s, false, 0); !hello.Right(h) || !h.Inc || !h.Was {
		t.Error(h)
	}
}

// P10.1: a hello may be by its blocks, its current generation, its mask, and its flags, whatever else it has.
func TestRight(t *testing.T) {
	for _, h := range someHellos() {
		if !hello.Right(h) {
			t.Fatalf("may be: %v", h)
		}
	}
	for _, h := range wrongHellos() {
		if hello.Right(h) {
			t.Fatalf("may not be: %v", h)
		}
	}
	if len(flagsRight())+len(flagsWrong()) != 16 {
		t.Error("not each flag with each other one")
	}
}

// P10.1: each number of blocks, near those that may be and those of a byte, with the edges of a mask.
func TestRightBlocksAndMask(t *testing.T) {
	masks := []uint32{0, math.MaxUint32}
	for i := range 32 {
		masks = append(masks, 1<<i, 1<<i-1, ^uint32(1<<i))
	}
	for blocks := -300; blocks <= 600; blocks++ {
		for _, m := range masks {
			h := api.Hello{Blocks: blocks, Vector: api.Vector{Current: 1}, Mask: m}
			if got := hello.Right(h); got != mayBe(h) {
				t.Errorf("%d blocks, mask %#x: %v", blocks, m, got)
			}
		}
	}
}

// P10.1: bytes that are known, all of them.
func TestEncodeKnown(t *testing.T) {
	none := strings.Repeat("\x00", 7)
	one := api.Vector{Current: 9}
	nine := none + "\x09" + strings.Repeat("\x00", 24)
	for i, x := range []struct {
		h    api.Hello
		want string
	}{
		{api.Hello{Blocks: 1, Vector: api.Vector{Current: 1}}, "\x01\x00" + none + "\x01" + strings.Repeat("\x00", 28)},
		{api.Hello{Blocks: 5, Vector: api.Vector{Current: 258, Bitmap: 3, Old: [2]uint64{4, 5}}, Inc: true, Dis: true, Mask: 18},
			"\x05\x05" + none[:6] + "\x01\x02" + none + "\x03" + none + "\x04" + none + "\x05\x00\x00\x00\x12"},
		{api.Hello{Blocks: 32, Vector: api.Vector{Current: math.MaxUint64, Bitmap: 1 << 56}, Inc: true, Was: true, Dis: true, Mask: 0x81020304},
			"\x20\x07" + strings.Repeat("\xff", 8) + "\x01" + none + strings.Repeat("\x00", 16) + "\x81\x02\x03\x04"},
		{api.Hello{Blocks: 2, Vector: one, Inc: true}, "\x02\x01" + nine + "\x00\x00\x00\x00"},
		{api.Hello{Blocks: 2, Vector: one, Was: true}, "\x02\x02" + nine + "\x00\x00\x00\x00"},
		{api.Hello{Blocks: 2, Vector: one, Dis: true}, "\x02\x04" + nine + "\x00\x00\x00\x00"},
		{api.Hello{Blocks: 2, Vector: one, Pri: true}, "\x02\x08" + nine + "\x00\x00\x00\x00"},
		{api.Hello{Blocks: 2, Vector: one, Pri: true, Dis: true, Mask: 3}, "\x02\x0c" + nine + "\x00\x00\x00\x03"},
	} {
		if got, e := hello.Encode(x.h); e != api.OK || got != x.want || len(got) != 38 {
			t.Errorf("%d: %q, %d", i, got, e)
		}
	}
}

// P10.1: 38 bytes as the chapter lists them, of each hello that may be.
func TestEncode(t *testing.T) {
	for _, h := range someHellos() {
		got, e := hello.Encode(h)
		if e != api.OK || len(got) != allBytes || got != bytesOf(h) {
			t.Fatalf("%v: %q, %d", h, got, e)
		}
	}
}

// P10.1: what may not be has no bytes.
func TestEncodeWrong(t *testing.T) {
	for _, h := range wrongHellos() {
		if got, e := hello.Encode(h); e != api.ErrArg || got != "" {
			t.Fatalf("%v: %q, %d", h, got, e)
		}
	}
}

// P10.1: of the chapter's bytes the hello, whoever wrote them.
func TestDecode(t *testing.T) {
	for _, h := range someHellos() {
		if got, e := hello.Decode(bytesOf(h)); e != api.OK || got != h {
			t.Fatalf("%v: %v, %d", h, got, e)
		}
	}
}

// refused: bytes have not the form, and no hello stands beside that.
func refused(t *testing.T, b string) {
	t.Helper()
	if got, e := hello.Decode(b); e != api.ErrForm || got != (api.Hello{}) {
		t.Fatalf("%.60q: %v, %d", b, got, e)
	}
}

// P10.1: only just so many bytes are a hello.
func TestDecodeLength(t *testing.T) {
	good := bytesOf(full())
	for n := range len(good) {
		refused(t, good[:n])
		refused(t, good[n+1:])
	}
	for n := 1; n < 50; n++ {
		refused(t, good+strings.Repeat("\x00", n))
		refused(t, strings.Repeat("\x00", n)+good)
		refused(t, strings.Repeat("\x01", n)+good)
	}
	for n := range 600 {
		refused(t, strings.Repeat("\x00", n))
		if n != allBytes {
			refused(t, strings.Repeat("\x01", n))
		}
	}
	refused(t, good+good)
	refused(t, strings.Repeat(good, 2000))
	// Bytes are counted, not runes: this has 38 runes.
	refused(t, strings.Repeat("é", allBytes))
}

// P10.1: a hello isn't sealed: bytes with a sum behind them, as others have it, are none.
func TestDecodeSealed(t *testing.T) {
	good := bytesOf(full())
	refused(t, good+"\x81\x1c\x9d\xc5")
	// As long as a hello, but a superblock: of 41 bytes the first ones, or the last ones.
	block := "GM\x01\x05\x00" + strings.Repeat("\x00", 7) + "\x01" + strings.Repeat("\x00", 28)
	refused(t, block)
	refused(t, block[:allBytes])
}

// P10.1: each byte of the blocks and of the flags, alone.
func TestDecodeParts(t *testing.T) {
	h := full()
	h.Mask = 0
	good := bytesOf(h)
	for b := range 256 {
		x := string([]byte{byte(b)}) + good[1:]
		got, e := hello.Decode(x)
		if may := b >= 1 && b <= 32; may != (e == api.OK) || may && got.Blocks != b {
			t.Errorf("blocks %d: %v, %d", b, got, e)
		} else if !may {
			refused(t, x)
		}
	}
	may := map[int]bool{}
	for _, flags := range flagsRight() {
		may[flags] = true
	}
	for b := range 256 {
		x := good[:1] + string([]byte{byte(b)}) + good[2:]
		if !may[b] {
			refused(t, x)
		} else if got, e := hello.Decode(x); e != api.OK || got != flagged(h, b) {
			t.Errorf("flags %d: %v, %d", b, got, e)
		}
	}
}

// P10.1: the current generation isn't 0, by any of its bytes; no other one must be there.
func TestDecodeGenerations(t *testing.T) {
	good := bytesOf(full())
	refused(t, good[:2]+strings.Repeat("\x00", 8)+good[10:])
	refused(t, good[:2]+strings.Repeat("\x00", 32)+good[34:])
	refused(t, strings.Repeat("\x00", allBytes))
	refused(t, strings.Repeat("\xff", allBytes))
	for i := range 32 {
		x := []byte(good[:2] + strings.Repeat("\x00", 32) + good[34:])
		x[2+i] = 1
		l := [4]uint64{}
		l[i/8] = 1 << (56 - 8*(i%8))
		if i >= 8 {
			// Without a current one nothing would be decoded.
			x[2+7], l[0] = 1, 1
		}
		want := api.Vector{Current: l[0], Bitmap: l[1], Old: [2]uint64{l[2], l[3]}}
		if h, e := hello.Decode(string(x)); e != api.OK || h.Vector != want {
			t.Errorf("byte %d: %v, %d", i, h, e)
		}
	}
}

// P10.1: a block that there isn't is in no mask, of any number of blocks.
func TestDecodeMask(t *testing.T) {
	good := bytesOf(full())
	for blocks := 1; blocks <= 32; blocks++ {
		for i := range 32 {
			b := binary.BigEndian.AppendUint32([]byte(string([]byte{byte(blocks)})+good[1:34]), 1<<i)
			if i >= blocks {
				refused(t, string(b))
			} else if h, e := hello.Decode(string(b)); e != api.OK || h.Mask != 1<<i || h.Blocks != blocks {
				t.Fatalf("block %d of %d: %v, %d", i, blocks, h, e)
			}
		}
	}
}

// P10.1: any bytes have a hello, or an error, just as the chapter's words have it.
func TestDecodeAnyBytes(t *testing.T) {
	r := rand.New(rand.NewSource(2))
	hellos := someHellos()
	right := 0
	for range 50000 {
		x := []byte(bytesOf(hellos[r.Intn(len(hellos))]))
		for range r.Intn(3) {
			x[r.Intn(len(x))] = byte(r.Intn(256))
		}
		for range r.Intn(3) {
			x[r.Intn(2)] = byte(r.Intn(40))
		}
		switch r.Intn(20) {
		case 0:
			x = x[:r.Intn(len(x))]
		case 1:
			x = append(x, byte(r.Intn(256)))
		}
		want, ok := helloOf(string(x))
		got, e := hello.Decode(string(x))
		if ok != (e == api.OK) || !ok && e != api.ErrForm || got != want {
			t.Fatalf("%q: %v, %d", x, got, e)
		}
		if ok {
			right++
		}
	}
	if right < 5000 || right > 45000 {
		t.Errorf("hellos among these bytes: %d", right)
	}
}

// P10.1: nothing is kept from call to call.
func TestCallsHangOnTheirArgumentsAlone(t *testing.T) {
	a := api.Hello{Blocks: 1, Vector: api.Vector{Current: 1}, Inc: true, Was: true}
	b := full()
	b.Pri = true
	for range 3 {
		for _, h := range []api.Hello{a, b, a} {
			x, e := hello.Encode(h)
			if e != api.OK || x != bytesOf(h) {
				t.Fatalf("%v: %q, %d", h, x, e)
			}
			hello.Encode(api.Hello{})
			hello.Decode("junk!")
			hello.Of(api.Super{Blocks: 7, Pri: true}, false, 3)
			if got, e := hello.Decode(x); e != api.OK || got != h {
				t.Fatalf("%v: %v, %d", h, got, e)
			}
		}
	}
}

// P10.2: hellos come back of their bytes, and no two have the same ones.
func TestThereAndBack(t *testing.T) {
	whose := map[string]api.Hello{}
	for _, h := range someHellos() {
		b, e := hello.Encode(h)
		if e != api.OK {
			t.Fatalf("%v: %d", h, e)
		}
		if got, e := hello.Decode(b); e != api.OK || got != h {
			t.Fatalf("%v: %v, %d", h, got, e)
		}
		if other, ok := whose[b]; ok && other != h {
			t.Fatalf("%v and %v: %q", h, other, b)
		}
		whose[b] = h
	}
}

// P10.2: each byte changed to each other one: refused, or another hello, that has just these bytes.
func TestWhatIsDecodedHasTheseBytes(t *testing.T) {
	for _, h := range []api.Hello{
		{Blocks: 1, Vector: api.Vector{Current: 1}},
		{Blocks: 32, Vector: api.Vector{Current: math.MaxUint64, Bitmap: 2, Old: [2]uint64{3, 4}}, Inc: true, Was: true, Dis: true, Mask: math.MaxUint32},
		{Blocks: 16, Vector: api.Vector{Current: 1 << 40, Old: [2]uint64{1, 0}}, Dis: true, Pri: true, Mask: 0xa5a5},
		full(),
	} {
		x := []byte(bytesOf(h))
		for i, was := range x {
			for b := range 256 {
				x[i] = byte(b)
				got, e := hello.Decode(string(x))
				if e != api.OK {
					refused(t, string(x))
					continue
				}
				if again, e := hello.Encode(got); e != api.OK || again != string(x) || (got == h) != (byte(b) == was) {
					t.Fatalf("%v, byte %d changed to %d: %v, %q", h, i, b, got, again)
				}
			}
			x[i] = was
		}
	}
}
