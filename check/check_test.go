package check_test

import (
	"encoding/binary"
	"hash/fnv"
	"math/rand"
	"strings"
	"testing"

	"gemination/api"
	"gemination/check"
)

// sumOf is the chapter's rule in numbers without end, cut to 32 bits by a remainder: it leans on no wrap-round.
func sumOf(s string) uint32 {
	sum := uint64(2166136261)
	for _, b := range []byte(s) {
		sum ^= uint64(b)
		sum = sum * 16777619 % (1 << 32)
	}
	return uint32(sum)
}

// sealed is a text with its sum behind it, written without the package that is tested.
func sealed(s string) string {
	return string(binary.BigEndian.AppendUint32([]byte(s), sumOf(s)))
}

func randomText(r *rand.Rand, n int) string {
	b := make([]byte, n)
	r.Read(b)
	return string(b)
}

// texts are of all lengths up to those that the layers above seal, of bytes that are runes and of bytes that aren't.
func texts() []string {
	l := []string{"", "a", "b", "ab", "ba", "foobar", "é", "€", "\U0001F600", "éa", "\xc3", "\xc3\x28", "\xa0\xa1", "\xff\xfe\xfd", "\xef\xbf\xbd", "\xed\xa0\x80",
		"\x00", "\x00\x00", "\x00\x00\x00", "\x00\x00\x00\x00", "\x00\x00\x00\x00\x00\x00\x00\x00", "\xff\xff\xff\xff", "a\x00", "\x00a"}
	for b := range 256 {
		l = append(l, string([]byte{byte(b)}), string([]byte{'a', byte(b), 'z'}))
	}
	r := rand.New(rand.NewSource(1))
	for n := range 140 {
		l = append(l, strings.Repeat("\x00", n), strings.Repeat("\xff", n), randomText(r, n))
	}
	return append(l, randomText(r, 255), randomText(r, 256), randomText(r, 257), randomText(r, 65536), randomText(r, 100003))
}

// P2.1: sums that are known.
func TestSumKnown(t *testing.T) {
	for _, x := range []struct {
		s    string
		want uint32
	}{
		{"", 2166136261},
		{"a", 0xe40c292c},
		{"b", 0xe70c2de5},
		{"foobar", 0xbf9cf968},
		{"\x00", 0x050c5d1f},
	} {
		if got := check.Sum(x.s); got != x.want {
			t.Errorf("Sum(%q): %#x, not %#x", x.s, got, x.want)
		}
	}
}

// P2.1: the sum is that of the chapter's rule, byte by byte, whatever bytes there are.
func TestSumOfAnyBytes(t *testing.T) {
	for _, s := range texts() {
		h := fnv.New32a()
		h.Write([]byte(s))
		if got := check.Sum(s); got != sumOf(s) || got != h.Sum32() {
			t.Fatalf("Sum of %d bytes, %.40q: %#x, not %#x", len(s), s, got, sumOf(s))
		}
	}
}

// P2.1: a call hangs on its argument alone.
func TestSumKeepsNothing(t *testing.T) {
	for range 3 {
		if check.Sum("a") != 0xe40c292c || check.Sum("") != 2166136261 {
			t.Fatal("sums changed from call to call")
		}
	}
}

// P2.1: a sealed text is the text, and behind it its sum, the highest byte first.
func TestSeal(t *testing.T) {
	if got := check.Seal(""); got != "\x81\x1c\x9d\xc5" {
		t.Errorf("Seal of nothing: %q", got)
	}
	if got := check.Seal("a"); got != "a\xe4\x0c\x29\x2c" {
		t.Errorf("Seal(a): %q", got)
	}
	for _, s := range texts() {
		if got := check.Seal(s); got != sealed(s) {
			t.Fatalf("Seal of %d bytes, %.40q: its end is %q", len(s), s, got[max(0, len(got)-4):])
		}
	}
}

// P2.1: fewer than 4 bytes have not the form, whatever they are.
func TestOpenTooShort(t *testing.T) {
	short := []string{"", "é", "€", "a\xe4\x0c", "\x81\x1c\x9d"}
	for n := range 4 {
		for b := range 256 {
			short = append(short, strings.Repeat(string([]byte{byte(b)}), n))
		}
	}
	for _, s := range short {
		if got, e := check.Open(s); got != "" || e != api.ErrForm {
			t.Errorf("Open(%q): %q, %d", s, got, e)
		}
	}
	// Bytes are counted, not runes: this has two runes, and 4 bytes.
	if got, e := check.Open("éé"); got != "" || e != api.ErrCheck {
		t.Errorf("Open of two runes: %q, %d", got, e)
	}
}

// P2.1: what stands in front of the right sum is answered; 4 bytes are the sum of nothing, or wrong.
func TestOpenSealed(t *testing.T) {
	if got, e := check.Open("\x81\x1c\x9d\xc5"); got != "" || e != api.OK {
		t.Errorf("Open of nothing, sealed: %q, %d", got, e)
	}
	for _, s := range texts() {
		if got, e := check.Open(sealed(s)); got != s || e != api.OK {
			t.Fatalf("Open of %d bytes, %.40q: %.40q, %d", len(s), s, got, e)
		}
	}
}

// P2.1: what isn't sealed is refused, and beside the error stands no text.
func TestOpenWrong(t *testing.T) {
	wrong := []string{"\x00\x00\x00\x00", "\xff\xff\xff\xff", "abcd", "\xc5\x9d\x1c\x81", "\x81\x1c\x9d\xc4", "a\x2c\x29\x0c\xe4", "\xe4\x0c\x29\x2ca",
		"a\x81\x1c\x9d\xc5", "\xe4\x0c\x29\x2c", "2166136261", "a3826002220"}
	for _, s := range texts() {
		x := sealed(s)
		if s == "" {
			continue
		}
		wrong = append(wrong, x[1:], x[:len(x)-1], x+"\x00", "\x00"+x, x[len(x)-4:]+s)
	}
	r := rand.New(rand.NewSource(2))
	for range 2000 {
		wrong = append(wrong, randomText(r, 4+r.Intn(100)))
	}
	for _, s := range wrong {
		want := api.ErrCheck
		if len(s) < 4 {
			want = api.ErrForm
		} else if sealed(s[:len(s)-4]) == s {
			// A text cut or lengthened may be sealed by chance: then it isn't wrong.
			want = api.OK
		}
		got, e := check.Open(s)
		if e != want || e != api.OK && got != "" {
			t.Fatalf("Open of %d bytes, %.40q: %.40q, %d, not %d", len(s), s, got, e, want)
		}
	}
}

// P2.2: what is sealed is opened as it was, as often as it was sealed.
func TestSealedComesBack(t *testing.T) {
	for _, s := range texts() {
		once := check.Seal(s)
		thrice := check.Seal(check.Seal(once))
		for range 2 {
			got, e := check.Open(thrice)
			if e != api.OK {
				t.Fatalf("%.40q: %d", s, e)
			}
			thrice = got
		}
		if thrice != once {
			t.Fatalf("%.40q: sealed thrice, opened twice: %.40q", s, thrice)
		}
		if got, e := check.Open(once); got != s || e != api.OK {
			t.Fatalf("%.40q: %.40q, %d", s, got, e)
		}
	}
}

// P2.2: each byte, of the text and of the sum, changed to each other one.
func TestOneByteChanged(t *testing.T) {
	r := rand.New(rand.NewSource(3))
	for _, s := range []string{"", "\x00", "\xff", "a", "foobar", "\x00\x00\x00\x00\x00\x00\x00\x00", "éß€", randomText(r, 37), randomText(r, 60)} {
		x := []byte(check.Seal(s))
		for i := range x {
			was := x[i]
			for b := range 256 {
				x[i] = byte(b)
				got, e := check.Open(string(x))
				if x[i] == was && (got != s || e != api.OK) {
					t.Fatalf("%q: %q, %d", s, got, e)
				}
				if x[i] != was && (got != "" || e != api.ErrCheck) {
					t.Fatalf("%q, byte %d changed to %d: %q, %d", s, i, b, got, e)
				}
			}
			x[i] = was
		}
	}
}

// P2.2: one bit of each place of longer texts.
func TestOneByteChangedInLongOnes(t *testing.T) {
	r := rand.New(rand.NewSource(4))
	for n := 100; n < 1200; n += 211 {
		s := randomText(r, n)
		x := []byte(check.Seal(s))
		for i := range x {
			bit := byte(1) << (i % 8)
			x[i] ^= bit
			if got, e := check.Open(string(x)); got != "" || e != api.ErrCheck {
				t.Fatalf("%d bytes, byte %d changed: %.40q, %d", n, i, got, e)
			}
			x[i] ^= bit
		}
	}
}
