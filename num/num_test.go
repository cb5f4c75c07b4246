package num_test

import (
	"encoding/binary"
	"math"
	"math/rand"
	"slices"
	"strings"
	"testing"

	"gemination/num"
)

// some64 has every edge of a byte in every place, and patterns in which no two bytes are alike.
func some64() []uint64 {
	l := []uint64{0, 1, 258, 0x01020304, 0xfedcba98, math.MaxInt32, math.MaxUint32, math.MaxUint32 + 1,
		0x0102030405060708, 0xfedcba9876543210, math.MaxInt64, math.MaxInt64 + 1, math.MaxUint64}
	for i := range 64 {
		l = append(l, 1<<i, 1<<i-1, ^uint64(1<<i))
	}
	r := rand.New(rand.NewSource(1))
	for range 2000 {
		l = append(l, r.Uint64())
	}
	return l
}

func some32() []uint32 {
	var l []uint32
	for _, n := range some64() {
		l = append(l, uint32(n), uint32(n>>32))
	}
	return l
}

// lists are all lists of so many flags.
func lists(n int) [][]bool {
	l := [][]bool{{}}
	for range n {
		var longer [][]bool
		for _, x := range l {
			longer = append(longer, append(slices.Clone(x), false), append(slices.Clone(x), true))
		}
		l = longer
	}
	return l
}

func byteOf(l []bool) byte {
	sum, worth := 0, 1
	for i := 0; i < len(l) && i < 8; i++ {
		if l[i] {
			sum += worth
		}
		worth *= 2
	}
	return byte(sum)
}

// P1.1: the highest byte comes first.
func TestPutHighestFirst(t *testing.T) {
	if got := num.Put32(258); got != "\x00\x00\x01\x02" {
		t.Errorf("Put32(258): %q", got)
	}
	if got := num.Put64(258); got != "\x00\x00\x00\x00\x00\x00\x01\x02" {
		t.Errorf("Put64(258): %q", got)
	}
	for _, n := range some32() {
		if got, want := num.Put32(n), string(binary.BigEndian.AppendUint32(nil, n)); got != want {
			t.Fatalf("Put32(%#x): %q, not %q", n, got, want)
		}
	}
	for _, n := range some64() {
		if got, want := num.Put64(n), string(binary.BigEndian.AppendUint64(nil, n)); got != want {
			t.Fatalf("Put64(%#x): %q, not %q", n, got, want)
		}
	}
}

// P1.1: texts of the right length are numbers, whatever bytes they have.
func TestGetOfAnyBytes(t *testing.T) {
	texts := []string{"\x00\x00\x00\x00", "\xff\xff\xff\xff", "\x80\x00\x00\x00", "\x00\x00\x00\x80", "abcd", "éé", "€a", "\xf0\x9f\x98\x80", "\xc3\x28\xa0\xa1"}
	r := rand.New(rand.NewSource(2))
	for range 1000 {
		texts = append(texts, string(binary.BigEndian.AppendUint32(nil, r.Uint32())))
	}
	for i, s := range texts {
		if got, ok := num.Get32(s); !ok || got != binary.BigEndian.Uint32([]byte(s)) {
			t.Fatalf("Get32(%q): %#x, %v", s, got, ok)
		}
		both := s + texts[(i+1)%len(texts)]
		if got, ok := num.Get64(both); !ok || got != binary.BigEndian.Uint64([]byte(both)) {
			t.Fatalf("Get64(%q): %#x, %v", both, got, ok)
		}
	}
}

// P1.1: only just so many bytes are a number; beside false stands 0.
func TestGetOfOtherLengths(t *testing.T) {
	lengths := []int{255, 256, 257, 260, 264, 65536, 65540, 65544}
	for n := range 40 {
		lengths = append(lengths, n)
	}
	for _, n := range lengths {
		for _, part := range []string{"\x00", "\x01", "\xff"} {
			s := strings.Repeat(part, n)
			a, ok := num.Get32(s)
			if ok != (n == 4) || !ok && a != 0 {
				t.Errorf("Get32 of %d bytes: %#x, %v", n, a, ok)
			}
			b, ok := num.Get64(s)
			if ok != (n == 8) || !ok && b != 0 {
				t.Errorf("Get64 of %d bytes: %#x, %v", n, b, ok)
			}
		}
	}
	// Lengths are of bytes: these have four, and eight, runes.
	if n, ok := num.Get32("éééé"); ok || n != 0 {
		t.Error("Get32 of four runes:", n, ok)
	}
	if n, ok := num.Get64("éééééééé"); ok || n != 0 {
		t.Error("Get64 of eight runes:", n, ok)
	}
}

// P1.1: the first flag is the lowest bit; those behind the eighth don't count.
func TestFlags(t *testing.T) {
	if num.Flags() != 0 || num.Flags([]bool(nil)...) != 0 || num.Flags([]bool{}...) != 0 {
		t.Error("no flags")
	}
	if got := num.Flags(true, false, true); got != 5 {
		t.Error("Flags(true, false, true):", got)
	}
	for n := range 12 {
		for _, l := range lists(n) {
			if got := num.Flags(l...); got != byteOf(l) {
				t.Fatal(l, got)
			}
		}
	}
	for _, n := range []int{16, 32, 64, 65, 256, 1000} {
		l := make([]bool, n)
		for i := 8; i < n; i++ {
			l[i] = true
		}
		if got := num.Flags(l...); got != 0 {
			t.Error("only behind the eighth:", n, got)
		}
		l[7], l[0] = true, true
		if got := num.Flags(l...); got != 129 {
			t.Error("the first, and the eighth:", n, got)
		}
	}
}

// P1.1: what is handed in stays as it was, its spare room too.
func TestFlagsLeavesItsList(t *testing.T) {
	for n := range 10 {
		for _, whole := range lists(n) {
			was := slices.Clone(whole)
			for k := range n + 1 {
				num.Flags(whole[:k]...)
				if !slices.Equal(whole, was) {
					t.Fatal(was, whole, k)
				}
			}
		}
	}
}

// P1.1: every byte with every number of bits, and numbers that no byte has.
func TestUnflag(t *testing.T) {
	numbers := []int{math.MinInt, math.MinInt32, -256, -9, -8, -2, -1, 9, 10, 16, 31, 32, 63, 64, 255, 256, 260, 264, 1 << 32, 1<<32 + 8, math.MaxInt32, math.MaxInt}
	for n := range 9 {
		numbers = append(numbers, n)
	}
	for _, n := range numbers {
		for b := range 256 {
			got, ok := num.Unflag(byte(b), n)
			want := n >= 0 && n <= 8 && float64(b) < math.Pow(2, float64(n))
			if ok != want {
				t.Fatalf("Unflag(%d, %d): %v, %v", b, n, got, ok)
			}
			if !ok && len(got) != 0 || ok && (len(got) != n || byteOf(got) != byte(b)) {
				t.Fatalf("Unflag(%d, %d): %v, %v", b, n, got, ok)
			}
		}
	}
}

// P1.1: nothing is kept from call to call, so an answer that is written into changes no other one.
func TestUnflagAnswersNewMemory(t *testing.T) {
	first, _ := num.Unflag(255, 8)
	for i := range first {
		first[i] = false
	}
	second, ok := num.Unflag(255, 8)
	if !ok || byteOf(second) != 255 {
		t.Error(second, ok)
	}
}

// P1.2: numbers come back of their bytes, and bytes of their numbers.
func TestNumbersComeBack(t *testing.T) {
	for _, n := range some32() {
		s := num.Put32(n)
		got, ok := num.Get32(s)
		if !ok || got != n || num.Put32(got) != s {
			t.Fatalf("%#x: %#x, %v", n, got, ok)
		}
	}
	for _, n := range some64() {
		s := num.Put64(n)
		got, ok := num.Get64(s)
		if !ok || got != n || num.Put64(got) != s {
			t.Fatalf("%#x: %#x, %v", n, got, ok)
		}
	}
	for a := range 256 {
		for i := range 8 {
			s := strings.Repeat("\x00", i) + string([]byte{byte(a)}) + strings.Repeat("\xff", 7-i)
			if n, ok := num.Get64(s); !ok || num.Put64(n) != s {
				t.Fatalf("%q: %#x, %v", s, n, ok)
			}
			if n, ok := num.Get32(s[2:6]); !ok || num.Put32(n) != s[2:6] {
				t.Fatalf("%q: %#x, %v", s[2:6], n, ok)
			}
		}
	}
}

// P1.2: flags come back of their byte, and a byte of its flags.
func TestFlagsComeBack(t *testing.T) {
	for n := range 9 {
		for _, l := range lists(n) {
			got, ok := num.Unflag(num.Flags(l...), n)
			if !ok || !slices.Equal(got, l) {
				t.Fatal(l, got, ok)
			}
		}
		for b := range 1 << n {
			l, ok := num.Unflag(byte(b), n)
			if !ok || num.Flags(l...) != byte(b) {
				t.Fatal(b, n, l, ok)
			}
		}
	}
}
