package packet_test

import (
	"encoding/binary"
	"hash/fnv"
	"math"
	"math/rand"
	"slices"
	"strings"
	"testing"

	"gemination/api"
	"gemination/packet"
)

const (
	headBytes  = 9  // Kind and Session
	helloBytes = 38 // of a hello
)

// The kinds by their fields.
func withData() []int  { return []int{2, 6} }
func withBlock() []int { return []int{3, 4, 5, 7} }
func withNone() []int  { return []int{8, 9, 10, 11, 12, 13} }

// sealed is a text with its sum behind it, written without the packages of the program.
func sealed(text string) string {
	h := fnv.New32a()
	h.Write([]byte(text))
	return string(h.Sum([]byte(text)))
}

// helloText is a hello's bytes, one by one, whether it may be or not.
func helloText(h api.Hello) string {
	b := []byte{byte(h.Blocks), 0}
	for i, on := range []bool{h.Inc, h.Was, h.Dis, h.Pri} {
		if on {
			b[1] += 1 << i
		}
	}
	for _, g := range []uint64{h.Vector.Current, h.Vector.Bitmap, h.Vector.Old[0], h.Vector.Old[1]} {
		b = binary.BigEndian.AppendUint64(b, g)
	}
	return string(binary.BigEndian.AppendUint32(b, h.Mask))
}

// textOf is the chapter's list of bytes, one by one, without the seal: of the fields that the kind has, whatever they are.
func textOf(p api.Packet) string {
	b := string(binary.BigEndian.AppendUint64([]byte{byte(p.Kind)}, p.Session))
	switch {
	case p.Kind == 1:
		return b + helloText(p.Hello)
	case slices.Contains(withData(), p.Kind):
		return b + string([]byte{byte(p.Block)}) + p.Data
	case slices.Contains(withBlock(), p.Kind):
		return b + string([]byte{byte(p.Block)})
	}
	return b
}

// bytesOf is a packet's bytes, with the seal.
func bytesOf(p api.Packet) string { return sealed(textOf(p)) }

// sizeOf is how many bytes a packet of a kind has, with the seal.
func sizeOf(kind int) int {
	return map[int]int{1: 51, 2: 22, 3: 14, 4: 14, 5: 14, 6: 22, 7: 14, 8: 13, 9: 13, 10: 13, 11: 13, 12: 13, 13: 13}[kind]
}

// helloOf is the hello of bytes, and whether there is one.
func helloOf(s string) (api.Hello, bool) {
	if len(s) != helloBytes {
		return api.Hello{}, false
	}
	b := []byte(s)
	gen := func(i int) uint64 { return binary.BigEndian.Uint64(b[2+8*i:]) }
	v := api.Vector{Current: gen(0), Bitmap: gen(1), Old: [2]uint64{gen(2), gen(3)}}
	h := flagged(api.Hello{Blocks: int(b[0]), Vector: v, Mask: binary.BigEndian.Uint32(b[34:])}, int(b[1]))
	may := h.Blocks >= 1 && h.Blocks <= 32 && gen(0) != 0 && float64(h.Mask) < math.Pow(2, float64(h.Blocks)) && slices.Contains(flagsRight(), int(b[1]))
	if !may {
		return api.Hello{}, false
	}
	return h, true
}

// packetOf is the packet of a text without its seal, and whether there is one.
func packetOf(s string) (api.Packet, bool) {
	if len(s) < headBytes {
		return api.Packet{}, false
	}
	p := api.Packet{Kind: int(s[0]), Session: binary.BigEndian.Uint64([]byte(s[1:headBytes]))}
	rest := s[headBytes:]
	ok := false
	switch {
	case p.Kind == 1:
		p.Hello, ok = helloOf(rest)
	case slices.Contains(withData(), p.Kind) && len(rest) == 9:
		p.Block, p.Data, ok = int(rest[0]), rest[1:], rest[0] < 32
	case slices.Contains(withBlock(), p.Kind) && len(rest) == 1:
		p.Block, ok = int(rest[0]), rest[0] < 32
	case slices.Contains(withNone(), p.Kind):
		ok = rest == ""
	}
	if !ok {
		return api.Packet{}, false
	}
	return p, true
}

// flagged is a hello with the flags of a number's four lowest bits.
func flagged(h api.Hello, flags int) api.Hello {
	h.Inc, h.Was, h.Dis, h.Pri = flags&1 != 0, flags&2 != 0, flags&4 != 0, flags&8 != 0
	return h
}

// flagsRight are the numbers of a hello's flags that may be together.
func flagsRight() []int { return []int{0, 1, 2, 3, 4, 5, 6, 7, 8, 12} }

// sessions are none, those with a bit in each byte, and such as are alike in their low or their high half.
func sessions() []uint64 {
	l := []uint64{0, 1, 2, 255, 256, 258, math.MaxUint32, 1 << 32, 1<<32 + 1, math.MaxInt64, 1 << 63, 0x0102030405060708, 0xfedcba9876543210, math.MaxUint64}
	for i := range 8 {
		l = append(l, 0x80<<(8*i))
	}
	return l
}

// datas are of 8 bytes, of which some are no runes, or are none that are seen.
func datas() []string {
	return []string{"12345678", strings.Repeat("\x00", 8), strings.Repeat("\xff", 8), "éééé", "\xc3\x28\xa0\xa1\x00\x01\x02\x03", "\x00\x00\x00\x00\x00\x00\x00\x01", "\x01\x00\x00\x00\x00\x00\x00\x00", "\U0001F600\U0001F601"}
}

// hellos may be: each number of blocks, all flags that may be, and a full one.
func hellos() []api.Hello {
	var l []api.Hello
	for blocks := 1; blocks <= 32; blocks++ {
		for _, flags := range flagsRight() {
			l = append(l, flagged(api.Hello{Blocks: blocks, Vector: api.Vector{Current: 1 << blocks}, Mask: 1 << (blocks - 1)}, flags))
		}
	}
	return append(l, fullHello(), api.Hello{Blocks: 1, Vector: api.Vector{Current: 1}})
}

// fullHello has another number at each place.
func fullHello() api.Hello {
	v := api.Vector{Current: 0x0102030405060708, Bitmap: 0x1112131415161718, Old: [2]uint64{0x2122232425262728, 0x3132333435363738}}
	return api.Hello{Blocks: 27, Vector: v, Was: true, Mask: 0x01020304}
}

// wrongHellos may not be: by their blocks, their generation, their mask, or their flags.
func wrongHellos() []api.Hello {
	v := api.Vector{Current: 1, Bitmap: 2}
	l := []api.Hello{{}, {Blocks: 3}, {Blocks: 3, Vector: api.Vector{Bitmap: 1}}, {Blocks: 3, Vector: v, Mask: 8}, {Blocks: 31, Vector: v, Mask: 1 << 31}}
	for _, blocks := range []int{0, -1, 33, 256, 257, 259, -253, 1<<32 + 3, math.MinInt, math.MaxInt} {
		l = append(l, api.Hello{Blocks: blocks, Vector: v})
	}
	for _, flags := range []int{9, 10, 11, 13, 14, 15} {
		l = append(l, flagged(api.Hello{Blocks: 3, Vector: v}, flags))
	}
	return l
}

// somePackets may be: each kind in each session, with each block, with each data, and with each hello.
func somePackets() []api.Packet {
	var l []api.Packet
	for _, s := range sessions() {
		for kind := 1; kind <= 13; kind++ {
			l = append(l, fitting(kind, s))
		}
	}
	for block := range 32 {
		for _, kind := range withBlock() {
			l = append(l, api.Packet{Kind: kind, Block: block})
		}
		for _, kind := range withData() {
			for _, data := range datas() {
				l = append(l, api.Packet{Kind: kind, Session: 1, Block: block, Data: data})
			}
		}
	}
	for _, h := range hellos() {
		l = append(l, api.Packet{Kind: 1, Session: uint64(h.Blocks), Hello: h})
	}
	return l
}

// fitting is a packet of a kind that may be, with something in each of its fields.
func fitting(kind int, session uint64) api.Packet {
	p := api.Packet{Kind: kind, Session: session}
	switch {
	case kind == 1:
		p.Hello = fullHello()
	case slices.Contains(withData(), kind):
		p.Block, p.Data = 9, "abcdefgh"
	case slices.Contains(withBlock(), kind):
		p.Block = 9
	}
	return p
}

// wrongBlocks are none, some of them though their low byte is one.
func wrongBlocks() []int {
	return []int{-1, -2, -31, -32, -255, -256, 32, 33, 63, 64, 128, 255, 256, 257, 287, 1 << 16, 1<<32 + 1, 1 << 32, math.MinInt, math.MinInt + 1, math.MaxInt}
}

// wrongDatas have not 8 bytes, though some of them have 8 runes.
func wrongDatas() []string {
	l := []string{"éééééééé", strings.Repeat("x", 255), strings.Repeat("x", 256), strings.Repeat("x", 264), strings.Repeat("\x00", 65544)}
	for n := range 40 {
		if n != 8 {
			l = append(l, strings.Repeat("\x00", n), strings.Repeat("y", n))
		}
	}
	return l
}

// wrongPackets may not be: by their kind, by a field that they have, or by one that they haven't.
func wrongPackets() []api.Packet {
	var l []api.Packet
	for _, kind := range []int{0, 14, 15, 128, 255, 256, 257, 258, 264, 269, -1, -8, -248, -255, 1<<32 + 8, 1<<16 + 1, math.MinInt, math.MinInt + 8, math.MaxInt} {
		for like := 1; like <= 13; like++ {
			p := fitting(like, 5)
			p.Kind = kind
			l = append(l, p)
		}
		l = append(l, api.Packet{Kind: kind}, api.Packet{Kind: kind, Session: 8})
	}
	for _, h := range wrongHellos() {
		l = append(l, api.Packet{Kind: 1, Hello: h}, api.Packet{Kind: 1, Session: 5, Hello: h})
	}
	for _, kind := range append(withBlock(), withData()...) {
		for _, block := range wrongBlocks() {
			p := fitting(kind, 5)
			p.Block = block
			l = append(l, p)
		}
	}
	for _, kind := range withData() {
		for _, data := range wrongDatas() {
			l = append(l, api.Packet{Kind: kind, Session: 5, Block: 3, Data: data})
		}
	}
	return append(l, foreign()...)
}

// foreign are packets with one field more than their kind has, or with all of them.
func foreign() []api.Packet {
	var l []api.Packet
	for kind := 1; kind <= 13; kind++ {
		own := fitting(kind, 5)
		l = append(l, api.Packet{Kind: kind, Hello: fullHello(), Block: 9, Data: "abcdefgh"})
		for _, h := range foreignHellos() {
			if p := own; kind != 1 {
				p.Hello = h
				l = append(l, p)
			}
		}
		for _, block := range append(wrongBlocks(), 1, 2, 8, 31) {
			if p := own; kind == 1 || slices.Contains(withNone(), kind) {
				p.Block = block
				l = append(l, p)
			}
		}
		for _, data := range append(wrongDatas(), datas()...) {
			if p := own; !slices.Contains(withData(), kind) && data != "" {
				p.Data = data
				l = append(l, p)
			}
		}
	}
	return l
}

// foreignHellos have something in one of their fields alone, or may be hellos of themselves.
func foreignHellos() []api.Hello {
	l := []api.Hello{fullHello(), {Blocks: 1}, {Blocks: -1}, {Blocks: 256}, {Mask: 1}, {Mask: 1 << 31}}
	for _, v := range []api.Vector{{Current: 1}, {Current: 1 << 63}, {Bitmap: 1}, {Old: [2]uint64{1, 0}}, {Old: [2]uint64{0, 1}}} {
		l = append(l, api.Hello{Vector: v}, api.Hello{Blocks: 1, Vector: v})
	}
	for _, flags := range []int{1, 2, 4, 8, 15} {
		l = append(l, flagged(api.Hello{}, flags))
	}
	return l
}

// P13.1: a packet may be by its kind and the fields that this has, in any session.
func TestRight(t *testing.T) {
	for _, p := range somePackets() {
		if !packet.Right(p) {
			t.Fatalf("may be: %v", p)
		}
	}
	for _, p := range wrongPackets() {
		if packet.Right(p) {
			t.Fatalf("may not be: %v", p)
		}
	}
	if packet.Right(api.Packet{}) {
		t.Error("no kind")
	}
}

// P13.1: each kind near those that there are, each with the fields of each.
func TestRightKinds(t *testing.T) {
	for kind := -300; kind <= 600; kind++ {
		for like := 1; like <= 13; like++ {
			p := fitting(like, 0)
			p.Kind = kind
			// Without fields it may be one of those with a block, too, of the block 0.
			bare := slices.Contains(withNone(), like) && slices.Contains(withBlock(), kind)
			want := bare || kind >= 1 && kind <= 13 && sizeOf(kind) == sizeOf(like)
			if got := packet.Right(p); got != want {
				t.Fatalf("kind %d like %d: %v", kind, like, got)
			}
		}
	}
}

// P13.1: each block near those that may be, of each kind.
func TestRightBlocks(t *testing.T) {
	for kind := 1; kind <= 13; kind++ {
		most := 31
		if sizeOf(kind) == 13 || kind == 1 {
			most = 0
		}
		for block := -300; block <= 600; block++ {
			p := fitting(kind, 1)
			p.Block = block
			if got := packet.Right(p); got != (block >= 0 && block <= most) {
				t.Fatalf("kind %d, block %d: %v", kind, block, got)
			}
		}
	}
}

// P13.1: each length of data near 8, of each kind.
func TestRightData(t *testing.T) {
	for kind := 1; kind <= 13; kind++ {
		size := 0
		if slices.Contains(withData(), kind) {
			size = 8
		}
		for n := range 600 {
			p := fitting(kind, 1)
			p.Data = strings.Repeat("\x00", n)
			if got := packet.Right(p); got != (n == size) {
				t.Fatalf("kind %d, %d bytes: %v", kind, n, got)
			}
		}
	}
}

// P13.1: bytes that are known, all of them, with seals that were worked out elsewhere.
func TestEncodeKnown(t *testing.T) {
	none := strings.Repeat("\x00", 7)
	h := api.Hello{Blocks: 3, Vector: api.Vector{Current: 9, Bitmap: 4}, Was: true, Mask: 6}
	for i, x := range []struct {
		p    api.Packet
		want string
	}{
		{api.Packet{Kind: api.PkEnd}, "\x08\x00" + none + "\xd3+\x89\x97"},
		{api.Packet{Kind: api.PkData, Session: 7, Block: 3, Data: "abcdefgh"}, "\x02" + none + "\x07\x03abcdefgh" + "\xa3\x9a\xf4\xb1"},
		{api.Packet{Kind: api.PkHello, Session: math.MaxUint64, Hello: h}, "\x01" + strings.Repeat("\xff", 8) + "\x03\x02" + none + "\x09" + none + "\x04" + strings.Repeat("\x00", 16) + "\x00\x00\x00\x06" + "\xf3\xb8t$"},
		{api.Packet{Kind: api.PkAck, Block: 31}, "\x03\x00" + none + "\x1f" + "\x93\xd3[\x17"},
	} {
		if got, e := packet.Encode(x.p); e != api.OK || got != x.want {
			t.Errorf("%d: %q, %d", i, got, e)
		}
	}
}

// P13.1: the chapter's bytes, of each packet that may be, and as many of them as its kind has.
func TestEncode(t *testing.T) {
	for _, p := range somePackets() {
		got, e := packet.Encode(p)
		if e != api.OK || len(got) != sizeOf(p.Kind) || got != bytesOf(p) {
			t.Fatalf("%v: %q, %d", p, got, e)
		}
	}
}

// P13.1: each kind is told by its number.
func TestEncodeKinds(t *testing.T) {
	for i, kind := range []int{api.PkHello, api.PkData, api.PkAck, api.PkClean, api.PkWant, api.PkGive, api.PkGot, api.PkEnd, api.PkDone, api.PkAsk, api.PkGrant, api.PkDeny, api.PkRole} {
		if b, e := packet.Encode(fitting(kind, 1)); e != api.OK || b[0] != byte(i+1) {
			t.Errorf("%d: %q, %d", i+1, b, e)
		}
	}
}

// P13.1: what may not be has no bytes.
func TestEncodeWrong(t *testing.T) {
	for _, p := range wrongPackets() {
		if got, e := packet.Encode(p); e != api.ErrArg || got != "" {
			t.Fatalf("%v: %q, %d", p, got, e)
		}
	}
}

// P13.1: of the chapter's bytes the packet, whoever wrote them.
func TestDecode(t *testing.T) {
	for _, p := range somePackets() {
		if got, e := packet.Decode(bytesOf(p)); e != api.OK || got != p {
			t.Fatalf("%v: %v, %d", p, got, e)
		}
	}
}

// refused: bytes have just that error, and no packet beside it; in whatever session they are read, too.
func refused(t *testing.T, b string, want api.Errno) {
	t.Helper()
	if got, e := packet.Decode(b); e != want || got != (api.Packet{}) {
		t.Fatalf("%.80q: %v, %d, not %d", b, got, e, want)
	}
	for _, session := range []uint64{0, 5} {
		if got, e := packet.Read(b, session); e != want || got != (api.Packet{}) {
			t.Fatalf("%.80q in session %d: %v, %d, not %d", b, session, got, e, want)
		}
	}
}

// P13.1: fewer than 4 bytes have not the form, whatever they are; of others the seal is looked at ahead of all else.
func TestDecodeSeal(t *testing.T) {
	for n := range 4 {
		for b := range 256 {
			refused(t, strings.Repeat(string([]byte{byte(b)}), n), api.ErrForm)
		}
	}
	for kind := 1; kind <= 13; kind++ {
		good := textOf(fitting(kind, 5))
		whole := sealed(good)
		refused(t, good[:3], api.ErrForm)
		for n := 4; n <= len(good); n++ {
			refused(t, good[:n], api.ErrCheck)
		}
		for n := 4; n < len(whole); n++ {
			refused(t, whole[:n], api.ErrCheck)
		}
		refused(t, whole+"\x00", api.ErrCheck)
		refused(t, "\x00"+whole, api.ErrCheck)
		refused(t, whole[len(good):]+good, api.ErrCheck)
		refused(t, good+"\x00\x00\x00\x00", api.ErrCheck)
		refused(t, whole+whole, api.ErrCheck)
		// Both are wrong: the seal tells.
		refused(t, "\x00"+whole[1:], api.ErrCheck)
		refused(t, "\x0e"+whole[1:], api.ErrCheck)
	}
	refused(t, strings.Repeat("\x00", 13), api.ErrCheck)
	refused(t, strings.Repeat("\x00", 51), api.ErrCheck)
}

// P13.1: what was sealed must have just as many bytes as its kind; a packet that is sealed twice isn't one.
func TestDecodeLength(t *testing.T) {
	for kind := 1; kind <= 13; kind++ {
		good := textOf(fitting(kind, 5))
		for n := range len(good) {
			refused(t, sealed(good[:n]), api.ErrForm)
		}
		for n := 1; n < 60; n++ {
			refused(t, sealed(good+strings.Repeat("\x00", n)), api.ErrForm)
			refused(t, sealed(good+strings.Repeat("\x01", n)), api.ErrForm)
		}
		refused(t, sealed(sealed(good)), api.ErrForm)
		refused(t, sealed(good+good), api.ErrForm)
		refused(t, sealed(strings.Repeat(good, 2000)), api.ErrForm)
		// Bytes are counted, not runes.
		refused(t, sealed(good[:1]+strings.Repeat("é", len(good)-1)), api.ErrForm)
	}
	for b := range 256 {
		for n := range 60 {
			text := strings.Repeat(string([]byte{byte(b)}), n)
			if _, ok := packetOf(text); !ok {
				refused(t, sealed(text), api.ErrForm)
			}
		}
	}
}

// P13.1: each byte as a kind, ahead of the fields of each kind.
func TestDecodeKinds(t *testing.T) {
	for like := 1; like <= 13; like++ {
		text := textOf(fitting(like, 5))
		for b := range 256 {
			x := sealed(string([]byte{byte(b)}) + text[1:])
			if b < 1 || b > 13 || sizeOf(b) != sizeOf(like) {
				refused(t, x, api.ErrForm)
				continue
			}
			want := fitting(like, 5)
			want.Kind = b
			if got, e := packet.Decode(x); e != api.OK || got != want {
				t.Fatalf("kind %d like %d: %v, %d", b, like, got, e)
			}
		}
	}
}

// P13.1: each byte as a block.
func TestDecodeBlocks(t *testing.T) {
	for _, kind := range append(withBlock(), withData()...) {
		text := textOf(fitting(kind, 5))
		for b := range 256 {
			x := sealed(text[:headBytes] + string([]byte{byte(b)}) + text[headBytes+1:])
			if b > 31 {
				refused(t, x, api.ErrForm)
			} else if got, e := packet.Decode(x); e != api.OK || got.Block != b || got.Kind != kind {
				t.Fatalf("kind %d, block %d: %v, %d", kind, b, got, e)
			}
		}
	}
}

// P13.1: a hello that may not be makes no packet.
func TestDecodeHello(t *testing.T) {
	head := textOf(fitting(1, 5))[:headBytes]
	good := helloText(fullHello())
	for _, part := range []struct{ at, from, to int }{{0, 1, 32}, {1, 0, 15}} {
		for b := range 256 {
			if b < part.from || b > part.to {
				refused(t, sealed(head+good[:part.at]+string([]byte{byte(b)})+good[part.at+1:]), api.ErrForm)
			}
		}
	}
	for _, flags := range []int{9, 10, 11, 13, 14, 15} {
		refused(t, sealed(head+good[:1]+string([]byte{byte(flags)})+good[2:]), api.ErrForm)
	}
	refused(t, sealed(head+good[:2]+strings.Repeat("\x00", 8)+good[10:]), api.ErrForm)
	for i := 27; i < 32; i++ {
		refused(t, sealed(head+good[:34]+string(binary.BigEndian.AppendUint32(nil, 1<<i))), api.ErrForm)
	}
	refused(t, sealed(head+good[1:]+"\x00"), api.ErrForm)
	refused(t, sealed(head+strings.Repeat("\x00", helloBytes)), api.ErrForm)
	refused(t, sealed(head+strings.Repeat("\xff", helloBytes)), api.ErrForm)
	// A hello alone, and a sealed one within: neither is a packet.
	refused(t, sealed(good), api.ErrForm)
	refused(t, sealed(head+sealed(good)), api.ErrForm)
}

// P13.1: any bytes have a packet, or an error, just as the chapter's words have it.
func TestDecodeAnyBytes(t *testing.T) {
	r := rand.New(rand.NewSource(1))
	packets := somePackets()
	right := 0
	const rounds = 50000
	for range rounds {
		x := []byte(textOf(packets[r.Intn(len(packets))]))
		for range r.Intn(3) {
			x[r.Intn(len(x))] = byte(r.Intn(256))
		}
		if r.Intn(4) == 0 {
			x[0] = byte(r.Intn(16))
		}
		switch r.Intn(20) {
		case 0:
			x = x[:r.Intn(len(x))]
		case 1:
			x = append(x, byte(r.Intn(256)))
		}
		want, ok := packetOf(string(x))
		got, e := packet.Decode(sealed(string(x)))
		if ok != (e == api.OK) || !ok && e != api.ErrForm || got != want {
			t.Fatalf("%q: %v, %d", x, got, e)
		}
		if ok {
			right++
		}
	}
	if right < rounds/10 || right > rounds*9/10 {
		t.Errorf("packets among these bytes: %d", right)
	}
	for range 5000 {
		x := make([]byte, 4+r.Intn(80))
		r.Read(x)
		if string(x) != sealed(string(x[:len(x)-4])) {
			refused(t, string(x), api.ErrCheck)
		}
	}
}

// P13.1: a packet is read in its own session, and in no other one, though this be like it in some of its bytes.
func TestRead(t *testing.T) {
	for kind := 1; kind <= 13; kind++ {
		for _, own := range sessions() {
			p := fitting(kind, own)
			b := bytesOf(p)
			for _, other := range append(sessions(), own+1, own-1, own^1<<32, own^1<<63) {
				got, e := packet.Read(b, other)
				if own == other && (e != api.OK || got != p) {
					t.Fatalf("%v in its own session: %v, %d", p, got, e)
				}
				if own != other && (e != api.ErrStale || got != (api.Packet{})) {
					t.Fatalf("%v in session %d: %v, %d", p, other, got, e)
				}
			}
		}
	}
}

// P13.1: where bytes are wrong, and of another session, too, Decode's error is told.
func TestReadWrongAndStale(t *testing.T) {
	for kind := 1; kind <= 13; kind++ {
		text := textOf(fitting(kind, 5))
		for x, want := range map[string]api.Errno{
			"ab":                      api.ErrForm,
			text:                      api.ErrCheck,
			sealed(text + "\x00"):     api.ErrForm,
			sealed("\x0e" + text[1:]): api.ErrForm,
			sealed(text[:8]):          api.ErrForm,
		} {
			if got, e := packet.Read(x, 6); e != want || got != (api.Packet{}) {
				t.Fatalf("%q: %v, %d", x, got, e)
			}
		}
	}
}

// P13.1: nothing is kept from call to call.
func TestCallsHangOnTheirArgumentsAlone(t *testing.T) {
	a, b := fitting(1, 3), fitting(6, 4)
	for range 3 {
		for _, p := range []api.Packet{a, b, a} {
			x, e := packet.Encode(p)
			if e != api.OK || x != bytesOf(p) {
				t.Fatalf("%v: %q, %d", p, x, e)
			}
			packet.Encode(api.Packet{})
			packet.Decode("junk!")
			packet.Read(x, 99)
			if got, e := packet.Decode(x); e != api.OK || got != p {
				t.Fatalf("%v: %v, %d", p, got, e)
			}
			if got, e := packet.Read(x, p.Session); e != api.OK || got != p {
				t.Fatalf("%v: %v, %d", p, got, e)
			}
		}
	}
}

// P13.2: packets come back of their bytes, and no two have the same ones.
func TestThereAndBack(t *testing.T) {
	whose := map[string]api.Packet{}
	for _, p := range somePackets() {
		b, e := packet.Encode(p)
		if e != api.OK {
			t.Fatalf("%v: %d", p, e)
		}
		if got, e := packet.Decode(b); e != api.OK || got != p {
			t.Fatalf("%v: %v, %d", p, got, e)
		}
		if got, e := packet.Read(b, p.Session); e != api.OK || got != p {
			t.Fatalf("%v: %v, %d", p, got, e)
		}
		if other, ok := whose[b]; ok && other != p {
			t.Fatalf("%v and %v: %q", p, other, b)
		}
		whose[b] = p
	}
}

// P13.2: each byte of what was sealed changed to each other one, and sealed: refused, or another packet, that has just these bytes.
func TestWhatIsDecodedHasTheseBytes(t *testing.T) {
	for kind := 1; kind <= 13; kind++ {
		p := fitting(kind, 5)
		text := []byte(textOf(p))
		for i, was := range text {
			for b := range 256 {
				text[i] = byte(b)
				x := sealed(string(text))
				got, e := packet.Decode(x)
				if e != api.OK {
					refused(t, x, api.ErrForm)
					continue
				}
				if again, e := packet.Encode(got); e != api.OK || again != x || (got == p) != (byte(b) == was) {
					t.Fatalf("%v, byte %d changed to %d: %v, %q", p, i, b, got, again)
				}
			}
			text[i] = was
		}
	}
}

// P13.2: a byte that is changed by somebody who doesn't seal anew is found.
func TestOneByteChanged(t *testing.T) {
	for kind := 1; kind <= 13; kind++ {
		x := []byte(bytesOf(fitting(kind, 5)))
		for i, was := range x {
			for b := range 256 {
				x[i] = byte(b)
				if byte(b) != was {
					refused(t, string(x), api.ErrCheck)
				}
			}
			x[i] = was
		}
	}
}
