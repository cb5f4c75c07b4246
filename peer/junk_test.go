package peer_test

import (
	"encoding/binary"
	"math"
	"math/rand"
	"slices"
	"strings"
	"testing"

	"gemination/api"
	"gemination/node"
	"gemination/peer"
)

// junk comes to a node: in a session this one closes, and nothing else changes; one that is down, or alone, does nothing.
func junk(t *testing.T, n api.Node, b string) {
	t.Helper()
	var want []api.Out
	if n.Up && n.State != api.StAlone {
		want = []api.Out{{Kind: api.OutClose, Node: n.Id}}
	}
	unmoved(t, n, b, want)
}

// unmoved: bytes come to a node, which puts out this, and stays as it was.
func unmoved(t *testing.T, n api.Node, b string, want []api.Out) {
	t.Helper()
	given := copyOf(n)
	got, outs := peer.Receive(given, b)
	if !like(got, n) || !node.Same(got, n) || !slices.Equal(outs, want) || !untouched(given, n) {
		t.Fatalf("%#v, %q: %#v, %#v", n, b, got, outs)
	}
}

// someNodes are of each state, that a packet of any kind changes, and such as are down.
func someNodes() []api.Node {
	var l []api.Node
	for state := range 5 {
		for _, n := range []api.Node{upOf(superOf(3, state&1), 7, state), upOf(superOf(3, 2), 7, state)} {
			n.Id = state & 1
			n.Primary = n.Store.Super.Pri
			n.Asking = !n.Primary
			n.Wanted, n.Req.On = 2, true
			// Any operation of the disk would be its death.
			n.Store.Disk.Fuse = 1
			l = append(l, n, node.Down(n))
		}
	}
	return l
}

// noPackets are bytes that are none, of a session: short, long, unsealed, of no kind, with fields that are missing, too many, or wrong.
func noPackets(session uint64) []string {
	l := []string{"", "j", "junk", sealed(nil), sealed([]byte{10}), strings.Repeat("\x00", 13), strings.Repeat("x", 1<<16)}
	body := func(kind byte, fields ...byte) string {
		return sealed(append(binary.BigEndian.AppendUint64([]byte{kind}, session), fields...))
	}
	for kind := range 256 {
		if kind == 0 || kind > 13 {
			l = append(l, body(byte(kind)), body(byte(kind), 1), body(byte(kind), append([]byte{1}, "abcdefgh"...)...))
		}
	}
	for _, p := range packetsOf(session) {
		b := bytesOf(p)
		fields := []byte(b[9 : len(b)-4])
		k := byte(p.Kind)
		l = append(l, b+"\x00", b+b, "\x00"+b, b[:len(b)-4], b[4:], body(k, append(fields, 0)...), body(k, append(fields, "abcdefgh"...)...))
		if len(fields) > 0 {
			l = append(l, body(k), body(k, fields[1:]...), body(k, fields[:len(fields)-1]...))
			fields[0] = 33
			l = append(l, body(k, fields...))
		}
	}
	return l
}

// P20.2: bytes that are no packet close the session, and change nothing, whoever they come to.
func TestNoPackets(t *testing.T) {
	for _, n := range someNodes() {
		for _, session := range []uint64{n.Session, n.Session + 1} {
			for _, b := range noPackets(session) {
				junk(t, n, b)
			}
		}
	}
}

// P20.2: bytes of a packet, of which any is changed, or some are lacking, are none: even of another session they close this one.
func TestSpoilt(t *testing.T) {
	for _, n := range someNodes() {
		for _, p := range packetsOf(n.Session) {
			if p.Block > 1 {
				continue
			}
			for p.Session = range 2 {
				p.Session ^= n.Session
				b := bytesOf(p)
				for i := range b {
					junk(t, n, b[:i])
					for bit := range 8 {
						spoilt := []byte(b)
						spoilt[i] ^= 1 << bit
						junk(t, n, string(spoilt))
					}
				}
			}
		}
	}
}

// P20.2: packets of another session change nothing, nor do they close this one, whatever they say, be they such as would fit or not.
func TestOtherSessions(t *testing.T) {
	for _, session := range edges() {
		for _, other := range append(edges(), session+1, session-1, session<<8, session>>8) {
			if other == session {
				continue
			}
			for _, n := range someNodes() {
				if n.Up {
					n.Session = session
				}
				for _, p := range packetsOf(other) {
					unmoved(t, n, bytesOf(p), nil)
				}
			}
		}
	}
}

// P20.2: packets of the session that don't fit close it, and change nothing.
func TestUnfit(t *testing.T) {
	count := 0
	eachKind(func(n api.Node) {
		for _, p := range packetsOf(n.Session) {
			if !fits(n, p) {
				junk(t, n, bytesOf(p))
				count++
			}
		}
	})
	if count < 1000 {
		t.Error(count)
	}
}

// P20.2: bytes that are drawn, most of them of the lengths of packets, some sealed, are hardly ever a packet, and change nothing.
func TestDrawnJunk(t *testing.T) {
	r := rand.New(rand.NewSource(1))
	nodes := someNodes()
	for range 100_000 {
		b := make([]byte, []int{0, 1, 9, 13, 14, 22, 51, r.Intn(80)}[r.Intn(8)])
		r.Read(b)
		if r.Intn(2) == 0 {
			// Sealed, with a kind that packets have.
			if len(b) > 0 {
				b[0] = byte(r.Intn(14))
			}
			b = []byte(sealed(b))
		}
		n := nodes[r.Intn(len(nodes))]
		got, outs := peer.Receive(n, string(b))
		if !like(got, n) || len(outs) > 1 || len(outs) == 1 && outs[0] != (api.Out{Kind: api.OutClose, Node: n.Id}) {
			t.Fatalf("%#v, %q: %#v, %#v", n, b, got, outs)
		}
	}
}

// P20.2: whatever a node is of which nothing is promised, bytes of each kind come to their end.
func TestOthersEnd(t *testing.T) {
	for _, state := range []int{math.MinInt, -1, 0, 1, 2, 3, 4, 5, math.MaxInt} {
		for _, blocks := range []int{math.MinInt, -1, 0, 3, 33, math.MaxInt} {
			for _, n := range []api.Node{{State: state}, {Id: -1, Up: true, State: state, Asking: true}, {Id: 2, Up: true, State: state, Primary: true, Req: api.Request{On: true}}} {
				n.Store.Super = api.Super{Blocks: blocks, Inc: state&1 != 0}
				n.Store.Mask = uint32(state)
				for _, p := range packetsOf(0) {
					peer.Receive(n, bytesOf(p))
					peer.Fits(n, p)
				}
			}
		}
	}
}
