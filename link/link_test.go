package link_test

import (
	"math"
	"math/rand"
	"slices"
	"strconv"
	"testing"

	"gemination/api"
	"gemination/link"
)

// roomy has the packets of a list, and filled room behind them, so that who writes there is seen.
func roomy(l []string) []string {
	return append(slices.Clone(l), "spare", "spare", "spare")[:len(l)]
}

// copyOf shares no memory with a link.
func copyOf(l api.Link) api.Link {
	for to := range l.To {
		l.To[to] = roomy(l.To[to])
	}
	return l
}

// alike tells whether two lists hold the same, one by one; none and empty are the same.
func alike(a, b []string) bool {
	if len(a) != len(b) {
		return false
	}
	for i := range a {
		if a[i] != b[i] {
			return false
		}
	}
	return true
}

// like tells whether two links are the same, part by part, without the package's own Same.
func like(a, b api.Link) bool {
	return a.Up == b.Up && a.Session == b.Session && alike(a.To[0], b.To[0]) && alike(a.To[1], b.To[1])
}

// whole tells whether a link that copyOf made is as it was, the room behind its packets too.
func whole(l, was api.Link) bool {
	for to := range l.To {
		if cap(l.To[to]) < len(l.To[to])+3 {
			return false
		}
		for _, s := range l.To[to][len(l.To[to]) : len(l.To[to])+3] {
			if s != "spare" {
				return false
			}
		}
	}
	return like(l, was)
}

// noSides are numbers of no side; the low bits of many are those of one.
func noSides() []int {
	return []int{math.MinInt, math.MinInt + 1, -1 << 32, -1<<32 + 1, math.MinInt32, -256, -2, -1, 2, 3, 4, 255, 256, 257, 65536, math.MaxInt32, 1 << 32, 1<<32 + 1, math.MaxInt - 1, math.MaxInt}
}

// some are lists of packets: none, one, some, the same one again, empty ones, and any bytes.
func some() [][]string {
	return [][]string{nil, {}, {"a"}, {"b"}, {""}, {"a", "b"}, {"b", "a"}, {"a", "a"}, {"", ""}, {"ab"}, {"a", ""}, {"", "a"},
		{"a", "b", "a", "c"}, {"\x00"}, {"\xff\xfe", "\u00e9", "a\x00b"}}
}

// sessions are numbers of sessions: the first ones, those at each edge, and any.
func sessions() []uint64 {
	return []uint64{0, 1, 2, 4, 254, 255, 256, math.MaxInt32, math.MaxUint32 - 1, math.MaxUint32, math.MaxUint32 + 1, math.MaxInt64, math.MaxInt64 + 1, math.MaxUint64 - 1, math.MaxUint64}
}

// links are some of all kinds, those too that have packets under way though they aren't up.
func links() []api.Link {
	var l []api.Link
	for i, a := range some() {
		for k, b := range some() {
			n := sessions()[(i*7+k)%len(sessions())]
			l = append(l, api.Link{Up: true, Session: n, To: [2][]string{a, b}}, api.Link{Session: n, To: [2][]string{a, b}})
		}
	}
	return l
}

// P14.1: a session has a number that is one more, and nothing under way; so it is if there was one.
func TestOpen(t *testing.T) {
	for _, n := range sessions() {
		next := n + 1
		if n == math.MaxUint64 {
			next = 0
		}
		for _, up := range []bool{false, true} {
			for _, packets := range some() {
				was := api.Link{Up: up, Session: n, To: [2][]string{packets, {"x"}}}
				l := copyOf(was)
				if got := link.Open(l); !like(got, api.Link{Up: true, Session: next}) {
					t.Fatal(was, got)
				}
				if !whole(l, was) {
					t.Fatal("handed in:", was, l)
				}
			}
		}
	}
}

// P14.1: behind the greatest number comes 0, and then 1.
func TestOpenBehindTheGreatest(t *testing.T) {
	l := api.Link{Session: math.MaxUint64 - 1}
	for _, want := range []uint64{math.MaxUint64, 0, 1, 2} {
		l = link.Open(l)
		if l.Session != want || !l.Up {
			t.Error(want, l)
		}
	}
}

// P14.1: an ended session leaves its number, and nothing under way; so it does if it ended before.
func TestClose(t *testing.T) {
	for _, n := range sessions() {
		for _, up := range []bool{true, false} {
			for _, packets := range some() {
				was := api.Link{Up: up, Session: n, To: [2][]string{{"x"}, packets}}
				l := copyOf(was)
				if got := link.Close(l); !like(got, api.Link{Session: n}) {
					t.Fatal(was, got)
				}
				if !whole(l, was) {
					t.Fatal("handed in:", was, l)
				}
			}
		}
	}
}

// P14.1: packets stand behind those that are under way there; on the other side all is as it was.
func TestSend(t *testing.T) {
	for _, was := range links() {
		for _, packets := range some() {
			for _, to := range []int{0, 1} {
				l, p := copyOf(was), roomy(packets)
				want, e := copyOf(was), api.ErrDown
				if was.Up {
					want.To[to], e = append(want.To[to], packets...), api.OK
				}
				if got, errno := link.Send(l, to, p...); errno != e || !like(got, want) {
					t.Fatal(was, to, packets, got, errno)
				}
				if !whole(l, was) || !alike(p, packets) || p[:len(p)+1][len(p)] != "spare" {
					t.Fatal("handed in:", was, l, packets, p)
				}
			}
		}
	}
}

// P14.1: what is no side is told first, with the link as it was; so it is if nothing is sent.
func TestSendToNoSide(t *testing.T) {
	for _, was := range links() {
		for _, to := range noSides() {
			l := copyOf(was)
			if got, errno := link.Send(l, to, "x", "y"); errno != api.ErrArg || !like(got, was) {
				t.Fatal(was, to, got, errno)
			}
			if got, errno := link.Send(l, to); errno != api.ErrArg || !like(got, was) {
				t.Fatal(was, to, got, errno)
			}
			if !whole(l, was) {
				t.Fatal("handed in:", was, l)
			}
		}
	}
}

// P14.1: nothing can be sent without a session, not even none.
func TestSendWithoutASession(t *testing.T) {
	for _, l := range []api.Link{{}, {Session: 5}, link.Close(link.Open(api.Link{}))} {
		for _, to := range []int{0, 1} {
			if got, errno := link.Send(l, to); errno != api.ErrDown || !like(got, l) {
				t.Error(l, to, got, errno)
			}
			if got, errno := link.Send(l, to, "x"); errno != api.ErrDown || !like(got, l) {
				t.Error(l, to, got, errno)
			}
		}
	}
}

// P14.1: of two links that were one before each has its own packets.
func TestSendTwiceBehindTheSameOne(t *testing.T) {
	l := api.Link{Up: true, To: [2][]string{append(make([]string, 0, 9), "a"), nil}}
	b, _ := link.Send(l, 0, "b")
	c, _ := link.Send(l, 0, "c")
	_, taken, _ := link.Take(b, 0)
	d, _ := link.Send(taken, 0, "d")
	e, _ := link.Send(taken, 0, "e")
	for i, x := range []struct {
		l    api.Link
		want []string
	}{{l, []string{"a"}}, {b, []string{"a", "b"}}, {c, []string{"a", "c"}}, {taken, []string{"b"}}, {d, []string{"b", "d"}}, {e, []string{"b", "e"}}} {
		if !alike(x.l.To[0], x.want) {
			t.Error(i, x.l)
		}
	}
}

// P14.1: what stood in the list that was handed in may change without another one of a link's changing.
func TestPacketsAreNotKept(t *testing.T) {
	packets := []string{"a", "b"}
	l, _ := link.Send(api.Link{Up: true}, 1, packets...)
	packets[0] = "z"
	again, _ := link.Send(api.Link{Up: true}, 1, "c")
	if !alike(l.To[1], []string{"a", "b"}) || !alike(again.To[1], []string{"c"}) {
		t.Error(l, again)
	}
}

// P14.1: the first one under way is taken, whether the link is up or not; of none nothing, and false.
func TestTake(t *testing.T) {
	for _, was := range links() {
		for _, to := range append(noSides(), 0, 1) {
			l := copyOf(was)
			want, first, is := copyOf(was), "", false
			if (to == 0 || to == 1) && len(was.To[to]) > 0 {
				first, is = was.To[to][0], true
				want.To[to] = want.To[to][1:]
			}
			if s, got, ok := link.Take(l, to); s != first || ok != is || !like(got, want) {
				t.Fatal(was, to, s, got, ok)
			}
			if !whole(l, was) {
				t.Fatal("handed in:", was, l)
			}
		}
	}
}

// P14.1: an empty packet is one, too.
func TestTakeAnEmptyPacket(t *testing.T) {
	l, errno := link.Send(api.Link{Up: true}, 1, "")
	if errno != api.OK || link.Idle(l) {
		t.Error(l, errno)
	}
	s, l, ok := link.Take(l, 1)
	if s != "" || !ok || !link.Idle(l) {
		t.Error(s, l, ok)
	}
}

// P14.1: idle is where nothing is under way to either, whether there is a session or not.
func TestIdle(t *testing.T) {
	for _, was := range links() {
		l := copyOf(was)
		if got := link.Idle(l); got != (len(was.To[0])+len(was.To[1]) == 0) {
			t.Fatal(was, got)
		}
		if !whole(l, was) {
			t.Fatal("handed in:", was, l)
		}
	}
	if !link.Idle(api.Link{}) || !link.Idle(api.Link{Up: true, Session: 3, To: [2][]string{{}, nil}}) {
		t.Error("nothing is under way")
	}
}

// P14.1: links are the same if each part is; a list that holds nothing may be none.
func TestSame(t *testing.T) {
	for _, a := range links() {
		for _, b := range links() {
			l, m := copyOf(a), copyOf(b)
			if got := link.Same(l, m); got != like(a, b) {
				t.Fatal(a, b, got)
			}
		}
	}
	for _, was := range links() {
		l, m := copyOf(was), copyOf(was)
		if !link.Same(l, m) || !whole(l, was) || !whole(m, was) {
			t.Fatal(was, l, m)
		}
		m.Up = !m.Up
		if link.Same(l, m) || link.Same(m, l) {
			t.Fatal("up, or not:", was)
		}
	}
	for _, n := range sessions() {
		for _, o := range sessions() {
			if link.Same(api.Link{Session: n}, api.Link{Session: o}) != (n == o) {
				t.Error(n, o)
			}
		}
	}
}

// P14.1: what is under way to the one isn't what is under way to the other.
func TestSameSides(t *testing.T) {
	a := api.Link{To: [2][]string{{"a"}, nil}}
	b := api.Link{To: [2][]string{nil, {"a"}}}
	if link.Same(a, b) || link.Same(b, a) || !link.Same(a, a) || !link.Same(b, b) {
		t.Error("sides")
	}
}

// P14.2: as in the chapter's example: opened, sent a and b, taken: a.
func TestExample(t *testing.T) {
	l, errno := link.Send(link.Open(api.Link{}), 0, "a", "b")
	if errno != api.OK {
		t.Error(errno)
	}
	if s, _, ok := link.Take(l, 0); s != "a" || !ok {
		t.Error(s, ok)
	}
}

// P14.2: all that was sent comes in its order, each once, whether it was sent in one go or one by one.
func TestFirstInFirstOut(t *testing.T) {
	for _, to := range []int{0, 1} {
		for n := range 40 {
			var packets []string
			for i := range n {
				packets = append(packets, strconv.Itoa(i%7))
			}
			atOnce, _ := link.Send(link.Open(api.Link{}), to, packets...)
			oneByOne := link.Open(api.Link{})
			for _, s := range packets {
				oneByOne, _ = link.Send(oneByOne, to, s)
			}
			if !link.Same(atOnce, oneByOne) {
				t.Fatal(to, n)
			}
			for i, want := range packets {
				s, l, ok := link.Take(atOnce, to)
				if s != want || !ok || len(l.To[to]) != n-1-i {
					t.Fatal(to, n, i, s, ok)
				}
				atOnce = l
			}
			if s, l, ok := link.Take(atOnce, to); s != "" || ok || !link.Idle(l) {
				t.Fatal(to, n, s, ok)
			}
		}
	}
}

// track is what came and went in drawn calls: what was sent in this session, and how many of it came, on each side.
type track struct {
	sent [2][]string
	came [2]int
}

func (k *track) end() { *k = track{} }

// P14.2: among drawn calls each packet names its session, its side and its place there: it comes in that session, on that side, at that place.
func TestDrawnSessions(t *testing.T) {
	for seed := range int64(60) {
		r := rand.New(rand.NewSource(seed))
		l := api.Link{Session: math.MaxUint64 - 3}
		var k track
		for range 600 {
			to := r.Intn(2)
			switch n := r.Intn(20); {
			case n == 0:
				l = link.Open(l)
				k.end()
			case n == 1:
				l = link.Close(l)
				k.end()
			case n < 10:
				l = drawnSend(t, r, l, &k, to)
			default:
				l = checkedTake(t, l, &k, to)
			}
		}
	}
}

// drawnSend sends up to three packets, and holds the answer against whether there is a session.
func drawnSend(t *testing.T, r *rand.Rand, l api.Link, k *track, to int) api.Link {
	var packets []string
	for i := range r.Intn(4) {
		packets = append(packets, strconv.FormatUint(l.Session, 10)+" "+strconv.Itoa(to)+" "+strconv.Itoa(len(k.sent[to])+i))
	}
	next, errno := link.Send(l, to, packets...)
	if !l.Up {
		if errno != api.ErrDown || !like(next, l) {
			t.Fatal(l, errno)
		}
		return next
	}
	if errno != api.OK {
		t.Fatal(l, errno)
	}
	k.sent[to] = append(k.sent[to], packets...)
	return next
}

// checkedTake takes a packet, and holds it against those that were sent.
func checkedTake(t *testing.T, l api.Link, k *track, to int) api.Link {
	s, next, ok := link.Take(l, to)
	if ok != (k.came[to] < len(k.sent[to])) {
		t.Fatal(l, to, ok)
	}
	if !ok {
		if s != "" || !like(next, l) {
			t.Fatal(l, to, s)
		}
		return next
	}
	if s != k.sent[to][k.came[to]] || next.Session != l.Session || !next.Up {
		t.Fatal(l, to, s)
	}
	k.came[to]++
	if rest := k.sent[to][k.came[to]:]; !alike(next.To[to], rest) || !alike(next.To[1-to], l.To[1-to]) {
		t.Fatal(l, to, next)
	}
	return next
}

// P14.2: what was under way when a session ended comes in no other one, whether it was closed or the next one opened over it.
func TestNoneComesInAnotherSession(t *testing.T) {
	for _, packets := range some() {
		l, _ := link.Send(link.Open(api.Link{}), 0, packets...)
		l, _ = link.Send(l, 1, packets...)
		for i, next := range []api.Link{link.Close(l), link.Open(l), link.Open(link.Close(l)), link.Close(link.Open(l))} {
			for _, to := range []int{0, 1} {
				if s, _, ok := link.Take(next, to); s != "" || ok {
					t.Error(packets, i, to, s)
				}
			}
		}
	}
}
