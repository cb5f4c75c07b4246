package peer_test

import (
	"math/rand"
	"slices"
	"testing"

	"gemination/api"
	"gemination/area"
	"gemination/disk"
	"gemination/greet"
	"gemination/node"
	"gemination/peer"
	"gemination/write"
)

// pair is two nodes, and the bytes of their session that are under way to each; elder ones are of sessions that ended.
type pair struct {
	n       [2]api.Node
	session uint64
	to      [2][]string
	elder   []string
	draw    uint64
	refused bool
	replied map[api.Errno]int
}

// pairOf is two fresh nodes of so many blocks.
func pairOf(t *testing.T, blocks int) *pair {
	t.Helper()
	p := &pair{draw: 100, replied: map[api.Errno]int{}}
	for i := range p.n {
		d, e := area.Format(blocks, 7)
		if e != api.OK {
			t.Fatal(e)
		}
		p.n[i], e = node.Attach(api.Node{Id: i, Store: api.Store{Disk: d}})
		if e != api.OK {
			t.Fatal(e)
		}
	}
	return p
}

// puts: a node is another one, and what it put out goes to the other one; the session ends, if it is down, or closes.
func (p *pair) puts(i int, n api.Node, outs []api.Out) {
	p.n[i] = n
	closes := !n.Up
	for _, o := range outs {
		switch o.Kind {
		case api.OutPacket:
			p.to[1-i] = append(p.to[1-i], o.Data)
		case api.OutReply:
			p.replied[o.Err]++
		case api.OutClose:
			closes = true
		}
	}
	if closes {
		p.ends()
	}
}

// ends: the session does.
func (p *pair) ends() {
	p.elder = append(p.elder, slices.Concat(p.to[0], p.to[1])...)
	p.elder = p.elder[max(0, len(p.elder)-10):]
	p.to = [2][]string{}
	for i := range p.n {
		p.n[i].Draws = []uint64{p.fresh()}
		n, outs := write.Lose(p.n[i])
		p.n[i] = n
		for _, o := range outs {
			p.replied[o.Err]++
		}
	}
}

// fresh is a generation that there was never.
func (p *pair) fresh() uint64 {
	p.draw++
	return p.draw
}

// begins: a session of both.
func (p *pair) begins() {
	p.session++
	for i := range p.n {
		n, outs := greet.Begin(p.n[i], p.session)
		p.puts(i, n, outs)
	}
}

// delivers the first packet that is under way to a node; false, if none is. No packet but a hello closes the session.
func (p *pair) delivers(t *testing.T, i int) bool {
	t.Helper()
	if len(p.to[i]) == 0 {
		return false
	}
	b := p.to[i][0]
	p.to[i] = p.to[i][1:]
	n, outs := peer.Receive(p.n[i], b)
	if slices.Contains(outs, api.Out{Kind: api.OutClose, Node: i}) {
		if p.n[i].State != api.StGreet || len(b) != 51 || !node.Same(n, p.n[i]) {
			t.Fatalf("%#v, %q: %#v", p.n[i], b, outs)
		}
		p.refused = true
	}
	p.puts(i, n, outs)
	return true
}

// drains: all that is under way is delivered.
func (p *pair) drains(t *testing.T) {
	t.Helper()
	for p.delivers(t, 0) || p.delivers(t, 1) {
	}
}

// asks: a node is asked for something that it replies to.
func (p *pair) asks(i int, call func(n api.Node, id int) (api.Node, []api.Out)) {
	n, outs := call(p.n[i], 5)
	p.puts(i, n, outs)
}

// writes: something that was never written.
func (p *pair) writes(i, block int) {
	p.n[i].Draws = []uint64{p.fresh()}
	n, outs := write.Write(p.n[i], 3, block, blockOf(int(p.fresh())))
	p.puts(i, n, outs)
}

// agrees: both are linked, hold the same, and have no marks; one is primary at most, and the other one knows.
func (p *pair) agrees(t *testing.T) {
	t.Helper()
	a, b := p.n[0], p.n[1]
	x, e := area.All(a.Store.Disk)
	y, f := area.All(b.Store.Disk)
	if e != api.OK || f != api.OK || !slices.Equal(x, y) || a.Store.Mask|b.Store.Mask != 0 || a.Store.Super.Vector != b.Store.Super.Vector {
		t.Fatalf("%#v, %#v", a, b)
	}
	if a.Store.Super.Inc || b.Store.Super.Inc || a.Primary && b.Primary || a.PeerPri != b.Primary || b.PeerPri != a.Primary {
		t.Fatalf("%#v, %#v", a, b)
	}
}

// P20.2: between the packets of two that meet, copy, write and change roles come bytes of elder sessions, and bytes that are none: those disturb nothing, whatever is under way; these end the session, and nothing else.
func TestJunkBetween(t *testing.T) {
	for order := range 1 << 7 {
		p := pairOf(t, 3)
		p.asks(0, node.Promote)
		p.writes(0, 1)
		p.writes(0, 2)
		for at := range 40 {
			switch at {
			case 0, 8:
				p.ends()
				p.begins()
			case 20:
				p.writes(0, 1)
			case 26:
				p.drains(t)
				p.asks(0, node.Demote)
			case 32:
				p.drains(t)
				p.asks(1, node.Promote)
			}
			for i := range p.n {
				for _, b := range p.elder {
					unmoved(t, p.n[i], b, nil)
				}
				junk(t, p.n[i], "junk")
			}
			p.delivers(t, order>>(at%7)&1)
		}
		p.drains(t)
		p.agrees(t)
		if !p.n[1].Primary || p.n[0].Primary || len(p.elder) == 0 {
			t.Fatalf("%#v", p)
		}
	}
}

// P20.1: where two both ask to become primary, both are denied, or the one that was heard ahead isn't, in whatever order packets come.
func TestBothAsk(t *testing.T) {
	granted := 0
	for order := range 1 << 6 {
		p := pairOf(t, 2)
		p.begins()
		p.drains(t)
		p.asks(order&1, node.Promote)
		for at := 1; at < 6; at++ {
			if at == 3 {
				p.asks(order&1^1, node.Promote)
			}
			p.delivers(t, order>>at&1)
		}
		p.drains(t)
		p.agrees(t)
		if p.n[0].Primary || p.n[1].Primary {
			granted++
		}
		if p.n[0].Asking || p.n[1].Asking || p.replied[api.OK]+p.replied[api.ErrPeer] != 2 {
			t.Fatalf("%#v", p)
		}
	}
	if granted == 0 || granted == 1<<6 {
		t.Error(granted)
	}
}

// happens: something that is drawn happens to both.
func (p *pair) happens(t *testing.T, r *rand.Rand) {
	t.Helper()
	i := r.Intn(2)
	n := p.n[i]
	switch k := r.Intn(32); {
	case k < 14:
		p.delivers(t, i)
	case k < 19:
		p.writes(i, r.Intn(4))
	case k < 22:
		p.asks(i, node.Promote)
	case k < 24:
		p.asks(i, node.Demote)
	case k == 24 && r.Intn(4) == 0 && n.State == api.StAlone:
		p.asks(i, node.Discard)
	case k == 25:
		p.ends()
	case k == 26 && n.Up:
		p.n[i].Store.Disk = disk.Arm(n.Store.Disk, r.Intn(16))
	case k == 27 && n.Up:
		p.puts(i, node.Down(n), nil)
	case k > 27 && !n.Up:
		up, e := node.Attach(n, r.Intn(2) == 0, r.Intn(2) == 0, r.Intn(2) == 0)
		if e != api.OK {
			t.Fatal(n, e)
		}
		p.n[i] = up
	case k > 27 && n.State == api.StAlone && p.n[1-i].Up:
		p.begins()
	}
}

// P20.2: long rows of all that happens to two nodes, with bytes of elder sessions and junk between: nothing of that is seen; what the other one sends fits always, but for a hello that is refused; where nothing is under way both agree.
func TestDrawnLives(t *testing.T) {
	r := rand.New(rand.NewSource(1))
	quiet, refused := 0, 0
	count := map[api.Errno]int{}
	for range 400 {
		p := pairOf(t, 1+r.Intn(4))
		for range 300 {
			p.happens(t, r)
			if i := r.Intn(2); r.Intn(8) == 0 && len(p.elder) > 0 {
				unmoved(t, p.n[i], p.elder[r.Intn(len(p.elder))], nil)
				junk(t, p.n[i], "junk"[:r.Intn(5)])
			}
			a, b := p.n[0], p.n[1]
			idle := len(p.to[0])+len(p.to[1]) == 0 && !a.Req.On && !b.Req.On
			if a.State == api.StLinked && b.State == api.StLinked && idle {
				p.agrees(t)
				quiet++
			}
			if a.Primary && b.Primary && a.State > api.StGreet && b.State > api.StGreet {
				t.Fatalf("%#v", p)
			}
			if p.refused {
				p.refused = false
				refused++
			}
		}
		for e, k := range p.replied {
			count[e] += k
		}
	}
	for _, e := range []api.Errno{api.OK, api.ErrDown, api.ErrRole, api.ErrRange, api.ErrBusy, api.ErrPeer, api.ErrLost} {
		if count[e] < 20 {
			t.Error(e, count)
		}
	}
	if quiet < 1000 || refused < 100 {
		t.Error(quiet, refused)
	}
}
