package cluster_test

import (
	"slices"
	"testing"

	"gemination/api"
	"gemination/cluster"
)

// ev is an event that needs nothing but a node.
func ev(kind, node int) api.Event {
	return api.Event{Kind: kind, Node: node}
}

// ask is an event that a node replies to.
func ask(kind, node, id int) api.Event {
	return api.Event{Kind: kind, Node: node, Id: id}
}

// writes is one of data that are told by the number, too.
func writes(node, id, block int) api.Event {
	return api.Event{Kind: api.EvWrite, Node: node, Id: id, Block: block, Data: dataOf(id)}
}

// dataOf is eight bytes that tell a number.
func dataOf(n int) string {
	l := []byte("data0000")
	for i := range 4 {
		l[7-i] += byte(n % 10)
		n /= 10
	}
	return string(l)
}

// with is an event of that kind with a number.
func with(kind, node int, n uint64) api.Event {
	return api.Event{Kind: kind, Node: node, N: n}
}

// deliver is a delivery to each of these nodes, one behind the other.
func deliver(nodes ...int) []api.Event {
	var l []api.Event
	for _, i := range nodes {
		l = append(l, ev(api.EvDeliver, i))
	}
	return l
}

// connect is both nodes' wish for it.
func connect() []api.Event {
	return []api.Event{ev(api.EvConnect, 0), ev(api.EvConnect, 1)}
}

// draws are four of each node, all unlike.
func draws() []api.Event {
	var l []api.Event
	for i := range 2 {
		for k := range 4 {
			l = append(l, with(api.EvDraw, i, uint64(100*(i+1)+k)))
		}
	}
	return l
}

// linked is two that meet with draws, and a primary, the node i.
func linked(i int) []api.Event {
	return slices.Concat(draws(), connect(), deliver(1, 0), []api.Event{ask(api.EvPromote, i, 1)}, deliver(1-i, i))
}

// alone is a primary, the node i, that writes some blocks alone.
func alone(i int, blocks ...int) []api.Event {
	l := append(draws(), ask(api.EvPromote, i, 1))
	for k, block := range blocks {
		l = append(l, writes(i, 10+k, block))
	}
	return l
}

// rows are of events that lead to clusters of all kinds, of three blocks.
func rows() [][]api.Event {
	roles := slices.Concat(
		linked(0), []api.Event{writes(0, 2, 1), ask(api.EvPromote, 1, 3), ask(api.EvDemote, 0, 4)}, deliver(1, 0, 1),
		[]api.Event{ask(api.EvDemote, 0, 5), ask(api.EvPromote, 1, 6)}, deliver(1), []api.Event{ask(api.EvPromote, 1, 7)}, deliver(0, 1),
		[]api.Event{writes(1, 8, 2)}, deliver(0, 1), []api.Event{writes(1, 9, 2)}, deliver(0, 0, 1, 0))
	asking := slices.Concat(draws(), connect(), deliver(0, 1), []api.Event{ask(api.EvPromote, 0, 1), ask(api.EvPromote, 1, 2)}, deliver(0, 1, 0, 1))
	copied := slices.Concat(
		alone(0, 0, 1), connect(), deliver(0, 1, 0), []api.Event{writes(0, 20, 0), ask(api.EvPromote, 1, 21)}, deliver(1, 1, 0, 0),
		[]api.Event{writes(0, 22, 1)}, deliver(0, 1, 1, 0, 0, 1, 0, 1, 1, 0, 1))
	back := slices.Concat(
		alone(1, 2), []api.Event{ask(api.EvDemote, 1, 20)}, connect(), deliver(0, 1), []api.Event{ask(api.EvPromote, 1, 21)}, deliver(1, 0, 0, 1, 1, 1, 0),
		[]api.Event{writes(1, 22, 2)}, deliver(0, 1))
	apart := slices.Concat(
		alone(0, 0), []api.Event{ask(api.EvPromote, 1, 20), writes(1, 21, 1), ask(api.EvDemote, 1, 22)}, connect(), deliver(1, 1),
		[]api.Event{ask(api.EvDiscard, 1, 23)}, connect(), deliver(1, 0, 0), []api.Event{ev(api.EvDrop, 0)}, connect(), deliver(0, 1))
	half := slices.Concat(
		alone(0, 0, 2), connect(), deliver(0, 1, 0, 1, 0), []api.Event{ev(api.EvCrash, 1), ask(api.EvRestart, 1, 20), ask(api.EvPromote, 1, 21), writes(0, 22, 1), ev(api.EvConnect, 1)}, deliver(0, 1, 0, 1))
	lost := slices.Concat(
		linked(1), []api.Event{writes(1, 2, 1), ev(api.EvDrop, 0), writes(1, 3, 0), ev(api.EvDisconnect, 0)}, connect(), deliver(1, 0, 1),
		[]api.Event{ev(api.EvCrash, 1), {Kind: api.EvRestart, Node: 1, Keeps: []bool{true}}, ev(api.EvDisconnect, 0), ev(api.EvConnect, 1)})
	undrawn := slices.Concat(connect(), deliver(0, 1), []api.Event{ask(api.EvPromote, 0, 1)}, deliver(1, 0), []api.Event{writes(0, 2, 2), ev(api.EvCrash, 1), writes(0, 3, 0), ask(api.EvRestart, 1, 4), ask(api.EvPromote, 1, 5)}, connect(), deliver(0))
	return [][]api.Event{roles, asking, copied, back, apart, half, lost, undrawn}
}

// clusters are those that the rows lead to, event by event, each once.
func clusters(t *testing.T) []api.Cluster {
	t.Helper()
	var l []api.Cluster
	for _, row := range rows() {
		c := fresh(t, 3)
		for _, e := range row {
			if !slices.ContainsFunc(l, func(x api.Cluster) bool { return like(x, c) }) {
				l = append(l, c)
			}
			c, _ = cluster.Do(c, e)
		}
		l = append(l, c)
	}
	return l
}

// fresh is a cluster of so many blocks, of the generation 7.
func fresh(t *testing.T, blocks int) api.Cluster {
	t.Helper()
	c, e := cluster.New(blocks, 7)
	if e != api.OK {
		t.Fatal(blocks, e)
	}
	return c
}

// play is what becomes of a cluster by events.
func play(c api.Cluster, l ...api.Event) api.Cluster {
	c, _ = cluster.Play(c, l...)
	return c
}

// settled is a cluster to which all that is under way was delivered.
func settled(c api.Cluster) api.Cluster {
	for len(c.Link.To[0])+len(c.Link.To[1]) > 0 {
		c = play(c, deliver(0, 1)...)
	}
	return c
}
