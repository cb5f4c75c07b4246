// Package work is what layers 16 to 20 have in common: a node that does something, and what it puts out by that. See shared/doc/16-node.md.
package work

import (
	"gemination/api"
	"gemination/disk"
	"gemination/packet"
	"gemination/store"
)

// Work is a node that does something, and what it put out by that.
type Work struct {
	api.Node
	Outs []api.Out
}

// Of: a node that put out nothing yet.
func Of(n api.Node) Work {
	return Work{Node: n}
}

// Down: a node that went down.
func Down(n api.Node) api.Node {
	// Of its store only the disk stays: what stands on it is known no sooner than at the revival.
	s := api.Store{Disk: disk.Crash(n.Store.Disk)}
	return api.Node{Id: n.Id, Store: s, Draws: n.Draws, Mints: n.Mints}
}

// Commit: a superblock; false, if it went down by that.
func (w *Work) Commit(b api.Super) bool {
	return w.keep(store.Commit(w.Store, b))
}

// Mark: a block; false, if it went down by that.
func (w *Work) Mark(block int) bool {
	return w.keep(store.Mark(w.Store, block))
}

// Wipe: a block's mark; false, if it went down by that.
func (w *Work) Wipe(block int) bool {
	return w.keep(store.Wipe(w.Store, block))
}

// Join: a mask; false, if it went down by that.
func (w *Work) Join(m uint32) bool {
	return w.keep(store.Join(w.Store, m))
}

// Put: a block's data; false, if it went down by that.
func (w *Work) Put(block int, data string) bool {
	return w.keep(store.Put(w.Store, block, data))
}

// Reply: to what it was asked.
func (w *Work) Reply(id int, e api.Errno, data string) {
	w.Outs = append(w.Outs, api.Out{Kind: api.OutReply, Node: w.Id, Id: id, Err: e, Data: data})
}

// Send: a packet that may be, of the node's session.
func (w *Work) Send(p api.Packet) {
	p.Session = w.Session
	// It may be, whatever its session, so it can't be refused.
	b, _ := packet.Encode(p)
	w.Outs = append(w.Outs, api.Out{Kind: api.OutPacket, Node: w.Id, Data: b})
}

// Close: it wants the session to end.
func (w *Work) Close() {
	w.Outs = append(w.Outs, api.Out{Kind: api.OutClose, Node: w.Id})
}

// keep: what a call of the store answered; false, if it went down by that.
func (w *Work) keep(s api.Store, e api.Errno) bool {
	// Beside an error, too: its disk is the one that the node goes down with.
	w.Store = s
	if e != api.OK {
		w.Node = Down(w.Node)
		return false
	}
	return true
}
