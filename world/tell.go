package world

import (
	"gimbal/api"
	"gimbal/entry"
	"gimbal/list"
	"gimbal/node"
)

// replica returns a replica that is up; the methods of any other one return zero values.
func (w *World) replica(i int) *node.Node {
	if w.hasReplica(i) != api.OK {
		return nil
	}
	return w.nodes[i]
}

// N returns the number of replicas.
func (w *World) N() int {
	if w.isNone() {
		return 0
	}
	return len(w.nodes)
}

// Up reports whether a replica is up.
func (w *World) Up(i int) bool { return w.replica(i) != nil }

// View returns the view of a replica.
func (w *World) View(i int) int { return w.replica(i).View() }

// Normal reports whether a replica is normal.
func (w *World) Normal(i int) bool { return w.replica(i).Normal() }

// Base returns the op of the checkpoint of a replica.
func (w *World) Base(i int) int { return w.replica(i).Base() }

// Committed returns the commit of a replica.
func (w *World) Committed(i int) int { return w.replica(i).Committed() }

// Top returns the op of the last entry of a replica.
func (w *World) Top(i int) int { return w.replica(i).Top() }

// Image returns the log of a replica, and its checkpoint.
func (w *World) Image(i int) api.Image { return w.replica(i).Image() }

// Now returns the encoding of the state of a replica.
func (w *World) Now(i int) []byte { return w.replica(i).Now() }

// Sure returns the encoding of the state of a replica after what is committed.
func (w *World) Sure(i int) []byte { return w.replica(i).Sure() }

// Waits reports whether a client waits for a result.
func (w *World) Waits(c int) bool {
	return w.hasClient(c) == api.OK && w.proxies[c].Waits()
}

// Events returns what has happened to clients, in order.
func (w *World) Events() []api.Event {
	if w.isNone() {
		return nil
	}
	return list.Copy(w.events, func(v api.Event) api.Event {
		v.Entry = entry.Copy(v.Entry)
		return v
	})
}

// Len returns the number of messages in the bag.
func (w *World) Len() int {
	if w.isNone() {
		return 0
	}
	return w.bag.Len()
}

// At returns a message in the bag.
func (w *World) At(k int) (api.Msg, api.Errno) {
	if w.isNone() {
		return api.Msg{}, api.ErrNil
	}
	return w.bag.At(k)
}
