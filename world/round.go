package world

import (
	"gimbal/api"
)

// up yields the replicas that are up.
func (w *World) up(yield func(i int) bool) {
	for i, a := range w.nodes {
		if a != nil && !yield(i) {
			return
		}
	}
}

// Round lets each message arrive that is in the bag, and a tick pass for everybody; it returns the number of messages.
func (w *World) Round() int {
	if w.isNone() {
		return 0
	}
	came := w.bag.Len()
	for range came {
		w.Deliver(0)
	}
	for i := range w.up {
		w.tick(i)
	}
	for c := range api.MaxClients {
		w.TickClient(c)
	}
	return came
}

// anyWaits reports whether some client waits.
func (w *World) anyWaits() bool {
	for c := range api.MaxClients {
		if w.Waits(c) {
			return true
		}
	}
	return false
}

// Heal lets all replicas be up, with disks that do not tear, and rounds pass until no client waits; it returns their number.
func (w *World) Heal(most int) int {
	if w.isNone() {
		return 0
	}
	for i, d := range w.disks {
		d.Revive()
		if w.nodes[i] == nil {
			w.start(i)
		}
	}
	rounds := 0
	for w.anyWaits() && rounds < min(most, api.MaxRounds) {
		w.Round()
		rounds++
	}
	return rounds
}
