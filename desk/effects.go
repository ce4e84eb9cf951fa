package desk

import (
	"gimbal/api"
	"gimbal/ghost"
	"gimbal/world"
)

// nobody is no replica.
const nobody = -1

// done outputs ok, unless a call has returned an error; it is told to the ghost either way.
func (d *desk) done(i int, e api.Errno) api.Errno {
	d.inform(i)
	if e == api.OK {
		d.say("ok")
	}
	return e
}

func (d *desk) group(c call) api.Errno {
	w, e := world.New(c.n[0], c.n[1])
	if e != api.OK {
		return e
	}
	d.world, d.ghost, d.known, d.shown = w, ghost.New(), 0, 0
	d.say("ok")
	return api.OK
}

func (d *desk) ask(c call) api.Errno {
	num, e := d.world.Ask(c.n[0], c.op)
	d.inform(nobody)
	if e == api.OK {
		d.tell("num", num)
	}
	return e
}

func (d *desk) tick(c call) api.Errno {
	return d.done(c.n[0], d.world.Tick(c.n[0]))
}

func (d *desk) client(c call) api.Errno {
	return d.done(nobody, d.world.TickClient(c.n[0]))
}

func (d *desk) deliver(c call) api.Errno {
	m, e := d.world.At(c.n[0])
	if e != api.OK {
		return e
	}
	return d.done(m.To, d.world.Deliver(c.n[0]))
}

func (d *desk) drop(c call) api.Errno {
	return d.done(nobody, d.world.Drop(c.n[0]))
}

func (d *desk) twice(c call) api.Errno {
	return d.done(nobody, d.world.Twice(c.n[0]))
}

func (d *desk) crash(c call) api.Errno {
	return d.done(nobody, d.world.Crash(c.n[0]))
}

func (d *desk) restart(c call) api.Errno {
	return d.done(c.n[0], d.world.Restart(c.n[0]))
}

func (d *desk) arm(c call) api.Errno {
	return d.done(nobody, d.world.Arm(c.n[0], c.n[1]))
}

// pass lets a round pass, and returns the number of messages that arrived. It is made call by call, so that the ghost misses nothing.
func (d *desk) pass() int {
	came := d.world.Len()
	for range came {
		m, _ := d.world.At(0)
		d.world.Deliver(0)
		d.inform(m.To)
	}
	for i := range d.world.N() {
		if d.world.Up(i) {
			d.world.Tick(i)
			d.inform(i)
		}
	}
	for i := range api.MaxClients {
		d.world.TickClient(i)
		d.inform(nobody)
	}
	d.left--
	return came
}

func (d *desk) round(call) api.Errno {
	return d.rounds(call{n: []int{1}})
}

func (d *desk) rounds(c call) api.Errno {
	n := c.n[0]
	if n < 1 || n > mostAtOnce {
		return api.ErrArg
	}
	if n > d.left {
		return api.ErrLimit
	}
	came := 0
	for range n {
		came += d.pass()
	}
	d.tell("came", came)
	return api.OK
}

func (d *desk) anyWaits() bool {
	for i := range api.MaxClients {
		if d.world.Waits(i) {
			return true
		}
	}
	return false
}

func (d *desk) heal(c call) api.Errno {
	if c.n[0] < 1 {
		return api.ErrArg
	}
	if d.left < 1 {
		return api.ErrLimit
	}
	d.world.Heal(0)
	for i := range d.world.N() {
		d.inform(i)
	}
	rounds := 0
	for d.anyWaits() && rounds < c.n[0] && d.left > 0 {
		d.pass()
		rounds++
	}
	d.tell("rounds", rounds)
	return api.OK
}
