package desk

import (
	"strconv"

	"gimbal/api"
	"gimbal/fold"
	"gimbal/sum"
)

// whileUp lets tell output something of a replica, if that is up.
func (d *desk) whileUp(i int, tell func(i int)) api.Errno {
	if i < 0 || i >= d.world.N() {
		return api.ErrRange
	}
	if d.world.Up(i) {
		tell(i)
	} else {
		d.say("down")
	}
	return api.OK
}

func (d *desk) show(c call) api.Errno {
	return d.whileUp(c.n[0], func(i int) {
		w := d.world
		stands := "change"
		if w.Normal(i) {
			stands = "normal"
		}
		l := texts(w.View(i), w.Base(i), w.Committed(i), w.Top(i))
		d.say("view", l[0], stands, "base", l[1], "commit", l[2], "top", l[3])
	})
}

// hex returns a number in 16 hexadecimal digits.
func hex(n uint64) string {
	s := strconv.FormatUint(n, 16)
	for len(s) < 16 {
		s = "0" + s
	}
	return s
}

func (d *desk) sum(c call) api.Errno {
	return d.whileUp(c.n[0], func(i int) {
		d.say("sum", hex(sum.Fnv(d.world.Now(i))))
	})
}

func (d *desk) skus(c call) api.Errno {
	return d.whileUp(c.n[0], func(i int) {
		s, _ := fold.Open(d.world.Now(i))
		words := []string{"skus"}
		for _, x := range s.Skus() {
			words = append(append(words, x.Name), texts(x.There, x.Held)...)
		}
		d.say(words...)
	})
}

func (d *desk) orders(c call) api.Errno {
	return d.whileUp(c.n[0], func(i int) {
		s, _ := fold.Open(d.world.Now(i))
		var l []int
		for _, x := range s.Orders() {
			l = append(l, x.Id, x.Till, x.Stands)
		}
		d.tell("orders", l...)
	})
}

func (d *desk) events(call) api.Errno {
	l := d.world.Events()
	if d.shown == len(l) {
		d.say("none")
	}
	for _, v := range l[d.shown:] {
		d.event(v)
	}
	d.shown = len(l)
	return api.OK
}

func (d *desk) event(v api.Event) {
	if v.Kind == api.EvAsk {
		d.tell("asked", v.Entry.Client, v.Entry.Num)
		return
	}
	how := "said"
	if v.Sure {
		how = "sure"
	}
	l := texts(v.Entry.Client, v.Entry.Num, v.Op, v.Res.Code, v.Res.A, v.Res.B)
	d.say(append(append([]string{"done"}, l...), how)...)
}

func (d *desk) bag(call) api.Errno {
	d.tell("bag", d.world.Len())
	return api.OK
}

func (d *desk) message(c call) api.Errno {
	m, e := d.world.At(c.n[0])
	if e == api.OK {
		d.tell("message", m.Kind, m.From, m.To, m.View, m.Op)
	}
	return e
}

func (d *desk) judge(call) api.Errno {
	if rule, at := d.ghost.Broken(); rule != 0 {
		d.tell("broken", rule, at)
	} else {
		d.tell("fine", d.ghost.Len())
	}
	return api.OK
}

func (d *desk) ledger(c call) api.Errno {
	op := c.n[0]
	if op < 1 || op > d.ghost.Len() {
		return api.ErrRange
	}
	x := d.ghost.Ledger()[op-1]
	words, _ := Say(x.Op)
	d.say(append(append([]string{"entry"}, texts(x.Client, x.Num)...), words)...)
	return api.OK
}
