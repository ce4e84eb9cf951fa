package node

import (
	"gimbal/api"
	"gimbal/msg"
)

// turn is one call to a replica: what it sends is told only if it is still up in the end.
type turn struct {
	*Node
	out []api.Msg
}

// end returns what is sent.
func (t *turn) end() ([]api.Msg, api.Errno) {
	if t.down {
		return nil, api.ErrDown
	}
	return t.out, api.OK
}

// send collects messages; each has memory of its own.
func (t *turn) send(l ...api.Msg) {
	for _, m := range l {
		m.From = t.me
		t.out = append(t.out, msg.Copy(m))
	}
}

// toOthers sends m to each other replica.
func (t *turn) toOthers(m api.Msg) {
	others := (1<<t.n - 1) &^ (1 << t.me)
	for i := range t.n {
		if others>>i&1 == 1 {
			m.To = i
			t.send(m)
		}
	}
}

// wrote lets the replica go down if it could not write what it is about to promise.
func (t *turn) wrote(e api.Errno) {
	if e != api.OK {
		t.down = true
	}
}

// writeAll writes the view and the whole log.
func (t *turn) writeAll() {
	m := t.spec.Image()
	t.wrote(t.store.Base(api.Kept{View: t.view, Last: t.last, Base: m.Base, Ckpt: m.Ckpt, Entries: m.Entries}))
}

// compact makes a checkpoint, if enough is committed since the last one.
func (t *turn) compact() {
	if t.spec.Committed()-t.spec.Base() >= api.MaxKeep {
		t.spec.Settle()
		t.writeAll()
	}
}

// replyTo sends the client of an entry its result.
func (t *turn) replyTo(x api.Entry, op int, r api.Res, sure bool) {
	t.send(api.Msg{Kind: api.MsgReply, To: api.MaxNodes + x.Client, View: t.view, Op: op, Entry: asker(x), Res: r, Sure: sure})
}

// asker returns the part of an entry that tells whose it is.
func asker(x api.Entry) api.Entry {
	return api.Entry{Client: x.Client, Num: x.Num}
}

// execute executes an entry, and writes it; it reports whether there is room for it.
func (t *turn) execute(x api.Entry) (op int, r api.Res, is bool) {
	op, r, e := t.spec.Exec(x)
	if e != api.OK {
		return 0, api.Res{}, false
	}
	t.wrote(t.store.Put(op, x))
	return op, r, true
}

// commitTo commits what there is up to op; a primary answers the clients then.
func (t *turn) commitTo(op int) {
	for t.spec.Committed() < min(op, t.spec.Top()) {
		next := t.spec.Committed() + 1
		t.spec.Commit(next)
		if t.leads() {
			x, r, _ := t.spec.Answer(next)
			t.replyTo(x, next, r, true)
		}
	}
}

// enter begins a view, in which the replica is not normal yet.
func (t *turn) enter(view int) {
	t.view, t.normal = view, false
	t.wrote(t.store.View(t.view, t.last))
	t.clock.Reset()
	t.prepare()
	t.announce()
}

// announce tells the others the view, and its primary the log.
func (t *turn) announce() {
	t.toOthers(api.Msg{Kind: api.MsgStart, View: t.view})
	if !t.leads() {
		t.send(api.Msg{Kind: api.MsgChange, To: Lead(t.view, t.n), View: t.view, Last: t.last, Image: t.spec.Image()})
	}
}

// settleIn makes the replica normal in a view, whose log it has adopted.
func (t *turn) settleIn(view int) {
	t.view, t.last, t.normal = view, view, true
	t.writeAll()
	t.clock.Reset()
	t.prepare()
}

// state is the message that gives somebody the log of the view.
func (t *turn) state(to int) api.Msg {
	return api.Msg{Kind: api.MsgState, To: to, View: t.view, Image: t.spec.Image()}
}

// tick is what a replica does at each tick.
func (t *turn) tick() {
	switch {
	case t.normal && t.leads():
		t.toOthers(api.Msg{Kind: api.MsgCommit, View: t.view, Op: t.spec.Top(), Commit: t.spec.Committed()})
	case t.clock.Tick():
		if t.view < api.MaxNumber {
			t.enter(t.view + 1)
		}
	case !t.normal:
		t.announce()
	}
}
