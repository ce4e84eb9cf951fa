package node

import (
	"gimbal/api"
	"gimbal/msg"
)

// effects returns what the kinds of messages do that a replica handles.
func effects() map[int]func(*turn, api.Msg) {
	return map[int]func(*turn, api.Msg){
		api.MsgRequest: (*turn).request,
		api.MsgPrepare: (*turn).follow,
		api.MsgCommit:  (*turn).follow,
		api.MsgOk:      (*turn).ok,
		api.MsgStart:   (*turn).start,
		api.MsgChange:  (*turn).change,
		api.MsgAsk:     (*turn).ask,
		api.MsgState:   (*turn).adopt,
	}
}

func (t *turn) request(m api.Msg) {
	if !t.normal || !t.leads() {
		return
	}
	switch t.spec.Judge(m.Entry.Client, m.Entry.Num) {
	case api.SeatSame:
		seat, _ := t.spec.Seat(m.Entry.Client)
		t.send(api.Msg{Kind: api.MsgReply, To: m.From, View: t.view, Op: seat.Op, Entry: asker(m.Entry), Res: seat.Res, Sure: seat.Op <= t.spec.Committed()})
	case api.SeatOld:
	default:
		t.order(m)
	}
}

// order gives a request its place in the log.
func (t *turn) order(m api.Msg) {
	op, r, is := t.execute(m.Entry)
	if !is {
		t.send(api.Msg{Kind: api.MsgBusy, To: m.From, View: t.view, Entry: asker(m.Entry)})
		return
	}
	t.acks.Note(t.me, op)
	t.toOthers(api.Msg{Kind: api.MsgPrepare, View: t.view, Op: op, Commit: t.spec.Committed(), Entry: m.Entry})
	t.replyTo(m.Entry, op, r, false)
}

// tellTop sends a message that tells how far the log reaches.
func (t *turn) tellTop(kind, to, view int) {
	t.send(api.Msg{Kind: kind, To: to, View: view, Op: t.spec.Top()})
}

// follow does what the primary has done.
func (t *turn) follow(m api.Msg) {
	if Lead(m.View, t.n) != m.From || m.View < t.view {
		return
	}
	if m.View > t.view || !t.normal {
		t.tellTop(api.MsgAsk, m.From, m.View)
		return
	}
	t.clock.Reset()
	t.commitTo(m.Commit)
	switch top := t.spec.Top(); {
	case m.Kind == api.MsgPrepare && m.Op == top+1:
		t.append(m)
	case m.Op > top:
		t.tellTop(api.MsgAsk, m.From, m.View)
	default:
		t.tellTop(api.MsgOk, m.From, m.View)
	}
	t.commitTo(m.Commit)
}

// append executes the entry that the primary has at the next op.
func (t *turn) append(m api.Msg) {
	op, r, is := t.execute(m.Entry)
	if !is {
		return
	}
	t.tellTop(api.MsgOk, m.From, m.View)
	t.replyTo(m.Entry, op, r, false)
}

func (t *turn) ok(m api.Msg) {
	if !t.normal || !t.leads() || m.View != t.view {
		return
	}
	t.acks.Note(m.From, min(m.Op, t.spec.Top()))
	t.commitTo(t.acks.Sure())
}

func (t *turn) start(m api.Msg) {
	if m.View > t.view {
		t.enter(m.View)
	}
}

func (t *turn) change(m api.Msg) {
	if Lead(m.View, t.n) != t.me {
		return
	}
	if m.View > t.view {
		t.enter(m.View)
	}
	switch {
	case m.View != t.view:
	case t.normal:
		t.send(t.state(m.From))
	default:
		t.offers.Add(api.Offer{From: m.From, Last: m.Last, Image: m.Image})
		t.lead()
	}
}

// lead makes a primary normal, once enough replicas have made offers.
func (t *turn) lead() {
	chosen, _, e := t.offers.Choose()
	if e != api.OK {
		return
	}
	if _, e := t.spec.Adopt(chosen); e != api.OK {
		return
	}
	t.settleIn(t.view)
	t.toOthers(t.state(t.me))
}

func (t *turn) ask(m api.Msg) {
	if t.normal && m.View == t.view {
		t.send(t.state(m.From))
	}
}

func (t *turn) adopt(m api.Msg) {
	primary := Lead(m.View, t.n)
	if primary == t.me || m.View < t.view {
		return
	}
	if m.View > t.view || !t.normal {
		if _, e := t.spec.Adopt(m.Image); e != api.OK {
			return
		}
		t.settleIn(m.View)
	} else {
		t.catchUp(m.Image)
	}
	t.tellTop(api.MsgOk, primary, m.View)
}

// catchUp takes over what the primary of the same view has more.
func (t *turn) catchUp(m api.Image) {
	if msg.Top(m) > t.spec.Top() {
		if _, e := t.spec.Adopt(m); e == api.OK {
			t.writeAll()
		}
	}
	t.commitTo(m.Commit)
}
