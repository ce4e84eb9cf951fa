package node_test

import (
	"bytes"
	"math"
	"testing"

	"gimbal/api"
	"gimbal/disk"
	"gimbal/entry"
	"gimbal/fold"
	"gimbal/msg"
	"gimbal/node"
	"gimbal/record"
	"gimbal/store"
)

func restock(client, num int) api.Entry {
	return api.Entry{Client: client, Num: num, Op: api.Op{Kind: api.OpRestock, Sku: "a", N: 5}}
}

func request(to int, x api.Entry) api.Msg {
	return api.Msg{Kind: api.MsgRequest, From: api.MaxNodes + x.Client, To: to, Entry: x}
}

func asker(x api.Entry) api.Entry { return api.Entry{Client: x.Client, Num: x.Num} }

func reply(from, view, op int, x api.Entry, r api.Res, sure bool) api.Msg {
	return api.Msg{Kind: api.MsgReply, From: from, To: api.MaxNodes + x.Client, View: view, Op: op, Entry: asker(x), Res: r, Sure: sure}
}

func prepare(from, to, view, op, commit int, x api.Entry) api.Msg {
	return api.Msg{Kind: api.MsgPrepare, From: from, To: to, View: view, Op: op, Commit: commit, Entry: x}
}

func told(kind, from, to, view, op int) api.Msg {
	return api.Msg{Kind: kind, From: from, To: to, View: view, Op: op}
}

func commit(from, to, view, op, commit int) api.Msg {
	return api.Msg{Kind: api.MsgCommit, From: from, To: to, View: view, Op: op, Commit: commit}
}

func start(from, to, view int) api.Msg {
	return api.Msg{Kind: api.MsgStart, From: from, To: to, View: view}
}

func change(from, to, view, last int, m api.Image) api.Msg {
	return api.Msg{Kind: api.MsgChange, From: from, To: to, View: view, Last: last, Image: m}
}

func state(from, to, view int, m api.Image) api.Msg {
	return api.Msg{Kind: api.MsgState, From: from, To: to, View: view, Image: m}
}

func result(l ...api.Entry) []byte {
	s, _ := fold.Of(l)
	return s.Bytes()
}

func image(l []api.Entry, base, commit int) api.Image {
	return api.Image{Base: base, Ckpt: result(l[:base]...), Entries: l[base:], Commit: commit}
}

// some returns the first n entries of a log, of client 1.
func some(n int) []api.Entry {
	var l []api.Entry
	for i := range n {
		l = append(l, restock(1, i+1))
	}
	return l
}

func ok(n int) api.Res { return api.Res{A: n} }

func create(t *testing.T, i, n int) (*node.Node, *disk.Disk) {
	t.Helper()
	d := disk.New()
	a, e := node.New(i, n, 5, d)
	if e != api.OK {
		t.Fatal(e)
	}
	return a, d
}

func sends(t *testing.T, l []api.Msg, e api.Errno, want ...api.Msg) {
	t.Helper()
	if e != api.OK || len(l) != len(want) {
		t.Fatalf("%d messages, %d: %v", len(l), e, l)
	}
	for i := range l {
		if !msg.Same(l[i], want[i]) {
			t.Errorf("%d: %v instead of %v", i, l[i], want[i])
		}
		if msg.Check(l[i]) != api.OK {
			t.Error("an invalid message is sent", l[i])
		}
	}
}

func handle(t *testing.T, a *node.Node, m api.Msg, want ...api.Msg) {
	t.Helper()
	l, e := a.Handle(m)
	sends(t, l, e, want...)
}

func tick(t *testing.T, a *node.Node, want ...api.Msg) {
	t.Helper()
	l, e := a.Tick()
	sends(t, l, e, want...)
}

// is checks the state of a, and that a replica that starts from its disk has the same view and log.
func is(t *testing.T, a *node.Node, i, n int, d *disk.Disk, view, last int, l []api.Entry, base, commit int) {
	t.Helper()
	m := a.Image()
	if a.View() != view || a.Last() != last || a.Normal() != (view == last) || a.Primary() != (view%n == i) || a.Down() || a.Base() != base || a.Committed() != commit || a.Top() != len(l) ||
		m.Base != base || m.Commit != commit || !entry.SameRow(m.Entries, l[base:]) || !bytes.Equal(m.Ckpt, result(l[:base]...)) || !bytes.Equal(a.Now(), result(l...)) || !bytes.Equal(a.Sure(), result(l[:commit]...)) {
		t.Errorf("view %d, last %d, base %d, commit %d, top %d", a.View(), a.Last(), a.Base(), a.Committed(), a.Top())
	}
	b, e := node.New(i, n, 5, d)
	if e != api.OK || b.View() != view || b.Last() != last || b.Top() != len(l) || !bytes.Equal(b.Now(), a.Now()) || b.Committed() != max(b.Base(), len(l)-8) || b.Committed() > commit {
		t.Error("another one starts from its disk", e, b.View(), b.Last(), b.Top(), b.Committed())
	}
}

func TestExample(t *testing.T) { // P20.1, P20.2, P20.3, P20.5
	a, d := create(t, 0, 3)
	b, e := create(t, 1, 3)
	c, _ := create(t, 2, 3)
	x := restock(1, 1)
	first := prepare(0, 1, 0, 1, 0, x)
	handle(t, a, request(0, x), first, prepare(0, 2, 0, 1, 0, x), reply(0, 0, 1, x, ok(5), false))
	is(t, a, 0, 3, d, 0, 0, some(1), 0, 0)
	handle(t, b, first, told(api.MsgOk, 1, 0, 0, 1), reply(1, 0, 1, x, ok(5), false))
	is(t, b, 1, 3, e, 0, 0, some(1), 0, 0)
	handle(t, a, told(api.MsgOk, 1, 0, 0, 1), reply(0, 0, 1, x, ok(5), true))
	is(t, a, 0, 3, d, 0, 0, some(1), 0, 1)
	for range 4 {
		tick(t, c)
	}
	tick(t, c, start(2, 0, 1), start(2, 1, 1), change(2, 1, 1, 0, image(nil, 0, 0)))
}

func TestNewErrors(t *testing.T) { // P20.1
	for _, c := range [][3]int{{-1, 3, 5}, {3, 3, 5}, {0, 4, 5}, {0, 1, 5}, {0, 17, 5}, {0, -3, 5}, {0, 3, 0}, {0, 3, 1001}, {0, 3, -1}, {math.MinInt, 3, 5}, {math.MaxInt, 3, 5}, {0, math.MaxInt, 5}} {
		if a, e := node.New(c[0], c[1], c[2], nil); a != nil || e != api.ErrArg {
			t.Error(c, e)
		}
	}
	for _, d := range []*disk.Disk{nil, {}} {
		if a, e := node.New(0, 3, 5, d); a != nil || e != api.ErrNil {
			t.Error(e)
		}
	}
	d := disk.New()
	d.Append([]byte{1, 2, 3, 4, 5})
	if a, e := node.New(0, 3, 5, d); a != nil || e != api.ErrSpoil {
		t.Error(e)
	}
	d.Arm(0)
	d.Append([]byte{1})
	if a, e := node.New(0, 3, 5, d); a != nil || e != api.ErrDead {
		t.Error(e)
	}
	if a, e := node.New(14, 15, 1000, disk.New()); a == nil || e != api.OK {
		t.Error(e)
	}
}

func TestLead(t *testing.T) { // P20.1
	for _, c := range [][3]int{{0, 3, 0}, {4, 3, 1}, {14, 5, 4}, {-1, 3, -1}, {0, 4, -1}, {0, 0, -1}, {0, 17, -1}, {math.MinInt, 3, -1}, {math.MaxInt, 15, math.MaxInt % 15}, {1, math.MinInt, -1}} {
		if i := node.Lead(c[0], c[1]); i != c[2] {
			t.Error(c, i)
		}
	}
}

func TestNobody(t *testing.T) { // R1
	for _, a := range []*node.Node{nil, {}} {
		l, e := a.Handle(request(0, restock(1, 1)))
		k, f := a.Tick()
		if l != nil || e != api.ErrNil || k != nil || f != api.ErrNil || a.Down() {
			t.Error("nothing")
		}
		none(t, a)
	}
}

// none checks that a tells nothing.
func none(t *testing.T, a *node.Node) {
	t.Helper()
	m := a.Image()
	if a.View() != 0 || a.Last() != 0 || a.Normal() || a.Primary() || a.Base() != 0 || a.Committed() != 0 || a.Top() != 0 || !msg.SameImage(m, api.Image{}) || a.Now() != nil || a.Sure() != nil {
		t.Error("something is told")
	}
}

func TestRefusedMessages(t *testing.T) { // P20.2
	a, d := create(t, 0, 3)
	log := d.Log()
	x := restock(1, 1)
	for i, m := range []api.Msg{
		{},
		{Kind: api.MsgStart, From: 1, To: 0, View: -1},
		start(0, 0, 1), start(1, 1, 1), start(1, 2, 1), start(3, 0, 1), start(14, 0, 1), start(17, 0, 1), start(-1, 0, 1), start(1, -1, 1),
		told(api.MsgOk, 17, 0, 0, 1), told(api.MsgOk, 3, 0, 0, 1),
		request(1, x), {Kind: api.MsgRequest, From: 0, To: 0, Entry: x}, {Kind: api.MsgRequest, From: 1, To: 0, Entry: x}, {Kind: api.MsgRequest, From: 4, To: 0, Entry: x}, {Kind: api.MsgRequest, From: 23, To: 0, Entry: x}, {Kind: api.MsgRequest, From: 17, To: 0},
	} {
		if l, e := a.Handle(m); l != nil || e != api.ErrArg {
			t.Error(i, e)
		}
	}
	for _, m := range []api.Msg{{Kind: api.MsgReply, From: 1, To: 0, Entry: asker(x)}, {Kind: api.MsgBusy, From: 1, To: 0, Entry: asker(x)}} {
		handle(t, a, m)
	}
	if !bytes.Equal(d.Log(), log) {
		t.Error("something was written")
	}
	is(t, a, 0, 3, d, 0, 0, nil, 0, 0)
}

func TestRequest(t *testing.T) { // P20.2
	a, d := create(t, 0, 3)
	x, y, z := restock(1, 1), restock(1, 2), restock(2, 1)
	handle(t, a, request(0, x), prepare(0, 1, 0, 1, 0, x), prepare(0, 2, 0, 1, 0, x), reply(0, 0, 1, x, ok(5), false))
	handle(t, a, request(0, x), reply(0, 0, 1, x, ok(5), false))
	forwarded := request(0, x)
	forwarded.From = api.MaxNodes + 4
	again := reply(0, 0, 1, x, ok(5), false)
	again.To = api.MaxNodes + 4
	handle(t, a, forwarded, again) // the same request is answered to the sender
	handle(t, a, told(api.MsgOk, 2, 0, 0, 1), reply(0, 0, 1, x, ok(5), true))
	handle(t, a, request(0, x), reply(0, 0, 1, x, ok(5), true))
	handle(t, a, request(0, y), prepare(0, 1, 0, 2, 1, y), prepare(0, 2, 0, 2, 1, y), reply(0, 0, 2, y, ok(10), false))
	handle(t, a, request(0, x)) // an old one
	other := request(0, z)
	other.From = api.MaxNodes + 5
	handle(t, a, other, prepare(0, 1, 0, 3, 1, z), prepare(0, 2, 0, 3, 1, z), reply(0, 0, 3, z, ok(15), false))
	is(t, a, 0, 3, d, 0, 0, []api.Entry{x, y, z}, 0, 1)
	b, f := create(t, 1, 3)
	handle(t, b, request(1, x))
	is(t, b, 1, 3, f, 0, 0, nil, 0, 0)
	handle(t, a, start(1, 0, 3), start(0, 1, 3), start(0, 2, 3))
	handle(t, a, request(0, restock(1, 3))) // it is changing
}

func TestBusy(t *testing.T) { // P20.2, P20.7, W5
	a, d := create(t, 0, 3)
	for n := range 8 {
		if _, e := a.Handle(request(0, restock(1, n+1))); e != api.OK {
			t.Fatal(e)
		}
	}
	x := restock(1, 9)
	m := request(0, x)
	m.From = api.MaxNodes + 4
	handle(t, a, m, api.Msg{Kind: api.MsgBusy, From: 0, To: api.MaxNodes + 4, Entry: asker(x)})
	is(t, a, 0, 3, d, 0, 0, some(8), 0, 0)
}

func TestFullTable(t *testing.T) { // P20.2, W5
	a, _ := create(t, 0, 3)
	for c := range 6 {
		a.Handle(request(0, restock(c, 1)))
	}
	x := restock(7, 1)
	handle(t, a, request(0, x), prepare(0, 1, 0, 7, 0, x), prepare(0, 2, 0, 7, 0, x), reply(0, 0, 7, x, api.Res{Code: api.ResFull}, false))
	handle(t, a, request(0, x), prepare(0, 1, 0, 8, 0, x), prepare(0, 2, 0, 8, 0, x), reply(0, 0, 8, x, api.Res{Code: api.ResFull}, false))
}

func TestPrepareAndCommit(t *testing.T) { // P20.2
	a, d := create(t, 1, 3)
	l := some(9)
	handle(t, a, prepare(0, 1, 0, 1, 0, l[0]), told(api.MsgOk, 1, 0, 0, 1), reply(1, 0, 1, l[0], ok(5), false))
	handle(t, a, prepare(0, 1, 0, 1, 0, l[0]), told(api.MsgOk, 1, 0, 0, 1))
	handle(t, a, prepare(0, 1, 0, 3, 0, l[2]), told(api.MsgAsk, 1, 0, 0, 1))
	handle(t, a, commit(0, 1, 0, 3, 0), told(api.MsgAsk, 1, 0, 0, 1))
	handle(t, a, commit(0, 1, 0, 1, 0), told(api.MsgOk, 1, 0, 0, 1))
	handle(t, a, commit(0, 1, 0, 0, 0), told(api.MsgOk, 1, 0, 0, 1))
	is(t, a, 1, 3, d, 0, 0, l[:1], 0, 0)
	handle(t, a, prepare(0, 1, 0, 2, 2, l[1]), told(api.MsgOk, 1, 0, 0, 2), reply(1, 0, 2, l[1], ok(10), false))
	is(t, a, 1, 3, d, 0, 0, l[:2], 0, 2)
	for n := 3; n <= 7; n++ {
		handle(t, a, prepare(0, 1, 0, n, 2, l[n-1]), told(api.MsgOk, 1, 0, 0, n), reply(1, 0, n, l[n-1], ok(5*n), false))
	}
	handle(t, a, commit(0, 1, 0, 9, 4), told(api.MsgAsk, 1, 0, 0, 7))
	is(t, a, 1, 3, d, 0, 0, l[:7], 0, 4)
	handle(t, a, commit(0, 1, 0, 7, api.MaxNumber), told(api.MsgOk, 1, 0, 0, 7))
	is(t, a, 1, 3, d, 0, 0, l[:7], 0, 7)
	handle(t, a, prepare(2, 1, 0, 8, 7, l[7])) // not from the primary
	handle(t, a, commit(2, 1, 0, 8, 7))
	handle(t, a, commit(2, 1, 2, 8, 7), told(api.MsgAsk, 1, 2, 2, 7)) // of a later view
	handle(t, a, prepare(2, 1, 5, 8, 7, l[7]), told(api.MsgAsk, 1, 2, 5, 7))
	is(t, a, 1, 3, d, 0, 0, l[:7], 0, 7)
	handle(t, a, start(0, 1, 3), start(1, 0, 3), start(1, 2, 3), change(1, 0, 3, 0, image(l[:7], 0, 7)))
	handle(t, a, commit(0, 1, 3, 7, 7), told(api.MsgAsk, 1, 0, 3, 7)) // of its view, while it is changing
	handle(t, a, prepare(0, 1, 0, 8, 7, l[7]))                        // of an earlier view
	is(t, a, 1, 3, d, 3, 0, l[:7], 0, 7)
}

func TestPrepareWithoutRoom(t *testing.T) { // P20.2, W5
	a, d := create(t, 1, 3)
	l := some(9)
	for n := range 8 {
		a.Handle(prepare(0, 1, 0, n+1, 0, l[n]))
	}
	handle(t, a, prepare(0, 1, 0, 9, 0, l[8]))
	is(t, a, 1, 3, d, 0, 0, l[:8], 0, 0)
	handle(t, a, prepare(0, 1, 0, 9, 1, l[8]), told(api.MsgOk, 1, 0, 0, 9), reply(1, 0, 9, l[8], ok(45), false))
	is(t, a, 1, 3, d, 0, 0, l, 0, 1)
}

func TestOk(t *testing.T) { // P20.2
	a, d := create(t, 0, 5)
	l := some(4)
	for n := range 4 {
		a.Handle(request(0, l[n]))
	}
	handle(t, a, told(api.MsgOk, 1, 0, 0, 3))
	handle(t, a, told(api.MsgOk, 1, 0, 0, 3))
	handle(t, a, told(api.MsgOk, 2, 0, 1, 3)) // of another view
	handle(t, a, told(api.MsgOk, 2, 0, 0, 2), reply(0, 0, 1, l[0], ok(5), true), reply(0, 0, 2, l[1], ok(10), true))
	handle(t, a, told(api.MsgOk, 3, 0, 0, api.MaxNumber), reply(0, 0, 3, l[2], ok(15), true))
	is(t, a, 0, 5, d, 0, 0, l, 0, 3)
	a.Handle(request(0, restock(1, 5)))
	handle(t, a, told(api.MsgOk, 1, 0, 0, 4), reply(0, 0, 4, l[3], ok(20), true)) // the one beyond the top counted for the top then
	is(t, a, 0, 5, d, 0, 0, some(5), 0, 4)
	b, _ := create(t, 1, 5)
	handle(t, b, told(api.MsgOk, 2, 1, 0, 3))
}

func TestStart(t *testing.T) { // P20.2
	a, d := create(t, 1, 3)
	a.Handle(prepare(0, 1, 0, 1, 0, restock(1, 1)))
	handle(t, a, start(2, 1, 0))
	handle(t, a, start(2, 1, 2), start(1, 0, 2), start(1, 2, 2), change(1, 2, 2, 0, image(some(1), 0, 0)))
	is(t, a, 1, 3, d, 2, 0, some(1), 0, 0)
	handle(t, a, start(2, 1, 2))
	handle(t, a, start(2, 1, 1))
	handle(t, a, start(0, 1, 4), start(1, 0, 4), start(1, 2, 4)) // it is the primary
	is(t, a, 1, 3, d, 4, 0, some(1), 0, 0)
	handle(t, a, start(0, 1, api.MaxNumber), start(1, 0, api.MaxNumber), start(1, 2, api.MaxNumber)) // it is its primary, too
}

func TestViewChange(t *testing.T) { // P20.2
	a, d := create(t, 1, 5)
	l := some(3)
	a.Handle(prepare(0, 1, 0, 1, 0, l[0]))
	handle(t, a, change(0, 1, 0, 0, image(l, 0, 0)))                                                                 // not its view
	handle(t, a, change(0, 1, 1, 0, image(l, 0, 1)), start(1, 0, 1), start(1, 2, 1), start(1, 3, 1), start(1, 4, 1)) // its own offer, and that one
	handle(t, a, change(0, 1, 1, 0, image(some(5), 0, 1)))                                                           // only the first one of each counts
	handle(t, a, change(2, 1, 1, 1, image(l, 0, 1)))                                                                 // not a valid offer
	is(t, a, 1, 5, d, 1, 0, l[:1], 0, 0)
	m := image(l, 0, 2)
	handle(t, a, change(2, 1, 1, 0, image(l[:2], 0, 2)), state(1, 0, 1, m), state(1, 2, 1, m), state(1, 3, 1, m), state(1, 4, 1, m))
	is(t, a, 1, 5, d, 1, 1, l, 0, 2)
	handle(t, a, change(4, 1, 1, 0, image(l[:1], 0, 0)), state(1, 4, 1, m))
	handle(t, a, told(api.MsgOk, 3, 1, 1, 3))
	handle(t, a, told(api.MsgOk, 4, 1, 1, 3), reply(1, 1, 3, l[2], ok(15), true)) // its own op is at its top
	handle(t, a, change(0, 1, 6, 1, image(l, 0, 3)), start(1, 0, 6), start(1, 2, 6), start(1, 3, 6), start(1, 4, 6))
	handle(t, a, change(0, 1, 1, 0, image(l, 0, 3)))
	is(t, a, 1, 5, d, 6, 1, l, 0, 3)
}

func TestViewChangeThatCannotBe(t *testing.T) { // P20.2
	a, d := create(t, 1, 3)
	bad := image(some(3), 2, 2)
	bad.Ckpt = result(some(1)...)
	handle(t, a, change(0, 1, 1, 0, bad), start(1, 0, 1), start(1, 2, 1)) // it cannot be adopted
	is(t, a, 1, 3, d, 1, 0, nil, 0, 0)
	handle(t, a, change(2, 1, 4, 3, image(some(2), 0, 0)), start(1, 0, 4), start(1, 2, 4),
		state(1, 0, 4, image(some(2), 0, 0)), state(1, 2, 4, image(some(2), 0, 0)))
	is(t, a, 1, 3, d, 4, 4, some(2), 0, 0)
}

func TestAsk(t *testing.T) { // P20.2
	a, _ := create(t, 0, 3)
	a.Handle(request(0, restock(1, 1)))
	handle(t, a, told(api.MsgAsk, 2, 0, 0, 0), state(0, 2, 0, image(some(1), 0, 0)))
	handle(t, a, told(api.MsgAsk, 2, 0, 1, 0))
	a.Handle(start(1, 0, 1))
	handle(t, a, told(api.MsgAsk, 2, 0, 1, 0))
	handle(t, a, told(api.MsgAsk, 2, 0, 0, 0))
	b, _ := create(t, 1, 3)
	handle(t, b, told(api.MsgAsk, 2, 1, 0, 0), state(1, 2, 0, image(nil, 0, 0)))
}

func TestState(t *testing.T) { // P20.2
	a, d := create(t, 1, 3)
	l := some(4)
	handle(t, a, state(0, 1, 0, image(l[:2], 0, 1)), told(api.MsgOk, 1, 0, 0, 2))
	is(t, a, 1, 3, d, 0, 0, l[:2], 0, 1)
	handle(t, a, state(0, 1, 0, image(l[:1], 0, 1)), told(api.MsgOk, 1, 0, 0, 2))
	handle(t, a, state(0, 1, 0, image(l[:2], 0, 2)), told(api.MsgOk, 1, 0, 0, 2))
	is(t, a, 1, 3, d, 0, 0, l[:2], 0, 2)
	bad := image(l, 3, 3)
	bad.Ckpt = nil
	handle(t, a, state(0, 1, 0, bad), told(api.MsgOk, 1, 0, 0, 2))
	handle(t, a, state(0, 1, 3, bad))
	handle(t, a, state(0, 1, 1, image(l, 0, 4))) // it is the primary of that view
	is(t, a, 1, 3, d, 0, 0, l[:2], 0, 2)
	handle(t, a, state(2, 1, 5, image(l, 3, 3)), told(api.MsgOk, 1, 2, 5, 4))
	is(t, a, 1, 3, d, 5, 5, l, 3, 3)
	handle(t, a, state(2, 1, 2, image(some(8), 0, 3))) // of an earlier view
	handle(t, a, start(0, 1, 6), start(1, 0, 6), start(1, 2, 6), change(1, 0, 6, 5, image(l, 3, 3)))
	other := append(some(3), restock(3, 1), restock(3, 2))
	handle(t, a, state(0, 1, 6, image(other, 1, 4)), told(api.MsgOk, 1, 0, 6, 5))
	is(t, a, 1, 3, d, 6, 6, other, 3, 4)
	handle(t, a, state(0, 1, 9, image(l, 0, 4))) // it contradicts what is committed
	is(t, a, 1, 3, d, 6, 6, other, 3, 4)
}

func TestTicks(t *testing.T) { // P20.2, P20.7
	a, _ := create(t, 0, 3)
	for range 9 {
		tick(t, a, commit(0, 1, 0, 0, 0), commit(0, 2, 0, 0, 0))
	}
	a.Handle(request(0, restock(1, 1)))
	a.Handle(request(0, restock(1, 2)))
	a.Handle(told(api.MsgOk, 1, 0, 0, 1))
	tick(t, a, commit(0, 1, 0, 2, 1), commit(0, 2, 0, 2, 1))
	b, d := create(t, 1, 3)
	for range 4 {
		tick(t, b)
	}
	b.Handle(commit(0, 1, 0, 0, 0)) // resets its clock
	for range 4 {
		tick(t, b)
	}
	b.Handle(told(api.MsgOk, 2, 1, 0, 0)) // does not
	tick(t, b, start(1, 0, 1), start(1, 2, 1))
	for range 4 {
		tick(t, b, start(1, 0, 1), start(1, 2, 1)) // it is the primary of 1
	}
	offer := change(1, 2, 2, 0, image(nil, 0, 0))
	tick(t, b, start(1, 0, 2), start(1, 2, 2), offer)
	for range 4 {
		tick(t, b, start(1, 0, 2), start(1, 2, 2), offer)
	}
	tick(t, b, start(1, 0, 3), start(1, 2, 3), change(1, 0, 3, 0, image(nil, 0, 0)))
	is(t, b, 1, 3, d, 3, 0, nil, 0, 0)
	b.Handle(start(2, 1, api.MaxNumber))
	for range 4 {
		b.Tick()
	}
	tick(t, b) // there is no next view
	if b.View() != api.MaxNumber {
		t.Error(b.View())
	}
}

func TestClockIsReset(t *testing.T) { // P20.2
	for name, m := range map[string]api.Msg{
		"enters a view":   start(0, 1, 2),
		"becomes normal":  state(2, 1, 2, image(nil, 0, 0)),
		"prepare":         prepare(0, 1, 0, 1, 0, restock(1, 1)),
		"prepare missing": prepare(0, 1, 0, 7, 0, restock(1, 1)),
		"commit":          commit(0, 1, 0, 0, 0),
	} {
		a, _ := create(t, 1, 3)
		for range 4 {
			a.Tick()
		}
		a.Handle(m)
		view := a.View()
		for range 4 {
			a.Tick()
		}
		if a.View() != view {
			t.Error(name)
		}
		a.Tick()
		if a.View() != view+1 {
			t.Error(name)
		}
	}
	for name, m := range map[string]api.Msg{
		"state of its view":     state(0, 1, 0, image(some(1), 0, 0)),
		"commit of a later one": commit(2, 1, 2, 0, 0),
		"ask":                   told(api.MsgAsk, 0, 1, 0, 0),
	} {
		a, _ := create(t, 1, 3)
		for range 4 {
			a.Tick()
		}
		a.Handle(m)
		a.Tick()
		if a.View() != 1 {
			t.Error(name)
		}
	}
}

func TestCompacting(t *testing.T) { // P20.2, P20.7, W2
	a, d := create(t, 0, 3)
	for n := 1; n <= 16; n++ {
		a.Handle(request(0, restock(1, n)))
		a.Handle(told(api.MsgOk, 1, 0, 0, n))
	}
	is(t, a, 0, 3, d, 0, 0, some(16), 0, 16)
	handle(t, a, api.Msg{Kind: api.MsgBusy, From: 1, To: 0, Entry: asker(restock(1, 1))})
	is(t, a, 0, 3, d, 0, 0, some(16), 16, 16)
	for n := 17; n <= 32; n++ {
		a.Handle(request(0, restock(1, n)))
		a.Handle(told(api.MsgOk, 1, 0, 0, n))
	}
	is(t, a, 0, 3, d, 0, 0, some(32), 16, 32)
	a.Tick()
	is(t, a, 0, 3, d, 0, 0, some(32), 32, 32)
}

func TestGoesDown(t *testing.T) { // P20.2, P20.3, W3
	calls := map[string]func(a *node.Node) ([]api.Msg, api.Errno){
		"request": func(a *node.Node) ([]api.Msg, api.Errno) { return a.Handle(request(0, restock(1, 1))) },
		"start":   func(a *node.Node) ([]api.Msg, api.Errno) { return a.Handle(start(1, 0, 3)) },
		"state":   func(a *node.Node) ([]api.Msg, api.Errno) { return a.Handle(state(1, 0, 1, image(some(3), 2, 2))) },
	}
	for name, call := range calls {
		for cut := range 200 {
			a, d := create(t, 0, 3)
			d.Arm(cut)
			if l, e := call(a); l != nil || e != api.ErrDown || !a.Down() {
				t.Fatal(name, cut, e)
			}
			none(t, a)
			if l, e := call(a); l != nil || e != api.ErrDown {
				t.Error(name, e)
			}
			if l, e := a.Handle(api.Msg{}); l != nil || e != api.ErrDown {
				t.Error("a message is refused only by one that is up", e)
			}
			if l, e := a.Tick(); l != nil || e != api.ErrDown {
				t.Error(name, e)
			}
			d.Revive()
			b, e := node.New(0, 3, 5, d)
			before := b.View() == 0 && b.Top() == 0 && b.Normal()
			after := b.View() == 0 && b.Top() == 1 || b.View() == 3 && !b.Normal() || b.View() == 1 && b.Normal() && b.Top() == 3
			if e != api.OK || !before && !after {
				t.Error(name, cut, e, b.View(), b.Top())
			}
		}
	}
}

func TestGoesDownWhileCompacting(t *testing.T) { // P20.2
	for cut := range 80 {
		a, d := create(t, 0, 3)
		for n := 1; n <= 16; n++ {
			a.Handle(request(0, restock(1, n)))
			a.Handle(told(api.MsgOk, 1, 0, 0, n))
		}
		d.Arm(cut)
		if l, e := a.Handle(request(0, restock(1, 17))); l != nil || e != api.ErrDown || !a.Down() {
			t.Fatal(cut, e)
		}
		d.Revive()
		b, e := node.New(0, 3, 5, d)
		if e != api.OK || b.Top() != 16 || !bytes.Equal(b.Now(), result(some(16)...)) {
			t.Fatal(cut, e, b.Top())
		}
	}
}

func TestAnyDisk(t *testing.T) { // P20.1, P20.7, R1
	d := disk.New()
	for _, r := range []api.Rec{{Kind: api.RecView, View: 0, Last: 5}} {
		b, _ := record.Bytes(r)
		d.Append(b)
	}
	a, e := node.New(0, 3, 5, d)
	if e != api.OK || a.Normal() || a.View() != 0 || a.Last() != 5 {
		t.Fatal(e)
	}
	handle(t, a, change(1, 0, 0, 0, image(nil, 0, 0)))
	tick(t, a, start(0, 1, 0), start(0, 2, 0))
	handle(t, a, start(1, 0, 3), start(0, 1, 3), start(0, 2, 3))
	d = disk.New()
	s, _ := store.Open(d)
	s.Base(api.Kept{View: 4, Last: 4, Base: 2, Ckpt: result(some(2)...), Entries: some(12)[2:]})
	a, e = node.New(1, 3, 5, d)
	if e != api.OK {
		t.Fatal(e)
	}
	is(t, a, 1, 3, d, 4, 4, some(12), 2, 4)
	handle(t, a, told(api.MsgOk, 2, 1, 4, 5), reply(1, 4, 5, restock(1, 5), ok(25), true)) // a normal primary has acks
}

func TestOwnMemory(t *testing.T) { // P20.4
	reserve := func() api.Entry {
		return api.Entry{Client: 1, Num: 1, Op: api.Op{Kind: api.OpReserve, Order: 1, N: 5, Lines: []api.Line{{Sku: "a", N: 2}}}}
	}
	a, _ := create(t, 0, 3)
	x := reserve()
	l, _ := a.Handle(request(0, x))
	x.Op.Lines[0].Sku = "q"
	l[0].Entry.Op.Lines[0].Sku = "r"
	m := a.Image()
	m.Entries[0].Op.Lines[0].Sku = "s"
	clear(m.Ckpt)
	want := prepare(0, 2, 0, 1, 0, reserve())
	if !msg.Same(l[1], want) || !msg.SameImage(a.Image(), image([]api.Entry{reserve()}, 0, 0)) {
		t.Error("memory is shared")
	}
	b, _ := create(t, 1, 3)
	l, _ = b.Handle(change(0, 1, 1, 0, image([]api.Entry{reserve()}, 0, 0)))
	l[2].Image.Entries[0].Op.Lines[0].Sku = "q"
	clear(l[2].Image.Ckpt)
	if !msg.SameImage(l[3].Image, image([]api.Entry{reserve()}, 0, 0)) || !msg.SameImage(b.Image(), l[3].Image) {
		t.Error("memory is shared")
	}
}
