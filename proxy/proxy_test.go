package proxy_test

import (
	"math"
	"math/rand"
	"testing"

	"gimbal/api"
	"gimbal/item"
	"gimbal/msg"
	"gimbal/proxy"
	"gimbal/quorum"
)

func ship() api.Op { return api.Op{Kind: api.OpShip, Order: 5} }

func create(t *testing.T, client, n, limit int) *proxy.Proxy {
	t.Helper()
	p, e := proxy.New(client, n, limit)
	if e != api.OK || p.Waits() || p.Num() != 0 || p.View() != 0 || !item.Same(p.Op(), api.Op{}) {
		t.Fatal(e)
	}
	return p
}

// to checks that the request was sent to some replicas.
func to(t *testing.T, p *proxy.Proxy, client, num int, o api.Op, who ...int) {
	t.Helper()
	l := p.Tick()
	if len(l) != len(who) {
		t.Fatal(len(l), "messages")
	}
	for i, m := range l {
		if want := (api.Msg{Kind: api.MsgRequest, From: api.MaxNodes + client, To: who[i], Entry: api.Entry{Client: client, Num: num, Op: o}}); !msg.Same(m, want) || msg.Check(m) != api.OK {
			t.Error(m)
		}
	}
}

func reply(from, view, op, num, res int) api.Msg {
	return api.Msg{Kind: api.MsgReply, From: from, To: 17, View: view, Op: op, Entry: api.Entry{Client: 2, Num: num}, Res: api.Res{A: res}}
}

func none(t *testing.T, p *proxy.Proxy, m api.Msg) {
	t.Helper()
	waits, num := p.Waits(), p.Num()
	if r, op, sure, is := p.Take(m); r != (api.Res{}) || op != 0 || sure || is || p.Waits() != waits || p.Num() != num {
		t.Error(r, op, sure, is)
	}
}

func TestExample(t *testing.T) { // P21.1, P21.2, P21.3, P21.4
	p := create(t, 2, 3, 2)
	to(t, p, 2, 1, ship())
	if num, e := p.Ask(ship()); num != 1 || e != api.OK || !p.Waits() || !item.Same(p.Op(), ship()) {
		t.Error(num, e)
	}
	if num, e := p.Ask(ship()); num != 0 || e != api.ErrState || p.Num() != 1 {
		t.Error(num, e)
	}
	to(t, p, 2, 1, ship(), 0)
	to(t, p, 2, 1, ship())
	to(t, p, 2, 1, ship(), 0, 1, 2)
	to(t, p, 2, 1, ship())
	none(t, p, reply(1, 1, 4, 1, 3))
	none(t, p, reply(1, 1, 4, 1, 3))
	if r, op, sure, is := p.Take(reply(2, 1, 4, 1, 3)); r != (api.Res{A: 3}) || op != 4 || sure || !is {
		t.Error(r, op, sure, is)
	}
	if p.Waits() || p.View() != 1 || !item.Same(p.Op(), api.Op{}) || p.Num() != 1 {
		t.Error("it still waits")
	}
	m := reply(0, 1, 4, 1, 3)
	m.Sure = true
	none(t, p, m)
	to(t, p, 2, 1, ship())
}

func TestNewErrors(t *testing.T) { // P21.1
	for _, c := range [][3]int{{-1, 3, 5}, {8, 3, 5}, {0, 4, 5}, {0, 0, 5}, {0, 17, 5}, {0, 3, 0}, {0, 3, 1001}, {math.MinInt, 3, 5}, {0, math.MaxInt, 5}} {
		if p, e := proxy.New(c[0], c[1], c[2]); p != nil || e != api.ErrArg {
			t.Error(c, e)
		}
	}
	create(t, 7, 15, 1000)
}

func TestAskErrors(t *testing.T) { // P21.1
	p := create(t, 2, 3, 2)
	for _, o := range []api.Op{{}, {Kind: api.OpShip}, {Kind: 99, Order: 1}} {
		if num, e := p.Ask(o); num != 0 || e != api.ErrArg || p.Waits() || p.Num() != 0 {
			t.Error(num, e)
		}
	}
	p.Ask(ship())
	if _, e := p.Ask(api.Op{}); e != api.ErrState {
		t.Error("it waits: that is told first", e)
	}
}

func TestSure(t *testing.T) { // P21.3, P21.6
	p := create(t, 2, 5, 2)
	p.Ask(ship())
	m := reply(3, 7, 9, 1, 4)
	m.Sure, m.Res.Code = true, api.ResNone
	if r, op, sure, is := p.Take(m); r != m.Res || op != 9 || !sure || !is || p.View() != 7 || p.Waits() {
		t.Error(r, op, sure, is)
	}
	p.Ask(ship())
	to(t, p, 2, 2, ship(), 2) // the primary of view 7
	none(t, p, m)             // of the first request
}

func TestBallots(t *testing.T) { // P21.3, P21.6
	p := create(t, 2, 5, 2)
	p.Ask(ship())
	for i, m := range []api.Msg{reply(0, 1, 4, 1, 3), reply(1, 2, 4, 1, 3), reply(2, 1, 5, 1, 3), reply(3, 1, 4, 1, 4), reply(4, 1, 4, 1, 3), reply(4, 2, 4, 1, 3)} {
		none(t, p, m)
		if p.View() != min(i+1, 2) {
			t.Error(i, p.View())
		}
	}
	other := reply(2, 1, 4, 1, 3)
	other.Res.Code = api.ResNone
	none(t, p, other)
	if r, op, sure, is := p.Take(reply(3, 1, 4, 1, 3)); r != (api.Res{A: 3}) || op != 4 || sure || !is || p.View() != 2 {
		t.Error(r, op, sure, is)
	}
	p.Ask(ship())
	none(t, p, reply(0, 1, 4, 2, 3)) // the tally is empty again
	none(t, p, reply(1, 1, 4, 2, 3))
}

func TestBusy(t *testing.T) { // P21.3
	p := create(t, 2, 3, 2)
	p.Ask(ship())
	for i := range 3 {
		none(t, p, api.Msg{Kind: api.MsgBusy, From: i, To: 17, View: 3 + i, Entry: api.Entry{Client: 2, Num: 1}})
		if p.View() != 3+i || !p.Waits() {
			t.Error(p.View())
		}
	}
	none(t, p, api.Msg{Kind: api.MsgBusy, From: 0, To: 17, View: 1, Entry: api.Entry{Client: 2, Num: 1}})
	if p.View() != 5 {
		t.Error("the view never decreases")
	}
}

func TestThatDoesNotCount(t *testing.T) { // P21.3, P21.7
	sure := func(f func(*api.Msg)) api.Msg {
		m := reply(0, 9, 4, 1, 3)
		m.Sure = true
		f(&m)
		return m
	}
	bad := []api.Msg{
		{},
		sure(func(m *api.Msg) { m.To = 18 }),
		sure(func(m *api.Msg) { m.To = 2 }),
		sure(func(m *api.Msg) { m.From = 3 }),
		sure(func(m *api.Msg) { m.From = 16 }),
		sure(func(m *api.Msg) { m.From = -1 }),
		sure(func(m *api.Msg) { m.Entry.Client = 3 }),
		sure(func(m *api.Msg) { m.Entry.Num = 2 }),
		sure(func(m *api.Msg) { m.Entry.Num = 0 }),
		sure(func(m *api.Msg) { m.Commit = 1 }),
		sure(func(m *api.Msg) { m.Res.Code = 7 }),
		sure(func(m *api.Msg) { m.Kind = api.MsgBusy }), // not a valid one
		{Kind: api.MsgStart, From: 0, To: 17, View: 9},
		{Kind: api.MsgRequest, From: 0, To: 17, Entry: api.Entry{Client: 2, Num: 1, Op: ship()}},
	}
	p := create(t, 2, 3, 2)
	none(t, p, sure(func(m *api.Msg) {})) // it does not wait
	p.Ask(ship())
	for i, m := range bad {
		none(t, p, m)
		if p.View() != 0 || !p.Waits() {
			t.Error(i)
		}
	}
	to(t, p, 2, 1, ship(), 0)
}

func TestSentAgain(t *testing.T) { // P21.2, P21.8
	p := create(t, 2, 3, 4)
	for num := 1; num < 4; num++ {
		p.Ask(ship())
		to(t, p, 2, num, ship(), 0)
		for range 5 {
			for range 3 {
				to(t, p, 2, num, ship())
			}
			to(t, p, 2, num, ship(), 0, 1, 2)
		}
		to(t, p, 2, num, ship())
		m := reply(0, 0, num, num, 1)
		m.Sure = true
		p.Take(m)
		for range 9 {
			to(t, p, 2, num, ship())
		}
	}
	quick := create(t, 2, 3, 1)
	quick.Ask(ship())
	to(t, quick, 2, 1, ship(), 0)
	to(t, quick, 2, 1, ship(), 0, 1, 2)
	to(t, quick, 2, 1, ship(), 0, 1, 2)
}

func TestNobody(t *testing.T) { // R1
	for _, p := range []*proxy.Proxy{nil, {}} {
		num, e := p.Ask(ship())
		r, op, sure, is := p.Take(reply(0, 0, 1, 0, 1))
		if num != 0 || e != api.ErrNil || p.Tick() != nil || r != (api.Res{}) || op != 0 || sure || is || p.Waits() || p.Num() != 0 || p.View() != 0 || !item.Same(p.Op(), api.Op{}) {
			t.Error("nothing")
		}
	}
}

func TestOwnMemory(t *testing.T) { // P21.5
	reserve := func() api.Op {
		return api.Op{Kind: api.OpReserve, Order: 1, N: 5, Lines: []api.Line{{Sku: "a", N: 2}}}
	}
	p := create(t, 2, 3, 1)
	o := reserve()
	p.Ask(o)
	o.Lines[0].Sku = "q"
	p.Op().Lines[0].Sku = "q"
	p.Tick()[0].Entry.Op.Lines[0].Sku = "q"
	l := p.Tick()
	l[0].Entry.Op.Lines[0].Sku = "q"
	if !item.Same(l[1].Entry.Op, reserve()) || !item.Same(p.Op(), reserve()) {
		t.Error("memory is shared")
	}
}

func TestRandom(t *testing.T) { // P21.6
	r := rand.New(rand.NewSource(1))
	for range 300 {
		n := 3 + 2*r.Intn(3)
		p := create(t, 2, n, 3)
		type said struct{ view, op, res int }
		for num := range 10 {
			p.Ask(ship())
			votes := map[said]map[int]bool{}
			for accepted := 0; ; {
				m := reply(r.Intn(n), r.Intn(2), 1+r.Intn(2), num+1, r.Intn(2))
				m.Sure = r.Intn(20) == 0
				s := said{m.View, m.Op, m.Res.A}
				if votes[s] == nil {
					votes[s] = map[int]bool{}
				}
				if !m.Sure {
					votes[s][m.From] = true
				}
				res, op, sure, is := p.Take(m)
				if want := accepted == 0 && (m.Sure || len(votes[s]) >= quorum.Enough(n)); is != want || is && (res != m.Res || op != m.Op || sure != m.Sure) {
					t.Fatal(is, want)
				}
				if is {
					accepted++
				}
				if accepted > 0 && r.Intn(4) == 0 {
					break
				}
			}
		}
	}
}
