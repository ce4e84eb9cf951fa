package world_test

import (
	"bytes"
	"math"
	"testing"

	"gimbal/api"
	"gimbal/entry"
	"gimbal/msg"
	"gimbal/world"
)

func restock(n int) api.Op { return api.Op{Kind: api.OpRestock, Sku: "a", N: n} }

func create(t *testing.T, f, limit int) *world.World {
	t.Helper()
	w, e := world.New(f, limit)
	if e != api.OK {
		t.Fatal(e)
	}
	return w
}

func ask(t *testing.T, w *world.World, c int, o api.Op, want int) {
	t.Helper()
	if num, e := w.Ask(c, o); num != want || e != api.OK {
		t.Fatal(c, num, e)
	}
}

func expect(t *testing.T, got ...api.Errno) {
	t.Helper()
	for i, e := range got {
		if e != api.OK {
			t.Error(i, e)
		}
	}
}

func asked(c, num int, o api.Op) api.Event {
	return api.Event{Kind: api.EvAsk, Entry: api.Entry{Client: c, Num: num, Op: o}}
}

func done(c, num, op int, r api.Res, sure bool) api.Event {
	return api.Event{Kind: api.EvDone, Op: op, Entry: api.Entry{Client: c, Num: num}, Res: r, Sure: sure}
}

func events(t *testing.T, w *world.World, want ...api.Event) {
	t.Helper()
	l := w.Events()
	if len(l) != len(want) {
		t.Fatal(l)
	}
	for i, v := range l {
		x := want[i]
		if v.Kind != x.Kind || v.Op != x.Op || v.Res != x.Res || v.Sure != x.Sure || !entry.Same(v.Entry, x.Entry) {
			t.Error(i, v, "instead of", x)
		}
	}
}

func TestExample(t *testing.T) { // P23.2, P23.3, P23.4, P23.6
	w := create(t, 1, 5)
	ask(t, w, 2, restock(5), 1)
	expect(t, w.TickClient(2))
	if w.Len() != 1 || w.Deliver(0) != api.OK || w.Len() != 3 || w.Deliver(0) != api.OK || w.Len() != 4 || w.Deliver(2) != api.OK || w.Committed(0) != 1 {
		t.Error(w.Len(), w.Committed(0))
	}
	events(t, w, asked(2, 1, restock(5)))
	expect(t, w.Deliver(3))
	events(t, w, asked(2, 1, restock(5)), done(2, 1, 1, api.Res{A: 5}, true))
	if w.Crash(0) != api.OK || w.Tick(0) != api.ErrDown || w.Up(0) || w.Restart(0) != api.OK || w.Committed(0) != 0 || w.Top(0) != 1 || !w.Up(0) {
		t.Error("Crash, Restart")
	}
}

func TestNew(t *testing.T) { // P23.1
	for _, c := range [][2]int{{0, 5}, {8, 5}, {-1, 5}, {1, 0}, {1, 1001}, {1, -1}, {math.MinInt, 5}, {math.MaxInt, 5}, {7, math.MaxInt}} {
		if w, e := world.New(c[0], c[1]); w != nil || e != api.ErrArg {
			t.Error(c, e)
		}
	}
	for f := 1; f <= 7; f++ {
		w := create(t, f, 1000)
		if w.N() != 2*f+1 || w.Len() != 0 || len(w.Events()) != 0 {
			t.Error(f)
		}
		for i := range w.N() {
			if !w.Up(i) || !w.Normal(i) || w.View(i) != 0 || w.Base(i) != 0 || w.Committed(i) != 0 || w.Top(i) != 0 {
				t.Error(f, i)
			}
		}
	}
}

func TestRanges(t *testing.T) { // P23.2, P23.3, P23.4, P23.6
	w := create(t, 1, 5)
	for _, i := range []int{-1, 3, math.MinInt, math.MaxInt} {
		for j, e := range []api.Errno{w.Tick(i), w.Arm(i, 1), w.Arm(i, -1), w.Crash(i), w.Restart(i), w.Deliver(i), w.Drop(i), w.Twice(i)} {
			if e != api.ErrRange {
				t.Error(i, j, e)
			}
		}
		if w.Up(i) || w.View(i) != 0 || w.Normal(i) || w.Base(i) != 0 || w.Committed(i) != 0 || w.Top(i) != 0 || !msg.SameImage(w.Image(i), api.Image{}) || w.Now(i) != nil || w.Sure(i) != nil {
			t.Error(i)
		}
		if m, e := w.At(i); e != api.ErrRange || !msg.Same(m, api.Msg{}) {
			t.Error(i, e)
		}
	}
	for _, c := range []int{-1, 8, math.MinInt, math.MaxInt} {
		if num, e := w.Ask(c, restock(1)); num != 0 || e != api.ErrRange || w.TickClient(c) != api.ErrRange || w.Waits(c) {
			t.Error(c, e)
		}
	}
	events(t, w)
}

func TestAsk(t *testing.T) { // P23.2, P23.6
	w := create(t, 1, 5)
	if num, e := w.Ask(0, api.Op{}); num != 0 || e != api.ErrArg {
		t.Error(num, e)
	}
	if num, e := w.Ask(9, api.Op{}); num != 0 || e != api.ErrRange {
		t.Error(num, e)
	}
	ask(t, w, 0, restock(1), 1)
	ask(t, w, 7, restock(2), 1)
	if num, e := w.Ask(0, restock(1)); num != 0 || e != api.ErrState || !w.Waits(0) || w.Waits(1) || !w.Waits(7) {
		t.Error(num, e)
	}
	events(t, w, asked(0, 1, restock(1)), asked(7, 1, restock(2)))
}

func TestMessages(t *testing.T) { // P23.3
	w := create(t, 1, 5)
	expect(t, w.Tick(0))
	if w.Len() != 2 || w.Twice(0) != api.OK || w.Drop(1) != api.OK || w.Len() != 2 {
		t.Error(w.Len())
	}
	for k := range 2 {
		if m, e := w.At(k); e != api.OK || !msg.Same(m, api.Msg{Kind: api.MsgCommit, From: 0, To: 1}) {
			t.Error(k, m, e)
		}
	}
	expect(t, w.Crash(1), w.Deliver(0)) // it is lost
	if w.Len() != 1 {
		t.Error(w.Len())
	}
	expect(t, w.Restart(1), w.Deliver(0))
	if m, e := w.At(0); e != api.OK || !msg.Same(m, api.Msg{Kind: api.MsgOk, From: 1, To: 0}) {
		t.Error(m, e)
	}
}

func TestDown(t *testing.T) { // P23.2, P23.4, P23.6
	w := create(t, 1, 5)
	if w.Restart(1) != api.ErrState || w.Crash(1) != api.OK || w.Crash(1) != api.ErrDown || w.Arm(1, 1) != api.ErrDown || w.Arm(1, -1) != api.ErrDown || w.Tick(1) != api.ErrDown {
		t.Error("a replica that is down")
	}
	if w.Up(1) || w.View(1) != 0 || w.Normal(1) || w.Top(1) != 0 || w.Now(1) != nil || w.Sure(1) != nil || w.Image(1).Ckpt != nil || !w.Up(0) || !w.Up(2) {
		t.Error("it tells nothing")
	}
	expect(t, w.Restart(1))
	if !w.Up(1) || !w.Normal(1) || w.Now(1) == nil {
		t.Error("Restart")
	}
	if w.Arm(1, -1) != api.ErrArg || w.Arm(1, 0) != api.OK {
		t.Error("Arm")
	}
	for range 4 {
		expect(t, w.Tick(1))
	}
	if w.Tick(1) != api.ErrDown || w.Up(1) || w.Len() != 0 {
		t.Error("its disk tears when it enters a view")
	}
	expect(t, w.Restart(1)) // revives the disk
	for range 5 {
		expect(t, w.Tick(1))
	}
	if w.View(1) != 1 || w.Normal(1) {
		t.Error(w.View(1))
	}
}

func TestDownByAMessage(t *testing.T) { // P23.3, P23.4
	w := create(t, 1, 5)
	expect(t, w.Arm(0, 3))
	ask(t, w, 1, restock(3), 1)
	expect(t, w.TickClient(1), w.Deliver(0))
	if w.Up(0) || w.Len() != 0 {
		t.Error("it went down")
	}
	expect(t, w.Restart(0))
	if w.Top(0) != 0 || !w.Normal(0) {
		t.Error(w.Top(0))
	}
}

func TestRound(t *testing.T) { // P23.5
	w := create(t, 1, 5)
	if w.Round() != 0 || w.Len() != 2 || w.Round() != 2 || w.Len() != 4 {
		t.Error(w.Len())
	}
	ask(t, w, 3, restock(4), 1)
	expect(t, w.Crash(2))
	if w.Round() != 4 {
		t.Error(w.Len())
	}
	last, _ := w.At(w.Len() - 1)
	if last.Kind != api.MsgRequest || last.From != api.MaxNodes+3 {
		t.Error("clients tick last", last)
	}
}

func TestLostWhenFull(t *testing.T) { // P23.3, P23.5
	w := create(t, 7, 1000)
	for w.Len() < api.MaxBag {
		expect(t, w.Tick(0))
	}
	if w.Tick(0) != api.OK || w.Len() != api.MaxBag || w.Twice(0) != api.ErrLimit {
		t.Error(w.Len())
	}
	if w.Round() != api.MaxBag {
		t.Error(w.Len())
	}
}

func TestHeal(t *testing.T) { // P23.5
	w := create(t, 1, 5)
	if w.Heal(5) != 0 || w.Len() != 0 {
		t.Error("nobody waits")
	}
	ask(t, w, 1, restock(3), 1)
	expect(t, w.Crash(0), w.Arm(1, 0))
	for _, most := range []int{0, -1, math.MinInt} {
		if w.Heal(most) != 0 || !w.Waits(1) || !w.Up(0) {
			t.Error(most)
		}
	}
	if w.Heal(2) != 2 || !w.Waits(1) || w.Heal(20) != 2 || w.Waits(1) {
		t.Error("Heal")
	}
	events(t, w, asked(1, 1, restock(3)), done(1, 1, 1, api.Res{A: 3}, false))
	ask(t, w, 1, restock(3), 2)
	if w.Heal(math.MaxInt) > 110 || w.Waits(1) {
		t.Error("Heal")
	}
	if !bytes.Equal(w.Now(0), w.Now(1)) && w.Top(0) == w.Top(1) {
		t.Error("they differ")
	}
}

func TestNoWorld(t *testing.T) { // R1
	for _, w := range []*world.World{nil, {}} {
		num, e := w.Ask(0, restock(1))
		m, f := w.At(0)
		for i, x := range []api.Errno{e, f, w.Tick(0), w.TickClient(0), w.Deliver(0), w.Drop(0), w.Twice(0), w.Arm(0, 1), w.Crash(0), w.Restart(0)} {
			if x != api.ErrNil {
				t.Error(i, x)
			}
		}
		if num != 0 || !msg.Same(m, api.Msg{}) || w.Round() != 0 || w.Heal(9) != 0 || w.N() != 0 || w.Up(0) || w.View(0) != 0 || w.Normal(0) || w.Base(0) != 0 || w.Committed(0) != 0 || w.Top(0) != 0 ||
			!msg.SameImage(w.Image(0), api.Image{}) || w.Now(0) != nil || w.Sure(0) != nil || w.Waits(0) || w.Events() != nil || w.Len() != 0 {
			t.Error("nothing")
		}
	}
}

func TestOwnMemory(t *testing.T) { // P23.7
	reserve := func() api.Op {
		return api.Op{Kind: api.OpReserve, Order: 1, N: 5, Lines: []api.Line{{Sku: "a", N: 2}}}
	}
	w := create(t, 1, 5)
	o := reserve()
	ask(t, w, 0, o, 1)
	o.Lines[0].Sku = "q"
	w.Events()[0].Entry.Op.Lines[0].Sku = "q"
	events(t, w, asked(0, 1, reserve()))
	w.TickClient(0)
	m, _ := w.At(0)
	m.Entry.Op.Lines[0].Sku = "q"
	w.Deliver(0)
	w.Image(0).Entries[0].Op.Lines[0].Sku = "q"
	clear(w.Now(0))
	if m := w.Image(0); !entry.Same(m.Entries[0], api.Entry{Client: 0, Num: 1, Op: reserve()}) || w.Now(0)[0] != 1 {
		t.Error("memory is shared")
	}
}
