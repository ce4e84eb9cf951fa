package world_test

import (
	"bytes"
	"math/rand"
	"testing"

	"gimbal/api"
	"gimbal/entry"
	"gimbal/fold"
	"gimbal/world"
)

// chaos passes anything to a world, and keeps what must hold from then on.
type chaos struct {
	t        *testing.T
	r        *rand.Rand
	w        *world.World
	ledger   []api.Entry // what was ever committed
	results  []api.Res
	state    *fold.State
	accepted []api.Event
	after    map[[2]int]int // the greatest op that was accepted before a request was asked
	seen     int            // events that were looked at
	greatest int
	ticks    int
	arrived  int
	mood     int
}

func newChaos(t *testing.T, seed int64, f, limit int) *chaos {
	return &chaos{t: t, r: rand.New(rand.NewSource(seed)), w: create(t, f, limit), state: fold.New(), after: map[[2]int]int{}}
}

func (x *chaos) look() {
	w := x.w
	for i := range w.N() {
		m := w.Image(i)
		if top := m.Base + len(m.Entries); w.View(i) > x.ticks || top > x.arrived || top-m.Commit > 8 || len(m.Entries) > 24 {
			x.t.Fatal("bounds", i, w.View(i), x.ticks, top, x.arrived)
		}
		for op := m.Base + 1; op <= m.Commit; op++ {
			x.committed(op, m.Entries[op-m.Base-1])
		}
		if m.Base > len(x.ledger) {
			x.t.Fatal("a checkpoint of what was not committed")
		}
	}
	l := w.Events()
	for ; x.seen < len(l); x.seen++ {
		x.event(l[x.seen])
	}
	for _, v := range x.accepted {
		if v.Op <= len(x.ledger) {
			if y := x.ledger[v.Op-1]; y.Client != v.Entry.Client || y.Num != v.Entry.Num || x.results[v.Op-1] != v.Res {
				x.t.Fatal("another result was accepted", v, y, x.results[v.Op-1])
			}
		}
	}
}

func (x *chaos) committed(op int, y api.Entry) {
	if op <= len(x.ledger) {
		if !entry.Same(x.ledger[op-1], y) {
			x.t.Fatal("another entry was committed", op)
		}
		return
	}
	r, _, _ := x.state.Do(y)
	x.ledger, x.results = append(x.ledger, y), append(x.results, r)
}

func (x *chaos) event(v api.Event) {
	who := [2]int{v.Entry.Client, v.Entry.Num}
	if v.Kind == api.EvAsk {
		x.after[who] = x.greatest
		return
	}
	if v.Op <= x.after[who] {
		x.t.Fatal("a request is before the result of an earlier one")
	}
	x.greatest = max(x.greatest, v.Op)
	x.accepted = append(x.accepted, v)
}

// states checks that each state is the result of the log.
func (x *chaos) states() {
	for i := range x.w.N() {
		if !x.w.Up(i) {
			continue
		}
		m := x.w.Image(i)
		l := append(x.ledger[:m.Base:m.Base], m.Entries...)
		for _, c := range []struct {
			n int
			b []byte
		}{{m.Base, m.Ckpt}, {m.Commit, x.w.Sure(i)}, {len(l), x.w.Now(i)}} {
			if s, e := fold.Of(l[:c.n]); e != api.OK || !bytes.Equal(s.Bytes(), c.b) {
				x.t.Fatal("a state is not the result of the log", i)
			}
		}
	}
}

func (x *chaos) op() api.Op {
	r := x.r
	sku, id := string(rune('a'+r.Intn(4))), 1+r.Intn(9)
	return []api.Op{
		{Kind: api.OpRestock, Sku: sku, N: 1 + r.Intn(20)},
		{Kind: api.OpReserve, Order: id, N: 1 + r.Intn(50), Lines: []api.Line{{Sku: sku, N: 1 + r.Intn(4)}}},
		{Kind: api.OpConfirm, Order: id},
		{Kind: api.OpShip, Order: id},
		{Kind: api.OpCancel, Order: id},
		{Kind: api.OpExpire, N: 1 + r.Intn(40)},
		{Kind: api.OpSku, Sku: sku},
	}[r.Intn(7)]
}

func (x *chaos) deliver(k int) {
	if m, e := x.w.At(k); e == api.OK && m.To < x.w.N() {
		x.arrived++
	}
	x.w.Deliver(k)
}

// moods are how often each kind of event happens.
var moods = [][]int{
	{450, 200, 70, 20, 60, 50, 120, 5, 18, 3, 4},
	{300, 100, 20, 10, 60, 60, 420, 5, 18, 3, 4},
	{150, 400, 150, 60, 60, 50, 100, 10, 10, 6, 4},
	{600, 10, 0, 0, 100, 100, 150, 2, 18, 2, 18},
}

func (x *chaos) kind() int {
	weights := moods[x.mood]
	whole := 0
	for _, n := range weights {
		whole += n
	}
	p := x.r.Intn(whole)
	for k, n := range weights {
		if p < n {
			return k
		}
		p -= n
	}
	return 0
}

func (x *chaos) step() {
	w, r := x.w, x.r
	if r.Intn(200) == 0 {
		x.mood = r.Intn(len(moods))
	}
	i, k := r.Intn(w.N()), r.Intn(w.Len()+1)
	switch x.kind() {
	case 0:
		x.deliver(0)
	case 1:
		x.deliver(k)
	case 2:
		w.Drop(k)
	case 3:
		w.Twice(k)
	case 4:
		w.Ask(r.Intn(8), x.op())
	case 5:
		w.TickClient(r.Intn(8))
	case 6:
		x.ticks++
		w.Tick(i)
	case 7:
		w.Crash(i)
	case 8:
		w.Restart(i)
	case 9:
		w.Arm(i, r.Intn(150))
	case 10:
		x.round()
	}
	x.look()
}

// round is a Round, call by call: what is committed in it is looked at before it is trimmed.
func (x *chaos) round() {
	for range x.w.Len() {
		x.deliver(0)
		x.look()
	}
	for i := range x.w.N() {
		if x.w.Up(i) {
			x.ticks++
			x.w.Tick(i)
			x.look()
		}
	}
	for c := range api.MaxClients {
		x.w.TickClient(c)
	}
}

func (x *chaos) waits() bool {
	for c := range api.MaxClients {
		if x.w.Waits(c) {
			return true
		}
	}
	return false
}

// heal checks that every request has a result in time.
func (x *chaos) heal(limit int) int {
	rounds := 0
	for x.w.Heal(0); x.waits(); rounds++ {
		if rounds == 10*limit+60 {
			x.t.Fatal("some request has no result after", rounds, "rounds")
		}
		x.round()
	}
	x.look()
	return rounds
}

func run(t *testing.T, seed int64, steps int) (committed, accepted, views, rounds int) {
	f := []int{1, 1, 1, 2, 2, 3, 7}[seed%7]
	limit := 5 + int(seed)%5
	x := newChaos(t, seed, f, limit)
	for s := range steps {
		x.step()
		if s%100 == 0 {
			x.states()
		}
		if x.r.Intn(2000) == 0 {
			rounds = max(rounds, x.heal(limit))
		}
	}
	rounds = max(rounds, x.heal(limit))
	x.states()
	for i := range x.w.N() {
		views += x.w.View(i)
	}
	return len(x.ledger), len(x.accepted), views, rounds
}

func TestWhateverHappens(t *testing.T) { // P23.8, P23.9, P23.10, P23.11, W1, W2, W3, W4, W5
	committed, accepted, views := 0, 0, 0
	for seed := range int64(21) {
		c, a, v, _ := run(t, seed, 2000)
		committed, accepted, views = committed+c, accepted+a, views+v
	}
	if committed < 500 || accepted < 500 || views < 400 {
		t.Error("too little has happened:", committed, accepted, views)
	}
}
