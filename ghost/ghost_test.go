package ghost_test

import (
	"bytes"
	"math"
	"math/rand"
	"testing"

	"gimbal/api"
	"gimbal/entry"
	"gimbal/fold"
	"gimbal/ghost"
	"gimbal/world"
)

func restock(client, num, n int) api.Entry {
	return api.Entry{Client: client, Num: num, Op: api.Op{Kind: api.OpRestock, Sku: "a", N: n}}
}

var x, y = restock(1, 1, 5), restock(2, 1, 2)

func result(l ...api.Entry) []byte {
	s, _ := fold.Of(l)
	return s.Bytes()
}

// some returns n entries, of client 1; the i-th one results in i.
func some(n int) []api.Entry {
	var l []api.Entry
	for i := range n {
		l = append(l, restock(1, i+1, 1))
	}
	return l
}

func image(l []api.Entry, base, commit int) api.Image {
	return api.Image{Base: base, Ckpt: result(l[:base]...), Entries: l[base:], Commit: commit}
}

func ok(n int) api.Res { return api.Res{A: n} }

func notes(t *testing.T, g *ghost.Ghost, m api.Image, rule, at, size int) {
	t.Helper()
	if r, a := g.Image(m); r != rule || a != at || g.Len() != size {
		t.Error(r, a, g.Len(), "instead of", rule, at, size)
	}
}

func told(t *testing.T, g *ghost.Ghost, client, num, op int, r api.Res, rule, at int) {
	t.Helper()
	if r, a := g.Told(client, num, op, r); r != rule || a != at {
		t.Error(r, a, "instead of", rule, at)
	}
}

func broken(t *testing.T, g *ghost.Ghost, rule, at int) {
	t.Helper()
	if r, a := g.Broken(); r != rule || a != at {
		t.Error(r, a, "instead of", rule, at)
	}
}

func TestExample(t *testing.T) { // P24.1, P24.2
	g := ghost.New()
	broken(t, g, 0, 0)
	notes(t, g, image([]api.Entry{x, y}, 0, 1), 0, 0, 1)
	notes(t, g, image([]api.Entry{y}, 0, 1), 3, 1, 1)
	notes(t, g, image([]api.Entry{x, y}, 0, 2), 0, 0, 2)
	g.Asked(1, 1)
	told(t, g, 1, 1, 1, ok(5), 0, 0)
	told(t, g, 1, 1, 1, ok(6), 5, 1)
	told(t, g, 2, 1, 2, ok(7), 4, 2)
	if g.Owes() != 0 {
		t.Error(g.Owes())
	}
	g.Asked(2, 1)
	told(t, g, 2, 1, 2, ok(7), 0, 0)
	g.Asked(3, 1)
	told(t, g, 3, 1, 2, ok(7), 6, 2)
	broken(t, g, 3, 1)
	if !entry.SameRow(g.Ledger(), []api.Entry{x, y}) || !bytes.Equal(g.Now(), result(x, y)) {
		t.Error(g.Ledger())
	}
	for op, want := range map[int]api.Res{1: ok(5), 2: ok(7)} {
		if r, is := g.Answer(op); r != want || !is {
			t.Error(op, r, is)
		}
	}
	for _, op := range []int{0, 3, -1, math.MinInt, math.MaxInt} {
		if r, is := g.Answer(op); r != (api.Res{}) || is {
			t.Error(op, r, is)
		}
	}
}

func TestInvalidImages(t *testing.T) { // P24.1: rule 1
	for i, m := range []api.Image{{Base: -1}, {Base: 1}, {Commit: 1}, {Entries: []api.Entry{{}}}, {Entries: some(33)}, {Ckpt: make([]byte, 16385)}, {Base: 5, Commit: 4}} {
		g := ghost.New()
		notes(t, g, m, 1, 0, 0)
		broken(t, g, 1, 0)
		if g.Waits() != 0 {
			t.Error(i)
		}
	}
}

func TestCheckpoints(t *testing.T) { // P24.1: rule 2
	g := ghost.New()
	bad := image(some(4), 0, 2)
	bad.Ckpt = result(x)
	notes(t, g, bad, 2, 0, 0)
	notes(t, g, image(some(4), 0, 3), 0, 0, 3)
	for base := range 4 {
		notes(t, g, image(some(4), base, 3), 0, 0, 3)
		bad := image(some(4), base, 3)
		bad.Ckpt = result(some(base + 1)...)
		notes(t, g, bad, 2, base, 3)
		bad.Ckpt = nil
		notes(t, g, bad, 2, base, 3)
	}
	broken(t, g, 2, 0)
}

func TestEntries(t *testing.T) { // P24.1: rule 3
	g := ghost.New()
	l := some(6)
	notes(t, g, image(l, 0, 4), 0, 0, 4)
	other := append(some(2), restock(1, 3, 2), restock(1, 4, 1), restock(1, 5, 1))
	notes(t, g, image(other, 0, 5), 3, 3, 4)
	notes(t, g, image(other, 1, 5), 3, 3, 4)
	notes(t, g, image(other, 0, 2), 0, 0, 4) // what is not committed may differ
	late := append(some(3), restock(1, 4, 2), restock(1, 5, 2))
	notes(t, g, image(late, 0, 5), 3, 4, 4)
	notes(t, g, image(l, 4, 6), 0, 0, 6)
	broken(t, g, 3, 3)
}

func TestWaiting(t *testing.T) { // P24.1, P24.2
	g := ghost.New()
	l := some(20)
	for range 2 {
		notes(t, g, image(l, 5, 8), 0, 0, 0) // once
		notes(t, g, image(l, 8, 8), 0, 0, 0)
		notes(t, g, image(l, 15, 17), 0, 0, 0)
		if g.Waits() != 3 {
			t.Error(g.Waits())
		}
	}
	notes(t, g, image(l, 0, 4), 0, 0, 4)
	if g.Waits() != 3 {
		t.Error(g.Waits())
	}
	notes(t, g, image(l, 2, 6), 0, 0, 8)
	if g.Waits() != 1 {
		t.Error(g.Waits())
	}
	notes(t, g, image(l, 6, 20), 0, 0, 20)
	if g.Waits() != 0 {
		t.Error(g.Waits())
	}
	broken(t, g, 0, 0)
}

func TestWaitingFaults(t *testing.T) { // P24.1
	g := ghost.New()
	l := some(9)
	bad := image(l, 3, 5)
	bad.Ckpt = result(some(2)...)
	other := append(some(4), restock(3, 1, 1), restock(3, 2, 1))
	notes(t, g, image(l, 5, 6), 0, 0, 0)
	notes(t, g, bad, 0, 0, 0)
	notes(t, g, image(other, 4, 6), 0, 0, 0)
	notes(t, g, image(l, 4, 5), 0, 0, 0)
	notes(t, g, image(l, 0, 4), 2, 3, 4) // the first one that it reaches
	if g.Waits() != 3 {
		t.Error(g.Waits())
	}
	notes(t, g, image(l, 8, 8), 2, 5, 6) // it waits, but those that are reached are noted now: the other log, and then one that differs from it
	if g.Waits() != 2 {
		t.Error(g.Waits())
	}
	broken(t, g, 2, 3)
	notes(t, g, image(l, 4, 5), 3, 5, 6)
}

func TestTold(t *testing.T) { // P24.1: rules 4 to 8, for what the ledger has
	g := ghost.New()
	notes(t, g, image([]api.Entry{x, y, restock(1, 2, 1)}, 0, 3), 0, 0, 3)
	told(t, g, 1, 1, 1, ok(5), 4, 1)
	g.Asked(1, 1)
	g.Asked(2, 1)
	g.Asked(1, 2)
	told(t, g, 1, 1, 0, ok(5), 6, 0)
	told(t, g, 1, 1, -7, ok(5), 6, -7)
	told(t, g, 1, 1, math.MinInt, ok(5), 6, math.MinInt)
	told(t, g, 1, 1, 1, ok(5), 0, 0)
	told(t, g, 1, 1, 1, ok(5), 0, 0)
	told(t, g, 1, 1, 2, ok(5), 5, 2)
	told(t, g, 1, 1, 1, api.Res{A: 5, B: 1}, 5, 1)
	told(t, g, 2, 1, 3, ok(8), 7, 3) // of client 1
	told(t, g, 2, 1, 3, ok(8), 0, 0) // it was reported, though
	told(t, g, 2, 1, 2, ok(7), 5, 2)
	told(t, g, 1, 2, 3, ok(9), 8, 3)
	broken(t, g, 4, 1)
	if g.Owes() != 0 {
		t.Error(g.Owes())
	}
	h := ghost.New()
	notes(t, h, image(some(2), 0, 2), 0, 0, 2)
	h.Asked(1, 3)
	told(t, h, 1, 3, 2, ok(2), 7, 2) // another Num
}

func TestOrderOfRequests(t *testing.T) { // P24.1: rule 6
	g := ghost.New()
	g.Asked(1, 1)
	g.Asked(2, 1)
	told(t, g, 1, 1, 5, ok(5), 0, 0)
	g.Asked(3, 1)
	g.Asked(2, 1) // it was asked before
	told(t, g, 3, 1, 5, ok(5), 6, 5)
	told(t, g, 3, 1, 4, ok(5), 6, 4)
	told(t, g, 2, 1, 4, ok(5), 0, 0)
	g.Asked(4, 1)
	told(t, g, 4, 1, 5, ok(5), 6, 5)
	told(t, g, 4, 1, 6, ok(5), 0, 0)
	told(t, g, 3, 1, 6, ok(6), 0, 0) // nothing tells yet that there can't be two
	if g.Owes() != 4 {
		t.Error(g.Owes())
	}
}

func TestOwed(t *testing.T) { // P24.1, P24.2: rules 7 and 8, for what the ledger has later
	l := []api.Entry{x, y, restock(1, 2, 1), restock(1, 3, 1)}
	for i, c := range []struct {
		client, num, op int
		r               api.Res
		rule, at        int
	}{
		{1, 1, 1, ok(5), 0, 0}, {1, 1, 1, ok(6), 8, 1}, {2, 1, 2, ok(7), 0, 0}, {2, 1, 3, ok(8), 7, 3}, {1, 1, 3, ok(8), 7, 3}, {1, 2, 3, api.Res{Code: 1, A: 8}, 8, 3}, {1, 2, 3, ok(8), 0, 0},
	} {
		g := ghost.New()
		g.Asked(c.client, c.num)
		told(t, g, c.client, c.num, c.op, c.r, 0, 0)
		if g.Owes() != 1 {
			t.Error(i, g.Owes())
		}
		size := 4
		if c.rule != 0 {
			size = c.at // what was added before remains
		}
		notes(t, g, image(l, 0, 4), c.rule, c.at, size)
		if g.Owes() != 0 {
			t.Error(i, g.Owes())
		}
		broken(t, g, c.rule, c.at)
		notes(t, g, image(l, 0, 4), 0, 0, 4)
	}
	g := ghost.New()
	for c := range 3 {
		g.Asked(c, 1)
	}
	told(t, g, 2, 1, 2, ok(9), 0, 0)
	told(t, g, 1, 1, 2, ok(7), 0, 0)
	told(t, g, 0, 1, 9, ok(7), 0, 0)
	notes(t, g, image(l, 0, 4), 8, 2, 2) // in the order in which they were reported
	if g.Owes() != 1 {
		t.Error(g.Owes())
	}
}

func TestNoGhost(t *testing.T) { // R1
	for _, g := range []*ghost.Ghost{nil, {}} {
		g.Asked(1, 1)
		notes(t, g, image(some(1), 0, 1), 0, 0, 0)
		notes(t, g, api.Image{Base: -1}, 0, 0, 0)
		told(t, g, 1, 1, 1, ok(1), 0, 0)
		broken(t, g, 0, 0)
		r, is := g.Answer(1)
		if g.Ledger() != nil || r != (api.Res{}) || is || g.Now() != nil || g.Owes() != 0 || g.Waits() != 0 {
			t.Error("nothing")
		}
	}
}

func TestOwnMemory(t *testing.T) { // P24.3
	reserve := func() api.Entry {
		return api.Entry{Client: 1, Num: 1, Op: api.Op{Kind: api.OpReserve, Order: 1, N: 5, Lines: []api.Line{{Sku: "a", N: 2}}}}
	}
	g := ghost.New()
	l := []api.Entry{reserve(), reserve(), reserve()}
	m, late := image(l[:1], 0, 1), image(l, 1, 3)
	g.Image(late)
	clear(late.Ckpt)
	late.Entries[0].Op.Lines[0].Sku = "q"
	g.Image(m)
	clear(m.Ckpt)
	m.Entries[0].Op.Lines[0].Sku = "q"
	g.Ledger()[1].Op.Lines[0].Sku = "q"
	clear(g.Now())
	if !entry.SameRow(g.Ledger(), []api.Entry{reserve(), reserve(), reserve()}) || !bytes.Equal(g.Now(), result(g.Ledger()...)) {
		t.Error("memory is shared")
	}
	broken(t, g, 0, 0)
}

// watch tells a ghost everything that is new in a world, after each call.
type watch struct {
	t    *testing.T
	w    *world.World
	g    *ghost.Ghost
	seen int
}

func (v *watch) look(i int) {
	l := v.w.Events()
	for ; v.seen < len(l); v.seen++ {
		if e := l[v.seen]; e.Kind == api.EvAsk {
			v.g.Asked(e.Entry.Client, e.Entry.Num)
		} else {
			v.g.Told(e.Entry.Client, e.Entry.Num, e.Op, e.Res)
		}
	}
	size := v.g.Len()
	if v.w.Up(i) {
		v.g.Image(v.w.Image(i))
	}
	if rule, at := v.g.Broken(); rule != 0 || v.g.Len() < size {
		v.t.Fatal("a contradiction", rule, at)
	}
}

func (v *watch) deliver(k int) {
	m, _ := v.w.At(k)
	if v.w.Deliver(k) == api.OK {
		v.look(m.To)
	}
}

func TestNoContradiction(t *testing.T) { // P24.4, P24.5
	whole := 0
	for seed := range int64(12) {
		r := rand.New(rand.NewSource(seed))
		w, _ := world.New(1+int(seed%3), 5)
		v := &watch{t: t, w: w, g: ghost.New()}
		for range 2500 {
			i := r.Intn(w.N())
			switch p := r.Intn(200); {
			case p < 90:
				v.deliver(0)
			case p < 130:
				v.deliver(r.Intn(w.Len() + 1))
			case p < 140:
				w.Drop(r.Intn(w.Len() + 1))
			case p < 145:
				w.Twice(r.Intn(w.Len() + 1))
			case p < 160:
				w.Ask(r.Intn(8), api.Op{Kind: api.OpRestock, Sku: string(rune('a' + r.Intn(3))), N: 1 + r.Intn(9)})
				v.look(-1)
			case p < 170:
				w.TickClient(r.Intn(8))
			case p < 194:
				w.Tick(i)
				v.look(i)
			case p < 195:
				w.Crash(i)
			case p < 199:
				w.Restart(i)
				v.look(i)
			default:
				w.Arm(i, r.Intn(150))
			}
		}
		s, e := fold.Of(v.g.Ledger())
		if e != api.OK || !bytes.Equal(s.Bytes(), v.g.Now()) {
			t.Error(e)
		}
		whole += v.g.Len()
		for op := range v.g.Len() {
			if _, is := v.g.Answer(op + 1); !is {
				t.Error(op)
			}
		}
	}
	if whole < 150 {
		t.Error("only", whole, "entries were committed")
	}
}

func TestAnyDifferenceIsReported(t *testing.T) { // P24.6
	l := some(12)
	for op := 1; op <= 12; op++ {
		g := ghost.New()
		notes(t, g, image(l, 0, 12), 0, 0, 12)
		bad := append([]api.Entry{}, l...)
		bad[op-1].Op.N = 2
		notes(t, g, image(bad, 0, 12), 3, op, 12)
		m := image(l, op, 12)
		m.Ckpt[len(m.Ckpt)-1]++
		notes(t, g, m, 2, op, 12)
		g.Asked(1, op)
		told(t, g, 1, op, op, ok(99), 8, op)
	}
}
