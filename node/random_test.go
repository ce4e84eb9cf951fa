package node_test

import (
	"bytes"
	"math/rand"
	"testing"

	"gimbal/api"
	"gimbal/disk"
	"gimbal/entry"
	"gimbal/node"
)

// net is a group whose messages are lost, duplicated and reordered, and whose disks tear.
type net struct {
	t       *testing.T
	r       *rand.Rand
	nodes   []*node.Node
	disks   []*disk.Disk
	bag     []api.Msg
	ledger  []api.Entry // what was ever committed
	ticks   int
	arrived int
	nums    [api.MaxClients]int
}

func newNet(t *testing.T, seed int64, n int) *net {
	w := &net{t: t, r: rand.New(rand.NewSource(seed))}
	for i := range n {
		w.disks = append(w.disks, disk.New())
		a, e := node.New(i, n, 5, w.disks[i])
		if e != api.OK {
			t.Fatal(e)
		}
		w.nodes = append(w.nodes, a)
	}
	return w
}

// check compares a node with the ledger, to which it adds what the node has committed more.
func (w *net) check(i int) {
	a := w.nodes[i]
	m := a.Image()
	if a.Top()-a.Committed() > 8 || len(m.Entries) > 24 || a.View() > w.ticks || a.Top() > w.arrived || m.Base > len(w.ledger) {
		w.t.Fatal("bounds", i, a.Top(), a.Committed(), m.Base, a.View(), w.ticks)
	}
	for op := m.Base + 1; op <= m.Commit; op++ {
		x := m.Entries[op-m.Base-1]
		if op == len(w.ledger)+1 {
			w.ledger = append(w.ledger, x)
		} else if !entry.Same(w.ledger[op-1], x) {
			w.t.Fatal("another entry was committed", i, op)
		}
	}
	whole := append(w.ledger[:m.Base:m.Base], m.Entries...)
	if !bytes.Equal(a.Now(), result(whole...)) || !bytes.Equal(a.Sure(), result(whole[:m.Commit]...)) || !bytes.Equal(m.Ckpt, result(whole[:m.Base]...)) {
		w.t.Fatal("a state is not the result of the log", i)
	}
}

// mark is what a node has that it must not forget.
type mark struct {
	view, top int
	normal    bool
}

func of(a *node.Node) mark { return mark{a.View(), a.Top(), a.Normal()} }

func (w *net) call(i int, l []api.Msg, e api.Errno, was mark) {
	if e == api.ErrDown {
		w.restart(i, was)
		return
	}
	if e != api.OK {
		w.t.Fatal(i, e)
	}
	w.bag = append(w.bag, l...)
	w.check(i)
}

// restart lets a node continue from its disk. A changing one may have adopted a shorter log just before it went down.
func (w *net) restart(i int, was mark) {
	w.disks[i].Revive()
	a, e := node.New(i, len(w.nodes), 5, w.disks[i])
	if e != api.OK || a.View() < was.view || a.View() == was.view && was.normal && (!a.Normal() || a.Top() < was.top) {
		w.t.Fatal("something is forgotten", i, e, was, of(a))
	}
	w.nodes[i] = a
	w.check(i)
}

func (w *net) ask() {
	c := w.r.Intn(8)
	if w.nums[c] == 0 || w.r.Intn(3) == 0 {
		w.nums[c]++
	}
	x := api.Entry{Client: c, Num: w.nums[c], Op: api.Op{Kind: api.OpRestock, Sku: string(rune('a' + c%3)), N: w.nums[c]}}
	w.bag = append(w.bag, request(w.r.Intn(len(w.nodes)), x))
}

func (w *net) deliver() {
	if len(w.bag) == 0 {
		return
	}
	k := w.r.Intn(len(w.bag))
	if w.r.Intn(3) > 0 {
		k = 0
	}
	m := w.bag[k]
	if w.r.Intn(12) > 0 {
		w.bag = append(w.bag[:k], w.bag[k+1:]...)
	}
	if m.To >= len(w.nodes) || w.r.Intn(15) == 0 {
		return
	}
	w.arrived++
	a := w.nodes[m.To]
	was := of(a)
	l, e := a.Handle(m)
	w.call(m.To, l, e, was)
}

func (w *net) step() {
	i := w.r.Intn(len(w.nodes))
	a := w.nodes[i]
	switch p := w.r.Intn(100); {
	case p < 70:
		w.deliver()
	case p < 78:
		w.ask()
	case p < 97:
		w.ticks++
		was := of(a)
		l, e := a.Tick()
		w.call(i, l, e, was)
	case p < 98:
		w.restart(i, of(a))
	case p < 99:
		w.disks[i].Arm(w.r.Intn(120))
	default:
		w.bag = w.bag[:w.r.Intn(len(w.bag)+1)]
	}
	if len(w.bag) > 200 {
		w.bag = w.bag[100:]
	}
}

func TestWhateverHappens(t *testing.T) { // P20.5, P20.6, P20.7, W1, W2, W3, W5
	committed, views := 0, 0
	for seed := range int64(30) {
		w := newNet(t, seed, 3+2*int(seed%3))
		for range 2500 {
			w.step()
		}
		committed += len(w.ledger)
		for _, a := range w.nodes {
			views += a.View()
		}
	}
	if committed < 250 || views < 250 {
		t.Error("too little has happened:", committed, views)
	}
}
