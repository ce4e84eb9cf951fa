package choose_test

import (
	"bytes"
	"math"
	"math/rand"
	"testing"

	"gimbal/api"
	"gimbal/choose"
	"gimbal/entry"
	"gimbal/quorum"
)

func numbered(n int) api.Entry {
	return api.Entry{Client: 1, Num: n, Op: api.Op{Kind: api.OpReserve, Order: 1, N: 5, Lines: []api.Line{{Sku: "a", N: 2}}}}
}

func first(n int) []api.Entry {
	var l []api.Entry
	for i := range n {
		l = append(l, numbered(i+1))
	}
	return l
}

func offer(from, last, entries, commit int) api.Offer {
	return api.Offer{From: from, Last: last, Image: api.Image{Ckpt: []byte{byte(from)}, Entries: first(entries), Commit: commit}}
}

func TestExamples(t *testing.T) { // P18.2
	for i, c := range []struct {
		offers  []api.Offer
		entries int
		commit  int
		from    int
		e       api.Errno
	}{
		{[]api.Offer{offer(0, 1, 3, 2)}, 0, 0, 0, api.ErrState},
		{[]api.Offer{offer(0, 1, 3, 2), offer(2, 1, 2, 2)}, 3, 2, 0, api.OK},
		{[]api.Offer{offer(0, 1, 3, 0), offer(1, 3, 1, 1)}, 1, 1, 1, api.OK},
		{[]api.Offer{offer(0, 1, 3, 3), offer(1, 3, 1, 1)}, 0, 0, 0, api.ErrRange},
		{[]api.Offer{offer(2, 1, 3, 3), offer(1, 1, 3, 1)}, 3, 3, 1, api.OK},
		{[]api.Offer{offer(2, 1, 3, 3), offer(1, 1, 4, 1), offer(0, 0, 9, 2)}, 4, 3, 1, api.OK},
		{[]api.Offer{offer(2, 1, 3, 1), offer(2, 3, 9, 9), offer(0, 0, 9, 2)}, 3, 2, 2, api.OK}, // the first one of each
	} {
		o, _ := choose.New(3, 4)
		for _, x := range c.offers {
			o.Add(x)
		}
		m, from, e := o.Choose()
		if e != c.e || from != c.from || m.Commit != c.commit || !entry.SameRow(m.Entries, first(c.entries)) {
			t.Error(i, m, from, e)
		}
		if e == api.OK && !bytes.Equal(m.Ckpt, []byte{byte(from)}) {
			t.Error(i, "another checkpoint")
		}
	}
}

func TestNew(t *testing.T) { // P18.1
	for _, c := range [][2]int{{0, 1}, {1, 1}, {2, 1}, {4, 1}, {17, 1}, {-3, 1}, {3, 0}, {3, -1}, {3, api.MaxNumber + 1}, {math.MaxInt, 1}, {3, math.MinInt}} {
		if o, e := choose.New(c[0], c[1]); o != nil || e != api.ErrArg {
			t.Error(c, e)
		}
	}
	for _, c := range [][2]int{{3, 1}, {15, api.MaxNumber}} {
		if o, e := choose.New(c[0], c[1]); e != api.OK || o.View() != c[1] || o.Len() != 0 || o.Enough() {
			t.Error(c, e)
		}
	}
}

func TestAdd(t *testing.T) { // P18.1, P18.3
	o, _ := choose.New(3, 4)
	bad := func(f func(*api.Offer)) api.Offer {
		x := offer(0, 1, 3, 2)
		f(&x)
		return x
	}
	for i, x := range []api.Offer{
		bad(func(x *api.Offer) { x.From = -1 }), bad(func(x *api.Offer) { x.From = 3 }), bad(func(x *api.Offer) { x.Last = -1 }), bad(func(x *api.Offer) { x.Last = 4 }),
		bad(func(x *api.Offer) { x.Image.Base = -1 }), bad(func(x *api.Offer) { x.Image.Base, x.Image.Commit = api.MaxNumber+1, api.MaxNumber+1 }),
		bad(func(x *api.Offer) { x.Image.Commit = 4 }), bad(func(x *api.Offer) { x.Image.Commit = -1 }), bad(func(x *api.Offer) { x.Image.Base = 3 }),
		bad(func(x *api.Offer) { x.Image.Entries = first(25); x.Image.Commit = 20 }), bad(func(x *api.Offer) { x.Image.Entries = first(9); x.Image.Commit = 0 }),
		bad(func(x *api.Offer) { x.Image.Entries[1].Num = 0 }), bad(func(x *api.Offer) { x.Image.Base = math.MaxInt }), bad(func(x *api.Offer) { x.Image.Commit = math.MaxInt }),
	} {
		if many, e := o.Add(x); many != 0 || e != api.ErrArg || o.Len() != 0 {
			t.Error(i, many, e)
		}
	}
	for i, x := range []api.Offer{offer(1, 0, 24, 16), offer(1, 3, 8, 0), {From: 0, Last: 3, Image: api.Image{Base: api.MaxNumber, Entries: first(1), Commit: api.MaxNumber}}, offer(2, 3, 0, 0)} {
		want := [...]int{1, 1, 2, 3}[i]
		if many, e := o.Add(x); many != want || e != api.OK || o.Len() != want || o.Enough() != (want >= 2) {
			t.Error(i, many, e)
		}
	}
}

func TestBest(t *testing.T) { // P18.2
	o, _ := choose.New(5, 9)
	if x, e := o.Best(); e != api.ErrState || x.From != 0 || x.Image.Ckpt != nil {
		t.Error(e)
	}
	for _, c := range []struct {
		x    api.Offer
		from int
	}{
		{offer(3, 2, 4, 0), 3},
		{offer(2, 2, 3, 3), 3}, // shorter
		{offer(4, 2, 4, 4), 3}, // not the least From
		{offer(0, 1, 8, 8), 3}, // an earlier view
		{offer(1, 2, 4, 1), 1}, // a lesser From
	} {
		o.Add(c.x)
		if x, e := o.Best(); x.From != c.from || e != api.OK {
			t.Error(c.x.From, x.From, e)
		}
	}
	based := api.Offer{From: 0, Last: 3, Image: api.Image{Base: 7, Commit: 7}}
	o, _ = choose.New(3, 9)
	o.Add(offer(1, 3, 6, 0))
	o.Add(based)
	if x, _ := o.Best(); x.From != 0 {
		t.Error("the top counts, not the number of entries")
	}
}

func TestNoOffers(t *testing.T) { // R1
	for _, o := range []*choose.Offers{nil, {}} {
		many, e := o.Add(offer(0, 0, 0, 0))
		x, f := o.Best()
		m, from, g := o.Choose()
		if many != 0 || e != api.ErrNil || o.View() != 0 || o.Len() != 0 || o.Enough() || f != api.ErrNil || x.Image.Ckpt != nil || m.Ckpt != nil || from != 0 || g != api.ErrNil {
			t.Error("nothing")
		}
	}
}

func TestOwnMemory(t *testing.T) { // P18.3
	o, _ := choose.New(3, 4)
	x := offer(1, 1, 2, 1)
	o.Add(x)
	o.Add(offer(2, 0, 2, 1))
	x.Image.Ckpt[0] = 99
	x.Image.Entries[0].Op.Lines[0].Sku = "q"
	y, _ := o.Best()
	y.Image.Ckpt[0] = 99
	y.Image.Entries[0].Op.Lines[0].Sku = "q"
	m, _, _ := o.Choose()
	m.Ckpt[0] = 99
	m.Entries[1].Op.Lines[0].Sku = "q"
	if m, _, e := o.Choose(); e != api.OK || m.Ckpt[0] != 1 || !entry.SameRow(m.Entries, first(2)) {
		t.Error("memory is shared")
	}
}

func TestAnyOrder(t *testing.T) { // P18.4, P18.6
	r := rand.New(rand.NewSource(1))
	for range 400 {
		n := 3 + 2*r.Intn(3)
		var all []api.Offer
		for i := range n {
			entries := r.Intn(8)
			all = append(all, offer(i, r.Intn(4), entries, r.Intn(entries+1)))
		}
		all = all[:quorum.Enough(n)+r.Intn(n-quorum.Enough(n)+1)]
		var want api.Image
		var wantFrom int
		var wantE api.Errno
		for round := range 5 {
			r.Shuffle(len(all), func(i, j int) { all[i], all[j] = all[j], all[i] })
			o, _ := choose.New(n, 4)
			greatest := 0
			for _, x := range all {
				o.Add(x)
				greatest = max(greatest, x.Image.Commit)
			}
			m, from, e := o.Choose()
			if round == 0 {
				want, wantFrom, wantE = m, from, e
			}
			if from != wantFrom || e != wantE || !bytes.Equal(m.Ckpt, want.Ckpt) || !entry.SameRow(m.Entries, want.Entries) || m.Commit != want.Commit || e == api.OK && m.Commit != greatest {
				t.Fatal("the order counts", from, wantFrom, e, wantE)
			}
		}
	}
}

func TestMajoritysLog(t *testing.T) { // P18.5
	r := rand.New(rand.NewSource(2))
	for range 1000 {
		n := 3 + 2*r.Intn(7)
		common := first(1 + r.Intn(7))
		view := 1 + r.Intn(5)
		all := make([]api.Offer, n)
		for i, who := range r.Perm(n) {
			has := i < quorum.Enough(n)
			last := r.Intn(view + 1)
			if has {
				last = view + r.Intn(3)
			}
			l := common
			if !has {
				l = nil
			}
			l = l[:len(l):len(l)]
			for range r.Intn(8 - len(common)) {
				l = append(l, numbered(100+r.Intn(3)))
			}
			if !has && last == view {
				l = common[:r.Intn(len(common)+1)] // in the same view there is only one log
			}
			all[who] = api.Offer{From: who, Last: last, Image: api.Image{Entries: l}}
		}
		o, _ := choose.New(n, 9)
		for _, who := range r.Perm(n)[:quorum.Enough(n)] {
			o.Add(all[who])
		}
		m, from, e := o.Choose()
		if e != api.OK || len(m.Entries) < len(common) || !entry.SameRow(m.Entries[:len(common)], common) {
			t.Fatal(from, e, len(m.Entries), len(common))
		}
	}
}
