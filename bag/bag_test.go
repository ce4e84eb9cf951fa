package bag_test

import (
	"math"
	"math/rand"
	"slices"
	"testing"

	"gimbal/api"
	"gimbal/bag"
	"gimbal/msg"
)

func start(to, view int) api.Msg {
	return api.Msg{Kind: api.MsgStart, From: 0, To: to, View: view}
}

func state() api.Msg {
	x := api.Entry{Client: 1, Num: 1, Op: api.Op{Kind: api.OpReserve, Order: 1, N: 5, Lines: []api.Line{{Sku: "a", N: 2}}}}
	return api.Msg{Kind: api.MsgState, From: 0, To: 1, Image: api.Image{Ckpt: []byte("xyz"), Entries: []api.Entry{x}}}
}

func is(t *testing.T, b *bag.Bag, want ...api.Msg) {
	t.Helper()
	if b.Len() != len(want) || !slices.EqualFunc(b.List(), want, msg.Same) {
		t.Error(b.List())
	}
	for i, m := range want {
		if x, e := b.At(i); e != api.OK || !msg.Same(x, m) {
			t.Error(i, x, e)
		}
	}
}

func TestExample(t *testing.T) { // P22.1, P22.2, P22.3
	b := bag.New()
	is(t, b)
	first, second := start(1, 1), api.Msg{Kind: api.MsgOk, From: 1, To: 2, View: 1, Op: 1}
	if b.Put(first) != api.OK || b.Put(second) != api.OK || b.Copy(0) != api.OK || b.Len() != 3 || !slices.Equal(b.To(1), []int{0, 2}) || !slices.Equal(b.To(2), []int{1}) || b.To(3) != nil || b.To(-1) != nil {
		t.Error(b.To(1))
	}
	is(t, b, first, second, first)
	if m, e := b.Take(1); e != api.OK || !msg.Same(m, second) {
		t.Error(m, e)
	}
	if b.Drop(1) != api.OK || b.Drop(1) != api.ErrRange {
		t.Error("Drop")
	}
	is(t, b, first)
}

func TestErrors(t *testing.T) { // P22.1, P22.2, P22.4
	b := bag.New()
	b.Put(start(1, 1))
	for _, m := range []api.Msg{{}, start(23, 1), start(1, -1), {Kind: api.MsgOk, Commit: 1}} {
		if b.Put(m) != api.ErrArg {
			t.Error(m)
		}
	}
	for _, i := range []int{-1, 1, math.MinInt, math.MaxInt} {
		m, e := b.Take(i)
		x, f := b.At(i)
		if e != api.ErrRange || f != api.ErrRange || !msg.Same(m, api.Msg{}) || !msg.Same(x, api.Msg{}) || b.Drop(i) != api.ErrRange || b.Copy(i) != api.ErrRange {
			t.Error(i, e, f)
		}
	}
	is(t, b, start(1, 1))
}

func TestFull(t *testing.T) { // P22.1
	b := bag.New()
	for i := range 2000 {
		if b.Put(start(1, i)) != api.OK {
			t.Fatal(i)
		}
	}
	if b.Put(start(1, 1)) != api.ErrLimit || b.Copy(0) != api.ErrLimit || b.Copy(2000) != api.ErrRange || b.Put(api.Msg{}) != api.ErrArg || b.Len() != 2000 {
		t.Error("a full bag")
	}
	b.Drop(7)
	if b.Copy(7) != api.OK || b.Len() != 2000 {
		t.Error("there is room again")
	}
	if m, _ := b.At(1999); m.View != 8 {
		t.Error(m)
	}
}

func TestNoBag(t *testing.T) { // R1
	for _, b := range []*bag.Bag{nil, {}} {
		m, e := b.Take(0)
		x, f := b.At(0)
		if b.Put(start(1, 1)) != api.ErrNil || e != api.ErrNil || f != api.ErrNil || !msg.Same(m, api.Msg{}) || !msg.Same(x, api.Msg{}) || b.Copy(0) != api.ErrNil || b.Drop(0) != api.ErrNil || b.Len() != 0 || b.List() != nil || b.To(1) != nil {
			t.Error("nothing")
		}
	}
}

func TestOwnMemory(t *testing.T) { // P22.4
	b := bag.New()
	m := state()
	b.Put(m)
	b.Copy(0)
	spoil := func(m api.Msg) {
		m.Image.Ckpt[0] = 'q'
		m.Image.Entries[0].Op.Lines[0].Sku = "q"
	}
	spoil(m)
	x, _ := b.At(0)
	spoil(x)
	spoil(b.List()[1])
	is(t, b, state(), state())
	x, _ = b.Take(0)
	spoil(x)
	is(t, b, state())
}

func TestRandom(t *testing.T) { // P22.5, P22.6
	r := rand.New(rand.NewSource(1))
	b := bag.New()
	var want []api.Msg
	for step := range 3000 {
		i := r.Intn(len(want) + 1)
		switch p := r.Intn(5); {
		case p == 0 || i == len(want):
			b.Put(start(r.Intn(3), step))
			want = append(want, start(b.List()[len(want)].To, step))
		case p == 1:
			if b.Copy(i) != api.OK {
				t.Fatal(i)
			}
			want = append(want, want[i])
		case p == 2:
			if b.Drop(i) != api.OK {
				t.Fatal(i)
			}
			want = slices.Delete(want, i, i+1)
		case p == 3:
			if m, e := b.Take(i); e != api.OK || !msg.Same(m, want[i]) {
				t.Fatal(i, e)
			}
			want = slices.Delete(want, i, i+1)
		case r.Intn(2) == 0:
			b.Put(start(1, 1))
			b.Take(b.Len() - 1)
		default:
			b.Copy(i)
			b.Drop(b.Len() - 1)
		}
		is(t, b, want...)
		for who := range 3 {
			var places []int
			for i, m := range want {
				if m.To == who {
					places = append(places, i)
				}
			}
			if !slices.Equal(b.To(who), places) {
				t.Fatal(who, b.To(who))
			}
		}
	}
}
