package order_test

import (
	"math"
	"math/rand"
	"reflect"
	"slices"
	"testing"

	"gimbal/api"
	"gimbal/order"
)

func lines(names ...string) []api.Line {
	var l []api.Line
	for i, n := range names {
		l = append(l, api.Line{Sku: n, N: i + 1})
	}
	return l
}

func TestExample(t *testing.T) { // P8.1, P8.2, P8.3
	b := order.New()
	for i, c := range []struct{ got, want int }{
		{b.Open(7, 9, lines("a")), api.ResOK}, {b.Open(7, 9, lines("a")), api.ResTwice},
	} {
		if c.got != c.want {
			t.Error(i, c.got)
		}
	}
	if x, code := b.Ship(7); code != api.ResState || x.Id != 0 {
		t.Error(x, code)
	}
	if b.Confirm(7) != api.ResOK || b.Confirm(7) != api.ResState || len(b.Due(9)) != 0 {
		t.Error("Confirm")
	}
	if b.Open(3, 9, lines("a")) != api.ResOK || b.Open(2, 5, lines("b")) != api.ResOK {
		t.Error("Open")
	}
	if !slices.Equal(b.Due(8), []int{2}) || !slices.Equal(b.Due(9), []int{2, 3}) || len(b.Due(4)) != 0 || len(b.Due(math.MinInt)) != 0 {
		t.Error(b.Due(8), b.Due(9))
	}
	want := api.Order{Id: 7, Till: 9, Stands: api.OrderSure, Lines: lines("a")}
	if x, code := b.Ship(7); code != api.ResOK || !reflect.DeepEqual(x, want) {
		t.Error(x, code)
	}
	if x, code := b.Cancel(4); code != api.ResNone || x.Id != 0 {
		t.Error(x, code)
	}
	if b.Open(1, 0, lines("a")) != api.ResState {
		t.Error("an order without a time")
	}
}

func TestCheck(t *testing.T) { // P8.1, P8.4
	good := api.Order{Id: 1, Till: 2, Stands: api.OrderOpen, Lines: lines("a", "b", "c", "d")}
	if order.Check(good) != api.OK {
		t.Error("refused")
	}
	b := order.New()
	for i, f := range []func(*api.Order){
		func(x *api.Order) { x.Id = 0 },
		func(x *api.Order) { x.Id = -1 },
		func(x *api.Order) { x.Id = api.MaxQty + 1 },
		func(x *api.Order) { x.Till = 0 },
		func(x *api.Order) { x.Till = api.MaxQty + 1 },
		func(x *api.Order) { x.Lines = nil },
		func(x *api.Order) { x.Lines = lines("a", "a") },
		func(x *api.Order) { x.Lines = lines("A") },
		func(x *api.Order) { x.Lines = lines("a", "b", "c", "d", "e") },
		func(x *api.Order) { x.Lines = []api.Line{{Sku: "a"}} },
		func(x *api.Order) { x.Stands = 0 },
		func(x *api.Order) { x.Stands = 3 },
		func(x *api.Order) { x.Stands = -1 },
	} {
		x := good
		f(&x)
		if order.Check(x) != api.ErrArg || b.Put(x) != api.ResState {
			t.Error("accepted", i)
		}
		if i < 10 && b.Open(x.Id, x.Till, x.Lines) != api.ResState {
			t.Error("opened", i)
		}
	}
	good.Stands, good.Id, good.Till = api.OrderSure, api.MaxQty, api.MaxQty
	if order.Check(good) != api.OK || b.Put(good) != api.ResOK || b.Len() != 1 {
		t.Error("refused")
	}
}

func TestConfirmAndCancel(t *testing.T) { // P8.1, P8.2, P8.6
	b := order.New()
	b.Open(1, 5, lines("a", "b"))
	if b.Confirm(2) != api.ResNone || b.Confirm(1) != api.ResOK {
		t.Error("Confirm")
	}
	if x, is := b.Get(1); !is || x.Stands != api.OrderSure || x.Till != 5 {
		t.Error(x, is)
	}
	if x, code := b.Cancel(1); code != api.ResOK || x.Id != 1 || x.Stands != api.OrderSure || !slices.Equal(x.Lines, lines("a", "b")) {
		t.Error(x, code)
	}
	if _, code := b.Cancel(1); code != api.ResNone {
		t.Error(code)
	}
	if _, code := b.Ship(1); code != api.ResNone || b.Len() != 0 {
		t.Error(code)
	}
}

func TestDue(t *testing.T) { // P8.3, P8.7
	b := order.New()
	for i, till := range []int{9, 3, 9, 1, 3, 7, 9, 1} {
		b.Open(8-i, till, lines("a"))
	}
	b.Confirm(5)
	if ids := b.Due(9); !slices.Equal(ids, []int{1, 4, 7, 3, 2, 6, 8}) {
		t.Error(ids)
	}
	if ids := b.Due(3); !slices.Equal(ids, []int{1, 4, 7}) {
		t.Error(ids)
	}
	for _, id := range b.Due(8) {
		b.Cancel(id)
	}
	if len(b.Due(8)) != 0 || !slices.Equal(b.Due(math.MaxInt), []int{2, 6, 8}) {
		t.Error("what was not cancelled remains due")
	}
}

func TestFullAndList(t *testing.T) { // P8.1, P8.4, P8.6
	b := order.New()
	for i := range api.MaxOrders {
		if b.Open(2*(31-i)+1, 5, lines("a")) != api.ResOK {
			t.Fatal(i)
		}
	}
	other := api.Order{Id: 2, Till: 5, Stands: api.OrderSure, Lines: lines("a")}
	if b.Open(2, 5, lines("a")) != api.ResFull || b.Put(other) != api.ResFull || b.Open(1, 5, lines("a")) != api.ResTwice {
		t.Error("a thirty-third")
	}
	other.Id = 3
	if b.Put(other) != api.ResOK {
		t.Error("one of them")
	}
	l := b.List()
	for i, x := range l {
		if x.Id != 2*i+1 {
			t.Error(i, x.Id)
		}
	}
	if len(l) != 32 || b.Len() != 32 || l[1].Stands != api.OrderSure {
		t.Error(len(l))
	}
	if b.Drop(2) != api.ResNone || b.Drop(1) != api.ResOK || b.Drop(1) != api.ResNone || b.Open(2, 5, lines("a")) != api.ResOK {
		t.Error("Drop")
	}
}

func TestNoBook(t *testing.T) { // R1
	for _, b := range []*order.Book{nil, {}} {
		_, c := b.Cancel(1)
		_, d := b.Ship(1)
		x, is := b.Get(1)
		if b.Open(1, 1, lines("a")) != api.ResNone || b.Open(0, 0, nil) != api.ResNone || b.Confirm(1) != api.ResNone || c != api.ResNone || d != api.ResNone || b.Due(9) != nil ||
			is || x.Id != 0 || b.Put(api.Order{}) != api.ResNone || b.Drop(1) != api.ResNone || b.Len() != 0 || len(b.List()) != 0 {
			t.Error("nothing")
		}
	}
}

func TestOwnMemory(t *testing.T) { // P8.5
	b := order.New()
	given := lines("a", "b")
	b.Open(1, 5, given)
	given[0].Sku = "x"
	put := api.Order{Id: 2, Till: 5, Stands: 1, Lines: lines("c", "d")}
	b.Put(put)
	put.Lines[0].Sku = "x"
	x, _ := b.Get(1)
	x.Lines[0].Sku = "y"
	b.List()[1].Lines[0].Sku = "z"
	l := b.List()
	if !slices.Equal(l[0].Lines, lines("a", "b")) || !slices.Equal(l[1].Lines, lines("c", "d")) {
		t.Error("memory is shared", l)
	}
}

func TestRandom(t *testing.T) { // P8.5, P8.6, P8.8
	r := rand.New(rand.NewSource(1))
	b := order.New()
	stands := map[int]int{}
	for range 20000 {
		id := 1 + r.Intn(50)
		before := b.List()
		was, had := b.Get(id)
		if had != (stands[id] != 0) || was.Stands != stands[id] {
			t.Fatal(was, had)
		}
		code, next := 0, 0
		switch r.Intn(4) {
		case 0:
			code, next = b.Open(id, 1+r.Intn(9), lines("a")), api.OrderOpen
		case 1:
			code, next = b.Confirm(id), api.OrderSure
		case 2:
			_, code = b.Cancel(id)
		case 3:
			_, code = b.Ship(id)
			if code == api.ResOK && stands[id] != api.OrderSure {
				t.Fatal("shipped without being confirmed")
			}
		}
		switch {
		case code != api.ResOK:
		case r.Intn(3) > 0:
			stands[id] = next
			continue
		case had:
			b.Put(was)
		default:
			b.Drop(id)
		}
		if !reflect.DeepEqual(before, b.List()) {
			t.Fatal("something changed")
		}
		if b.Len() > 32 {
			t.Fatal(b.Len())
		}
	}
}
