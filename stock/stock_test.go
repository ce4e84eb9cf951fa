package stock_test

import (
	"math"
	"math/rand"
	"slices"
	"testing"

	"gimbal/api"
	"gimbal/stock"
)

func expect(t *testing.T, s *stock.Stock, sku string, there, held int) {
	t.Helper()
	if x, is := s.Get(sku); !is || x != (api.Sku{Name: sku, There: there, Held: held}) {
		t.Error(x, is)
	}
}

func TestExample(t *testing.T) { // P7.1, P7.2, P7.3
	s := stock.New()
	for i, c := range []struct{ got, want int }{
		{s.Add("a", 5), api.ResOK}, {s.Hold("a", 3), api.ResOK}, {s.Take("a", 3), api.ResShort}, {s.Take("a", 2), api.ResOK},
	} {
		if c.got != c.want {
			t.Error(i, c.got)
		}
	}
	expect(t, s, "a", 3, 3)
	for i, c := range []struct{ got, want int }{
		{s.Out("a", 1), api.ResOK}, {s.Free("a", 3), api.ResShort}, {s.Free("a", 2), api.ResOK}, {s.Hold("b", 1), api.ResNone}, {s.Add("A", 1), api.ResState},
	} {
		if c.got != c.want {
			t.Error(i, c.got)
		}
	}
	expect(t, s, "a", 2, 0)
}

func name(i int) string { return "s" + string(rune('a'+i)) }

func full() *stock.Stock {
	s := stock.New()
	for i := range api.MaxSkus {
		s.Add(name(i), 10)
	}
	return s
}

func TestInvalidCalls(t *testing.T) { // P7.1, P7.2
	s := stock.New()
	s.Add("a", 5)
	s.Hold("a", 3)
	for _, f := range []func(string, int) int{s.Add, s.Take, s.Hold, s.Free, s.Out} {
		for _, n := range []int{0, -1, math.MinInt, api.MaxQty + 1, math.MaxInt} {
			if f("a", n) != api.ResState || f("none", n) != api.ResState {
				t.Error(n)
			}
		}
		for _, sku := range []string{"", "A", "abcdefghi", "a b"} {
			if f(sku, 1) != api.ResState {
				t.Error(sku)
			}
		}
	}
	for _, f := range []func(string, int) int{s.Take, s.Hold, s.Free, s.Out} {
		if f("b", 1) != api.ResNone {
			t.Error("a sku that does not exist")
		}
	}
	if s.Take("a", 3) != api.ResShort || s.Hold("a", 3) != api.ResShort || s.Free("a", 4) != api.ResShort || s.Out("a", 4) != api.ResShort {
		t.Error("too much")
	}
	if s.Add("a", api.MaxQty-4) != api.ResOver || s.Add("a", api.MaxQty) != api.ResOver {
		t.Error("over")
	}
	expect(t, s, "a", 5, 3)
	if s.Len() != 1 {
		t.Error("a refused call made a sku")
	}
	if s.Add("a", api.MaxQty-5) != api.ResOK || s.Add("a", 1) != api.ResOver || s.Hold("a", api.MaxQty-3) != api.ResOK {
		t.Error("up to the limit")
	}
	expect(t, s, "a", api.MaxQty, api.MaxQty)
}

func TestFull(t *testing.T) { // P7.1, P7.3, P7.6
	s := full()
	if s.Len() != 16 || s.Add("b", 1) != api.ResFull || s.Put(api.Sku{Name: "b"}) != api.ResFull {
		t.Error("a seventeenth")
	}
	if s.Add(name(3), 1) != api.ResOK || s.Put(api.Sku{Name: name(3), There: 2, Held: 1}) != api.ResOK {
		t.Error("one of them")
	}
	if s.Drop(name(3)) != api.ResOK || s.Add("b", 1) != api.ResOK || s.Len() != 16 {
		t.Error("there is room again")
	}
}

func TestPutAndDrop(t *testing.T) { // P7.3
	s := stock.New()
	for _, x := range []api.Sku{{Name: "a", There: -1}, {Name: "a", Held: 1}, {Name: "a", There: 1, Held: -1}, {Name: "", There: 1}, {Name: "A"}, {Name: "a", There: api.MaxQty + 1}, {Name: "a", There: math.MaxInt, Held: math.MinInt}} {
		if s.Put(x) != api.ResState {
			t.Error("accepted", x)
		}
	}
	for _, x := range []api.Sku{{Name: "a"}, {Name: "a", There: api.MaxQty, Held: api.MaxQty}, {Name: "a", There: 2, Held: 1}} {
		if s.Put(x) != api.ResOK {
			t.Error("refused", x)
		}
		expect(t, s, "a", x.There, x.Held)
	}
	if s.Drop("b") != api.ResNone || s.Drop("") != api.ResNone || s.Drop("a") != api.ResOK || s.Drop("a") != api.ResNone || s.Len() != 0 {
		t.Error("Drop")
	}
	if x, is := s.Get("a"); is || x != (api.Sku{}) {
		t.Error(x, is)
	}
}

func TestList(t *testing.T) { // P7.4, P7.5
	s := stock.New()
	for _, n := range []string{"m", "b", "z", "9", "bb"} {
		s.Add(n, 1)
	}
	var names []string
	for _, x := range s.List() {
		names = append(names, x.Name)
	}
	if !slices.Equal(names, []string{"9", "b", "bb", "m", "z"}) || s.Len() != 5 {
		t.Error(names)
	}
	s.List()[0].There = 77
	expect(t, s, "9", 1, 0)
}

func TestNoStock(t *testing.T) { // R1
	for _, s := range []*stock.Stock{nil, {}} {
		for _, f := range []func(string, int) int{s.Add, s.Take, s.Hold, s.Free, s.Out} {
			if f("a", 1) != api.ResNone || f("", 0) != api.ResNone {
				t.Error("a call")
			}
		}
		x, is := s.Get("a")
		if is || x != (api.Sku{}) || s.Put(api.Sku{Name: "a"}) != api.ResNone || s.Drop("a") != api.ResNone || s.Len() != 0 || s.List() != nil {
			t.Error("the others")
		}
	}
}

func TestAccounts(t *testing.T) { // P7.6, P7.7
	r := rand.New(rand.NewSource(1))
	s := stock.New()
	there, held := map[string]int{}, map[string]int{}
	for range 20000 {
		sku, n := name(r.Intn(20)), 1+r.Intn(20)
		was, had := s.Get(sku)
		before := s.List()
		code, f := 0, r.Intn(5)
		switch f {
		case 0:
			code = s.Add(sku, n)
		case 1:
			code = s.Take(sku, n)
		case 2:
			code = s.Hold(sku, n)
		case 3:
			code = s.Free(sku, n)
		case 4:
			code = s.Out(sku, n)
		}
		switch {
		case code != api.ResOK && !slices.Equal(before, s.List()):
			t.Fatal("a refused call changed something", f, code)
		case code != api.ResOK:
			continue
		case r.Intn(2) == 0 && had:
			s.Put(was)
		case r.Intn(2) == 0 && !had:
			s.Drop(sku)
		default:
			there[sku] += [5]int{n, -n, 0, 0, -n}[f]
			held[sku] += [5]int{0, 0, n, -n, -n}[f]
			continue
		}
		if !slices.Equal(before, s.List()) {
			t.Fatal("the previous state was not restored")
		}
	}
	for _, x := range s.List() {
		if x.There != there[x.Name] || x.Held != held[x.Name] || x.Held > x.There || x.Held < 0 {
			t.Error(x)
		}
	}
	if s.Len() != 16 {
		t.Error(s.Len())
	}
}
