package shop_test

import (
	"bytes"
	"math"
	"math/rand"
	"reflect"
	"slices"
	"strconv"
	"testing"

	"gimbal/api"
	"gimbal/shop"
)

func restock(sku string, n int) api.Op { return api.Op{Kind: api.OpRestock, Sku: sku, N: n} }
func adjust(sku string, n int) api.Op  { return api.Op{Kind: api.OpAdjust, Sku: sku, N: n} }
func tell(sku string) api.Op           { return api.Op{Kind: api.OpSku, Sku: sku} }
func expire(n int) api.Op              { return api.Op{Kind: api.OpExpire, N: n} }
func on(kind, id int) api.Op           { return api.Op{Kind: kind, Order: id} }

func reserve(id, till int, lines ...api.Line) api.Op {
	return api.Op{Kind: api.OpReserve, Order: id, N: till, Lines: lines}
}

func line(sku string, n int) api.Line { return api.Line{Sku: sku, N: n} }

func ok(ab ...int) api.Res {
	r := api.Res{}
	for i, n := range ab {
		*[...]*int{&r.A, &r.B}[i] = n
	}
	return r
}

func no(code int) api.Res { return api.Res{Code: code} }

type step struct {
	o    api.Op
	want api.Res
}

func run(t *testing.T, s *shop.Shop, steps ...step) {
	t.Helper()
	for i, c := range steps {
		before, count := s.Bytes(), s.Count()
		r, u := s.Do(c.o)
		if r != c.want || s.Count() != count+1 || u.Seq != count+1 {
			t.Errorf("%d: %v: %v, %v", i, c.o, r, u)
		}
		if r.Code != api.ResOK && (!bytes.Equal(before, s.Bytes()) || len(u.Skus)+len(u.Orders) > 0) {
			t.Errorf("%d: %v changed something", i, c.o)
		}
	}
}

func TestExample(t *testing.T) { // P9.1
	s := shop.New()
	if string(s.Bytes()) != "\x00\x00\x00" || s.Back(api.Undo{}) != api.ErrUndo || s.Time() != 0 || s.Count() != 0 {
		t.Errorf("%x", s.Bytes())
	}
	run(t, s,
		step{restock("a", 5), ok(5)},
		step{reserve(1, 9, line("a", 2), line("b", 1)), api.Res{Code: api.ResNone, A: 2}},
		step{reserve(1, 9, line("a", 2)), ok(1)},
		step{tell("a"), ok(5, 2)},
		step{on(api.OpShip, 1), no(api.ResState)},
		step{on(api.OpConfirm, 1), ok()},
		step{on(api.OpShip, 1), ok()},
		step{tell("a"), ok(3, 0)},
	)
}

func TestEffects(t *testing.T) { // P9.1
	s := shop.New()
	run(t, s,
		step{adjust("a", 1), no(api.ResNone)},
		step{adjust("a", -1), no(api.ResNone)},
		step{restock("a", api.MaxQty), ok(api.MaxQty)},
		step{restock("a", 1), no(api.ResOver)},
		step{adjust("a", 1), no(api.ResOver)},
		step{adjust("a", -api.MaxQty), ok(0)},
		step{adjust("a", -1), no(api.ResShort)},
		step{adjust("a", 10), ok(10)},
		step{adjust("a", -3), ok(7)},
		step{restock("b", 4), ok(4)},
		step{reserve(5, 3, line("a", 7), line("b", 5)), api.Res{Code: api.ResShort, A: 2}},
		step{reserve(5, 3, line("a", 8), line("c", 1)), api.Res{Code: api.ResShort, A: 1}},
		step{tell("a"), ok(7, 0)},
		step{reserve(5, 3, line("a", 7), line("b", 2)), ok(1)},
		step{reserve(5, 3, line("a", 9)), no(api.ResTwice)},
		step{adjust("a", -1), no(api.ResShort)},
		step{reserve(4, 8, line("b", 1)), ok(2)},
		step{reserve(6, 8, line("b", 1)), ok(3)},
		step{on(api.OpOrder, 4), ok(api.OrderOpen, 8)},
		step{on(api.OpConfirm, 4), ok()},
		step{on(api.OpConfirm, 4), no(api.ResState)},
		step{on(api.OpOrder, 4), ok(api.OrderSure, 8)},
		step{expire(2), ok(0)},
		step{expire(1), no(api.ResState)},
		step{expire(2), ok(0)},
		step{reserve(7, 2, line("b", 1)), no(api.ResState)},
		step{reserve(5, 2, line("b", 1)), no(api.ResTwice)},
		step{expire(8), ok(2)},
		step{tell("b"), ok(4, 1)},
		step{tell("a"), ok(7, 0)},
		step{on(api.OpOrder, 5), no(api.ResNone)},
		step{on(api.OpConfirm, 5), no(api.ResNone)},
		step{on(api.OpCancel, 5), no(api.ResNone)},
		step{on(api.OpShip, 5), no(api.ResNone)},
		step{tell("c"), no(api.ResNone)},
		step{on(api.OpCancel, 4), ok(api.OrderSure)},
		step{tell("b"), ok(4, 0)},
		step{reserve(9, 9, line("b", 4)), ok(1)},
		step{on(api.OpCancel, 9), ok(api.OrderOpen)},
	)
	if s.Time() != 8 || len(s.Orders()) != 0 || !slices.Equal(s.Skus(), []api.Sku{{Name: "a", There: 7}, {Name: "b", There: 4}}) {
		t.Error(s.Time(), s.Orders(), s.Skus())
	}
}

func TestLimits(t *testing.T) { // P9.1
	s := shop.New()
	for i := range 16 {
		run(t, s, step{restock("s"+strconv.Itoa(i), 99), ok(99)})
	}
	run(t, s, step{restock("t", 1), no(api.ResFull)})
	for i := range 32 {
		run(t, s, step{reserve(i+1, 5, line("s1", 1)), ok(i + 1)})
	}
	run(t, s, step{reserve(40, 5, line("s1", 1)), no(api.ResFull)}, step{reserve(40, 5, line("none", 1)), no(api.ResFull)}, step{reserve(3, 5, line("s1", 1)), no(api.ResTwice)})
	run(t, s, step{expire(5), ok(32)}, step{reserve(40, 5, line("s1", 1)), no(api.ResState)})
}

func TestInvalidOps(t *testing.T) { // P9.1
	s := shop.New()
	for _, o := range []api.Op{{}, {Kind: -1}, {Kind: api.LastOp + 1}, {Kind: math.MaxInt}, restock("A", 1), restock("a", 0), adjust("a", 0), reserve(1, 9), on(api.OpShip, 0), expire(0), expire(-1), {Kind: api.OpShip, Order: 1, N: 1}} {
		run(t, s, step{o, no(api.ResState)})
	}
}

func TestUndoRecords(t *testing.T) { // P9.1
	s := shop.New()
	do := func(o api.Op) api.Undo {
		_, u := s.Do(o)
		return u
	}
	lines := []api.Line{line("b", 2), line("a", 1)}
	for i, c := range []struct {
		o    api.Op
		want api.Undo
	}{
		{restock("a", 5), api.Undo{Seq: 1, Skus: []api.SkuWas{{Sku: api.Sku{Name: "a"}}}}},
		{restock("a", 5), api.Undo{Seq: 2, Skus: []api.SkuWas{{Had: true, Sku: api.Sku{Name: "a", There: 5}}}}},
		{restock("b", 7), api.Undo{Seq: 3, Skus: []api.SkuWas{{Sku: api.Sku{Name: "b"}}}}},
		{expire(4), api.Undo{Seq: 4}},
		{tell("a"), api.Undo{Seq: 5, Now: 4}},
		{api.Op{}, api.Undo{Seq: 6, Now: 4}},
		{reserve(9, 8, lines...), api.Undo{Seq: 7, Now: 4,
			Skus:   []api.SkuWas{{Had: true, Sku: api.Sku{Name: "b", There: 7}}, {Had: true, Sku: api.Sku{Name: "a", There: 10}}},
			Orders: []api.OrderWas{{Order: api.Order{Id: 9}}}}},
		{reserve(8, 9, line("b", 1)), api.Undo{Seq: 8, Now: 4,
			Skus:   []api.SkuWas{{Had: true, Sku: api.Sku{Name: "b", There: 7, Held: 2}}},
			Orders: []api.OrderWas{{Order: api.Order{Id: 8}}}}},
		{reserve(7, 9, line("b", 1), line("a", 99)), api.Undo{Seq: 9, Now: 4}},
		{expire(9), api.Undo{Seq: 10, Now: 4,
			Skus:   []api.SkuWas{{Had: true, Sku: api.Sku{Name: "b", There: 7, Held: 3}}, {Had: true, Sku: api.Sku{Name: "a", There: 10, Held: 1}}},
			Orders: []api.OrderWas{{Had: true, Order: api.Order{Id: 9, Till: 8, Stands: 1, Lines: lines}}, {Had: true, Order: api.Order{Id: 8, Till: 9, Stands: 1, Lines: []api.Line{line("b", 1)}}}}}},
		{reserve(5, 10, line("a", 3)), api.Undo{Seq: 11, Now: 9, Skus: []api.SkuWas{{Had: true, Sku: api.Sku{Name: "a", There: 10}}}, Orders: []api.OrderWas{{Order: api.Order{Id: 5}}}}},
		{on(api.OpConfirm, 5), api.Undo{Seq: 12, Now: 9, Orders: []api.OrderWas{{Had: true, Order: api.Order{Id: 5, Till: 10, Stands: 1, Lines: []api.Line{line("a", 3)}}}}}},
		{on(api.OpShip, 5), api.Undo{Seq: 13, Now: 9, Skus: []api.SkuWas{{Had: true, Sku: api.Sku{Name: "a", There: 10, Held: 3}}},
			Orders: []api.OrderWas{{Had: true, Order: api.Order{Id: 5, Till: 10, Stands: 2, Lines: []api.Line{line("a", 3)}}}}}},
		{adjust("a", -7), api.Undo{Seq: 14, Now: 9, Skus: []api.SkuWas{{Had: true, Sku: api.Sku{Name: "a", There: 7}}}}},
	} {
		if u := do(c.o); !reflect.DeepEqual(u, c.want) {
			t.Errorf("%d: %v", i, u)
		}
	}
}

// busy has two skus, three orders, and the time 4.
func busy() *shop.Shop {
	s := shop.New()
	for _, o := range []api.Op{restock("a", 10), restock("b", 10), expire(4), reserve(1, 6, line("a", 2), line("b", 1)), reserve(2, 5, line("a", 3)), reserve(3, 9, line("b", 4)), on(api.OpConfirm, 2)} {
		s.Do(o)
	}
	return s
}

func TestBackErrors(t *testing.T) { // P9.2
	good := func() (*shop.Shop, api.Undo) {
		s := busy()
		_, u := s.Do(on(api.OpCancel, 1))
		return s, u
	}
	for name, spoil := range map[string]func(*api.Undo){
		"seq too great":      func(u *api.Undo) { u.Seq++ },
		"seq too small":      func(u *api.Undo) { u.Seq-- },
		"seq 0":              func(u *api.Undo) { u.Seq = 0 },
		"negative time":      func(u *api.Undo) { u.Now = -1 },
		"time too great":     func(u *api.Undo) { u.Now = api.MaxQty + 1 },
		"an order is due":    func(u *api.Undo) { u.Now = 6 },
		"held differs":       func(u *api.Undo) { u.Skus[0].Sku.Held++ },
		"sku missing":        func(u *api.Undo) { u.Skus = u.Skus[:1] },
		"order missing":      func(u *api.Undo) { u.Orders = nil },
		"sku invalid":        func(u *api.Undo) { u.Skus[0].Sku.There = 1 },
		"sku without a name": func(u *api.Undo) { u.Skus = append(u.Skus, api.SkuWas{Had: true}) },
		"earlier sku invalid": func(u *api.Undo) {
			u.Skus = append([]api.SkuWas{{Had: true, Sku: api.Sku{Name: "a", There: -1}}}, u.Skus...)
		},
		"order invalid":     func(u *api.Undo) { u.Orders[0].Order.Stands = 3 },
		"sku did not exist": func(u *api.Undo) { u.Skus[0].Had = false },
		"sku of a line did not exist": func(u *api.Undo) {
			u.Skus = []api.SkuWas{{Sku: api.Sku{Name: "a"}}, {Sku: api.Sku{Name: "b"}}}
			u.Orders = nil
		},
		"another order": func(u *api.Undo) { u.Orders[0].Order.Id = 3 },
		"too many skus": func(u *api.Undo) {
			for i := range 15 {
				u.Skus = append(u.Skus, api.SkuWas{Had: true, Sku: api.Sku{Name: "x" + strconv.Itoa(i)}})
			}
		},
	} {
		s, u := good()
		before, count := s.Bytes(), s.Count()
		spoil(&u)
		if s.Back(u) != api.ErrUndo || !bytes.Equal(before, s.Bytes()) || s.Count() != count {
			t.Error(name)
		}
	}
	s, u := good()
	want := busy()
	if s.Back(u) != api.OK || !bytes.Equal(s.Bytes(), want.Bytes()) || s.Count() != want.Count() || s.Back(u) != api.ErrUndo {
		t.Error("the right one, once")
	}
}

func sixteen() []api.Sku {
	var l []api.Sku
	for i := range 16 {
		l = append(l, api.Sku{Name: "x" + string(rune('a'+i)), There: i})
	}
	return l
}

func TestBackToAnyValidShop(t *testing.T) { // P9.2
	for name, c := range map[string]struct {
		change func(*api.Undo)
		skus   []api.Sku
	}{
		"another amount":        {func(u *api.Undo) { u.Skus = []api.SkuWas{{Had: true, Sku: api.Sku{Name: "a", There: 99}}} }, []api.Sku{{Name: "a", There: 99}}},
		"nothing":               {func(u *api.Undo) { u.Skus = nil }, []api.Sku{{Name: "a", There: 5}}},
		"the last entry counts": {func(u *api.Undo) { u.Skus = append(u.Skus, api.SkuWas{Had: true, Sku: api.Sku{Name: "a", There: 7}}) }, []api.Sku{{Name: "a", There: 7}}},
		"one entry is enough":   {func(u *api.Undo) { u.Skus = append(u.Skus, api.SkuWas{Sku: api.Sku{Name: "a", There: -7}}) }, []api.Sku{{Name: "a", There: 3}}},
		"none that existed":     {func(u *api.Undo) { u.Skus = []api.SkuWas{{Sku: api.Sku{Name: "a"}}, {Sku: api.Sku{Name: "A"}}} }, nil},
		"as many as there may be": {func(u *api.Undo) {
			u.Skus = []api.SkuWas{}
			for _, x := range sixteen() {
				u.Skus = append(u.Skus, api.SkuWas{Had: true, Sku: x})
			}
			u.Skus = append(u.Skus, api.SkuWas{Sku: api.Sku{Name: "a"}})
		}, sixteen()},
	} {
		s := shop.New()
		s.Do(restock("a", 3))
		_, u := s.Do(restock("a", 2))
		c.change(&u)
		if e := s.Back(u); e != api.OK || !slices.Equal(s.Skus(), c.skus) || s.Count() != 1 {
			t.Error(name, e, s.Skus())
		}
	}
}

func TestBytes(t *testing.T) { // P9.3, P9.4
	s := busy()
	want := "\x04\x02\x01a\x0a\x05\x01b\x0a\x05\x03\x01\x06\x01\x02\x01a\x02\x01b\x01\x02\x05\x02\x01\x01a\x03\x03\x09\x01\x01\x01b\x04"
	if string(s.Bytes()) != want {
		t.Errorf("%x", s.Bytes())
	}
	back, e := shop.Open(s.Bytes())
	if e != api.OK || !bytes.Equal(back.Bytes(), s.Bytes()) || back.Count() != 0 || back.Time() != 4 || !slices.Equal(back.Skus(), s.Skus()) || !reflect.DeepEqual(back.Orders(), s.Orders()) {
		t.Error(e)
	}
	if back.Back(api.Undo{Seq: 0, Now: 4}) != api.ErrUndo {
		t.Error("nothing can be undone after Open")
	}
}

func TestOpenErrors(t *testing.T) { // P9.3
	for b, want := range map[string]api.Errno{
		"":                                                            api.ErrTrunc,
		"\x00\x00":                                                    api.ErrTrunc,
		"\x00\x00\x00\x00":                                            api.ErrForm,
		"\x80\x00\x00\x00":                                            api.ErrForm,
		"\x80\x80\x80\x80\x08\x00\x00":                                api.ErrForm, // the time 2^31
		"\xff\xff\xff\xff\x07\x00\x00":                                api.OK,
		"\x00\x01\x01a\x05\x00\x00":                                   api.OK,
		"\x00\x01\x01a\x05\x01\x00":                                   api.ErrForm, // held for no order
		"\x00\x01\x01a\x05":                                           api.ErrTrunc,
		"\x00\x01\x01A\x05\x00\x00":                                   api.ErrForm,
		"\x00\x01\x00\x05\x00\x00":                                    api.ErrForm,
		"\x00\x02\x01b\x05\x00\x01a\x05":                              api.ErrTrunc,
		"\x00\x02\x01b\x00\x00\x01a\x00":                              api.ErrTrunc,
		"\x00\x02\x01b\x00\x00\x01a\x00\x00\x00":                      api.ErrForm, // not in order
		"\x00\x02\x01a\x00\x00\x01a\x00\x00\x00":                      api.ErrForm,
		"\x00\x02\x01a\x00\x00\x01b\x00\x00\x00":                      api.OK,
		"\x00\x00\x01\x01\x06\x01\x00":                                api.ErrForm, // an order without lines
		"\x00\x01\x01a\x05\x02\x01\x01\x06\x01\x01\x01a\x02":          api.OK,
		"\x05\x01\x01a\x05\x02\x01\x01\x06\x01\x01\x01a\x02":          api.OK,
		"\x06\x01\x01a\x05\x02\x01\x01\x06\x01\x01\x01a\x02":          api.ErrForm, // it is due
		"\x06\x01\x01a\x05\x02\x01\x01\x06\x02\x01\x01a\x02":          api.OK,      // it is sure
		"\x00\x01\x01a\x05\x01\x01\x01\x06\x01\x01\x01a\x02":          api.ErrForm,
		"\x00\x01\x01a\x05\x03\x01\x01\x06\x01\x01\x01a\x02":          api.ErrForm,
		"\x00\x01\x01a\x01\x02\x01\x01\x06\x01\x01\x01a\x02":          api.ErrForm, // more held than there
		"\x00\x01\x01a\x05\x02\x01\x01\x06\x03\x01\x01a\x02":          api.ErrForm,
		"\x00\x01\x01a\x05\x00\x01\x01\x06\x01\x01\x01b\x02":          api.ErrForm, // no such sku
		"\x00\x01\x01a\x05\x02\x01\x01\x06\x01\x01\x01a":              api.ErrTrunc,
		"\x00\x01\x01a\x05\x02\x01\x01\x06\x01\x02\x01a\x01\x01a\x01": api.ErrForm,
		"\x00\x01\x01a\x05\x03\x02\x02\x06\x01\x01\x01a\x02\x01\x06\x01\x01\x01a\x01": api.ErrForm, // not in order
		"\x00\x01\x01a\x05\x03\x02\x01\x06\x01\x01\x01a\x02\x02\x06\x01\x01\x01a\x01": api.OK,
		"\x00\xff\xff\xff\xff\xff\xff\xff\xff\xff\x01":                                api.ErrTrunc,
		"\x00\xff\xff\xff\xff\xff\xff\xff\xff\xff\x02":                                api.ErrRange,
		"\xff\xff\xff\xff\xff\xff\xff\xff\xff\x01\x00\x00":                            api.ErrForm,
		"\x00\x10" + skus(16) + "\x00":                                                api.OK,
		"\x00\x11" + skus(17) + "\x00":                                                api.ErrForm,
		"\x00\x11" + skus(17):                                                         api.ErrTrunc,
		"\x00\x12" + skus(17) + "\x00":                                                api.ErrForm, // no eighteenth is read
		"\x00\x01\x01a\x63\x20\x20" + orders(32):                                      api.OK,
		"\x00\x01\x01a\x63\x21\x21" + orders(33):                                      api.ErrForm,
		"\x00\x01\x01a\x63\x21\x22" + orders(33):                                      api.ErrForm, // no thirty-fourth is read
		"\x00\x01\x01a\x63\x21\x22" + orders(32):                                      api.ErrTrunc,
		"\x00\x00\x01\x01\x06\x01\x06" + manyLines(5):                                 api.ErrForm, // no sixth is read
		"\x00\x00\x01\x01\x06\x01\x06" + manyLines(4):                                 api.ErrTrunc,
	} {
		s, e := shop.Open([]byte(b))
		if e != want || (e == api.OK) != (s != nil) {
			t.Errorf("%x: %d", b, e)
		}
		if e == api.OK && string(s.Bytes()) != b {
			t.Errorf("%x: %x", b, s.Bytes())
		}
	}
}

func skus(n int) string {
	s := ""
	for i := range n {
		s += "\x01" + string(rune('a'+i)) + "\x00\x00"
	}
	return s
}

func orders(n int) string {
	s := ""
	for i := range n {
		s += string(rune(i+1)) + "\x06\x01\x01\x01a\x01"
	}
	return s
}

func manyLines(n int) string {
	s := ""
	for i := range n {
		s += "\x01" + string(rune('a'+i)) + "\x01"
	}
	return s
}

func TestNoShop(t *testing.T) { // R1
	for _, s := range []*shop.Shop{nil, {}} {
		r, u := s.Do(restock("a", 1))
		if r != no(api.ResNone) || !reflect.DeepEqual(u, api.Undo{}) || s.Back(api.Undo{Seq: 1}) != api.ErrNil || s.Bytes() != nil || s.Copy() != nil || s.Time() != 0 || s.Count() != 0 || s.Skus() != nil || s.Orders() != nil {
			t.Error("nothing")
		}
	}
}

func TestOwnMemory(t *testing.T) { // P9.3, P9.5
	s := busy()
	want := s.Bytes()
	o := reserve(7, 9, line("a", 1), line("b", 1))
	_, u := s.Do(o)
	o.Lines[0].Sku = "x"
	s.Orders()[0].Lines[0].Sku = "x"
	s.Skus()[0].There = 0
	c := s.Copy()
	for _, x := range []*shop.Shop{s, c} {
		if x.Back(u) != api.OK || !bytes.Equal(x.Bytes(), want) {
			t.Error("undo records are valid for a copy too")
		}
	}
	_, u = s.Do(on(api.OpCancel, 1))
	kept := u.Orders[0].Order.Lines
	if s.Back(u) != api.OK {
		t.Error("Back")
	}
	kept[0].Sku = "x"
	if !bytes.Equal(s.Bytes(), want) || !bytes.Equal(c.Bytes(), want) {
		t.Error("memory is shared")
	}
	c.Do(on(api.OpCancel, 2))
	if !bytes.Equal(s.Bytes(), want) {
		t.Error("a copy shares memory")
	}
}

func randomOp(r *rand.Rand) api.Op {
	sku := func() string { return string(rune('a' + r.Intn(18))) }
	id := 1 + r.Intn(40)
	switch r.Intn(12) {
	case 0, 1:
		return restock(sku(), 1+r.Intn(30))
	case 2:
		return adjust(sku(), r.Intn(30)-15)
	case 3, 4, 5, 6:
		var l []api.Line
		for range 1 + r.Intn(3) {
			l = append(l, line(sku(), 1+r.Intn(5)))
		}
		return reserve(id, 1+r.Intn(60), l...)
	case 7:
		return on(api.OpCancel, id)
	case 8:
		return on(api.OpShip, id)
	case 9:
		return expire(1 + r.Intn(25))
	case 10:
		return tell(sku())
	}
	return on(api.OpConfirm, id)
}

func TestUndoInReverse(t *testing.T) { // P9.6, P9.7
	r := rand.New(rand.NewSource(1))
	for range 60 {
		s := shop.New()
		var undos []api.Undo
		states := [][]byte{s.Bytes()}
		for range 300 {
			o := randomOp(r)
			twin, e := shop.Open(s.Bytes())
			if e != api.OK {
				t.Fatal(e)
			}
			res, u := s.Do(o)
			if again, _ := twin.Do(o); again != res || !bytes.Equal(twin.Bytes(), s.Bytes()) {
				t.Fatal("an opened shop does something else", o)
			}
			undos = append(undos, u)
			states = append(states, s.Bytes())
			if r.Intn(4) == 0 {
				for range r.Intn(len(undos)) {
					last := len(undos) - 1
					if s.Back(undos[last]) != api.OK || !bytes.Equal(s.Bytes(), states[last]) || s.Count() != last {
						t.Fatal("not undone")
					}
					undos, states = undos[:last], states[:last+1]
					if last%9 == 0 {
						break
					}
				}
			}
		}
	}
}

func TestNothingIsLost(t *testing.T) { // P9.7, P9.8
	r := rand.New(rand.NewSource(2))
	s := shop.New()
	there := map[string]int{}
	for range 5000 {
		o := randomOp(r)
		var gone []api.Line
		for _, x := range s.Orders() {
			if o.Kind == api.OpShip && x.Id == o.Order {
				gone = x.Lines
			}
		}
		if res, _ := s.Do(o); res.Code != api.ResOK {
			continue
		}
		for _, l := range gone {
			there[l.Sku] -= l.N
		}
		if o.Kind == api.OpRestock || o.Kind == api.OpAdjust {
			there[o.Sku] += o.N
		}
		for _, x := range s.Skus() {
			if x.There != there[x.Name] {
				t.Fatal(x, there[x.Name])
			}
		}
	}
	if len(s.Skus()) != 16 {
		t.Error(len(s.Skus()))
	}
}
