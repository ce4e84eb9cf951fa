package entry_test

import (
	"bytes"
	"math"
	"math/rand"
	"testing"

	"gimbal/api"
	"gimbal/entry"
)

func ship(client, num, order int) api.Entry {
	return api.Entry{Client: client, Num: num, Op: api.Op{Kind: api.OpShip, Order: order}}
}

func reserve(client, num int) api.Entry {
	return api.Entry{Client: client, Num: num, Op: api.Op{Kind: api.OpReserve, Order: 7, N: 9, Lines: []api.Line{{Sku: "a", N: 1}, {Sku: "b", N: 2}}}}
}

func TestCheck(t *testing.T) { // P4.1
	for _, x := range []api.Entry{ship(0, 1, 5), ship(7, api.MaxQty, 5), reserve(2, 300)} {
		b, e := entry.Bytes(x)
		back, f := entry.Parse(b)
		if entry.Check(x) != api.OK || e != api.OK || f != api.OK || !entry.Same(back, x) {
			t.Error(x, b, e, f)
		}
	}
	for _, x := range []api.Entry{{}, ship(-1, 1, 5), ship(8, 1, 5), ship(0, 0, 5), ship(0, -1, 5), ship(0, api.MaxQty+1, 5), ship(0, 1, 0), {Client: 1, Num: 1}, ship(math.MinInt, math.MaxInt, 1)} {
		b, e := entry.Bytes(x)
		if entry.Check(x) != api.ErrArg || b != nil || e != api.ErrArg {
			t.Error(x, b, e)
		}
	}
}

func TestBytes(t *testing.T) { // P4.1, P4.3
	if b, _ := entry.Bytes(ship(2, 300, 5)); string(b) != "\x02\xac\x02\x06\x05" {
		t.Errorf("%x", b)
	}
	if b, _ := entry.Row([]api.Entry{ship(2, 300, 5)}); string(b) != "\x01\x05\x02\xac\x02\x06\x05" {
		t.Errorf("%x", b)
	}
	if b, e := entry.Row(nil); string(b) != "\x00" || e != api.OK {
		t.Errorf("%x", b)
	}
}

func TestParseErrors(t *testing.T) { // P4.1
	for b, want := range map[string]api.Errno{
		"":                     api.ErrTrunc,
		"\x02":                 api.ErrTrunc,
		"\x02\x80\x00\x06\x05": api.ErrForm,
		"\x02\xff\xff\xff\xff\xff\xff\xff\xff\xff\x02\x06": api.ErrRange,
		"\x02\x01":                         api.ErrTrunc, // no operation
		"\x02\x01\x06":                     api.ErrTrunc,
		"\x02\x01\x06\x05\x00":             api.ErrForm,
		"\x02\x01\x0a":                     api.ErrForm,
		"\x08\x01\x06\x05":                 api.ErrForm,
		"\x02\x00\x06\x05":                 api.ErrForm,
		"\x02\x80\x80\x80\x80\x08\x06":     api.ErrTrunc, // the operation is read before the Num is judged
		"\x02\x80\x80\x80\x80\x08\x06\x05": api.ErrForm,
		"\x02\xff\xff\xff\xff\xff\xff\xff\xff\xff\x01\x06\x05": api.ErrForm,
	} {
		if x, e := entry.Parse([]byte(b)); e != want || !entry.Same(x, api.Entry{}) {
			t.Errorf("%x: %v, %d", b, x, e)
		}
	}
}

func TestSame(t *testing.T) { // P4.2
	x := reserve(2, 3)
	if !entry.Same(x, entry.Copy(x)) {
		t.Error("a copy")
	}
	other := reserve(2, 3)
	other.Op.Lines[1].N = 3
	for _, y := range []api.Entry{reserve(1, 3), reserve(2, 4), ship(2, 3, 5), other} {
		if entry.Same(x, y) || entry.Same(y, x) {
			t.Error(y)
		}
	}
}

func TestRows(t *testing.T) { // P4.3, P4.5
	for n := range 30 {
		var l []api.Entry
		for i := range n {
			l = append(l, ship(i%8, i+1, 5), reserve(i%8, i+1))
		}
		b, e := entry.Row(l)
		back, f := entry.Rows(b)
		if e != api.OK || f != api.OK || !entry.SameRow(back, l) {
			t.Fatal(n, e, f)
		}
	}
	if b, e := entry.Row([]api.Entry{ship(1, 1, 1), ship(1, 0, 1), {}}); b != nil || e != api.ErrArg {
		t.Error(b, e)
	}
	for b, want := range map[string]api.Errno{
		"":                             api.ErrTrunc,
		"\x80\x00":                     api.ErrForm,
		"\x01":                         api.ErrTrunc,
		"\x01\x05\x02\xac\x02\x06":     api.ErrTrunc,
		"\x01\x04\x02\xac\x02\x06":     api.ErrTrunc,
		"\x01\x00":                     api.ErrTrunc,
		"\x01\x04\x08\x01\x06\x05":     api.ErrForm,
		"\x01\x04\x02\x01\x06\x05\x00": api.ErrForm,
		"\x00\x00":                     api.ErrForm,
		"\x02\x04\x02\x01\x06\x05":     api.ErrTrunc,
		"\x02\x04\x08\x01\x06\x05":     api.ErrForm, // the first entry is read before the second is missed
		"\xff\xff\xff\xff\xff\xff\xff\xff\xff\x01\x04\x02\x01\x06\x05": api.ErrTrunc,
		"\xff\xff\xff\xff\xff\xff\xff\xff\xff\x02":                     api.ErrRange,
	} {
		if l, e := entry.Rows([]byte(b)); e != want || l != nil {
			t.Errorf("%x: %v, %d", b, l, e)
		}
	}
}

func TestSameRow(t *testing.T) { // P4.3
	l := []api.Entry{ship(1, 1, 1), reserve(2, 2)}
	if !entry.SameRow(l, []api.Entry{ship(1, 1, 1), reserve(2, 2)}) || !entry.SameRow(nil, []api.Entry{}) {
		t.Error("the same")
	}
	for _, m := range [][]api.Entry{nil, l[:1], l[1:], {l[1], l[0]}, {l[0], l[1], l[1]}, {l[0], reserve(2, 3)}} {
		if entry.SameRow(l, m) || entry.SameRow(m, l) {
			t.Error(m)
		}
	}
}

func TestOwnMemory(t *testing.T) { // P4.2, P4.4
	x := reserve(2, 3)
	c := entry.Copy(x)
	c.Op.Lines[0].Sku = "x"
	if x.Op.Lines[0].Sku != "a" {
		t.Error("a copy shares memory")
	}
	b, _ := entry.Row([]api.Entry{x, x})
	l, _ := entry.Rows(b)
	clear(b)
	l[0].Op.Lines[0].Sku = "x"
	if !entry.Same(l[1], x) {
		t.Error("Rows shares memory")
	}
}

func TestOneEncoding(t *testing.T) { // P4.5
	r := rand.New(rand.NewSource(1))
	parsed := 0
	for range 30000 {
		b, _ := entry.Row([]api.Entry{ship(r.Intn(8), 1+r.Intn(400), 1+r.Intn(400)), reserve(1, 1)})
		b[r.Intn(len(b))] = byte(r.Intn(256))
		l, e := entry.Rows(b)
		if e != api.OK {
			continue
		}
		parsed++
		if again, f := entry.Row(l); f != api.OK || !bytes.Equal(again, b) {
			t.Fatalf("%x is another encoding of %v", b, l)
		}
	}
	if parsed < 500 {
		t.Error("only", parsed, "were parsed")
	}
}
