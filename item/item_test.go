package item_test

import (
	"bytes"
	"math"
	"math/rand"
	"slices"
	"strings"
	"testing"

	"gimbal/api"
	"gimbal/item"
)

func lines(names ...string) []api.Line {
	var l []api.Line
	for i, n := range names {
		l = append(l, api.Line{Sku: n, N: i + 1})
	}
	return l
}

func TestName(t *testing.T) { // P3.1
	for s, want := range map[string]bool{
		"a": true, "ab12": true, "0": true, "abcdefgh": true, "z9z9z9z9": true,
		"": false, "abcdefghi": false, "A": false, "a b": false, "a-": false, "ä": false, "a\x00": false, "`": false, "{": false, "/": false, ":": false,
	} {
		if item.Name(s) != want {
			t.Errorf("%q", s)
		}
	}
}

var valid = []api.Op{
	{Kind: api.OpRestock, Sku: "ab", N: 1},
	{Kind: api.OpRestock, Sku: "ab", N: api.MaxQty},
	{Kind: api.OpAdjust, Sku: "a", N: -api.MaxQty},
	{Kind: api.OpAdjust, Sku: "a", N: api.MaxQty},
	{Kind: api.OpAdjust, Sku: "a", N: -1},
	{Kind: api.OpReserve, Order: 7, N: 9, Lines: lines("a", "b")},
	{Kind: api.OpReserve, Order: api.MaxQty, N: api.MaxQty, Lines: []api.Line{{Sku: "abcdefgh", N: api.MaxQty}, {Sku: "b", N: 1}, {Sku: "c", N: 1}, {Sku: "d", N: 1}}},
	{Kind: api.OpConfirm, Order: 1},
	{Kind: api.OpCancel, Order: api.MaxQty},
	{Kind: api.OpShip, Order: 5},
	{Kind: api.OpOrder, Order: 5},
	{Kind: api.OpExpire, N: 200},
	{Kind: api.OpExpire, N: api.MaxQty},
	{Kind: api.OpSku, Sku: "a"},
	{Kind: api.OpSku, Sku: "a", Lines: []api.Line{}},
}

var invalid = []api.Op{
	{},
	{Kind: -1, Sku: "a", N: 1},
	{Kind: api.LastOp + 1, Order: 1},
	{Kind: math.MaxInt},
	{Kind: math.MinInt},
	{Kind: api.OpRestock, Sku: "ab"},
	{Kind: api.OpRestock, Sku: "ab", N: -1},
	{Kind: api.OpRestock, Sku: "ab", N: api.MaxQty + 1},
	{Kind: api.OpRestock, N: 1},
	{Kind: api.OpRestock, Sku: "A", N: 1},
	{Kind: api.OpRestock, Sku: "a", N: 1, Order: 1},
	{Kind: api.OpRestock, Sku: "a", N: 1, Lines: lines("a")},
	{Kind: api.OpAdjust, Sku: "a"},
	{Kind: api.OpAdjust, Sku: "a", N: api.MaxQty + 1},
	{Kind: api.OpAdjust, Sku: "a", N: -api.MaxQty - 1},
	{Kind: api.OpAdjust, Sku: "a", N: math.MinInt},
	{Kind: api.OpReserve, Order: 7, N: 9},
	{Kind: api.OpReserve, Order: 0, N: 9, Lines: lines("a")},
	{Kind: api.OpReserve, Order: 7, N: 0, Lines: lines("a")},
	{Kind: api.OpReserve, Order: api.MaxQty + 1, N: 9, Lines: lines("a")},
	{Kind: api.OpReserve, Order: 7, N: api.MaxQty + 1, Lines: lines("a")},
	{Kind: api.OpReserve, Order: 7, N: 9, Lines: lines("a", "b", "a")},
	{Kind: api.OpReserve, Order: 7, N: 9, Lines: lines("a", "b", "c", "d", "e")},
	{Kind: api.OpReserve, Order: 7, N: 9, Lines: lines("a", "")},
	{Kind: api.OpReserve, Order: 7, N: 9, Lines: []api.Line{{Sku: "a"}}},
	{Kind: api.OpReserve, Order: 7, N: 9, Lines: []api.Line{{Sku: "a", N: api.MaxQty + 1}}},
	{Kind: api.OpReserve, Order: 7, N: 9, Sku: "a", Lines: lines("a")},
	{Kind: api.OpConfirm},
	{Kind: api.OpCancel, Order: -1},
	{Kind: api.OpShip, Order: 5, N: 1},
	{Kind: api.OpShip, Order: api.MaxQty + 1},
	{Kind: api.OpOrder, Order: 5, Sku: "a"},
	{Kind: api.OpExpire},
	{Kind: api.OpExpire, N: api.MaxQty + 1},
	{Kind: api.OpExpire, N: 1, Order: 1},
	{Kind: api.OpSku},
	{Kind: api.OpSku, Sku: "a", N: 1},
	{Kind: api.OpConfirm, Order: 1, Lines: lines("a")},
}

func TestCheck(t *testing.T) { // P3.1
	for _, o := range valid {
		if item.Check(o) != api.OK {
			t.Error("refused", o)
		}
	}
	for _, o := range invalid {
		if item.Check(o) != api.ErrArg {
			t.Error("accepted", o)
		}
		if b, e := item.Bytes(o); b != nil || e != api.ErrArg {
			t.Error("encoded", o)
		}
	}
}

func TestBytes(t *testing.T) { // P3.1, P3.5
	for _, c := range []struct {
		o    api.Op
		want string
	}{
		{api.Op{Kind: api.OpRestock, Sku: "ab", N: 300}, "\x01\x02ab\xac\x02"},
		{api.Op{Kind: api.OpReserve, Order: 7, N: 9, Lines: lines("a", "b")}, "\x03\x07\x09\x02\x01a\x01\x01b\x02"},
		{api.Op{Kind: api.OpAdjust, Sku: "a", N: -1}, "\x02\x01a\x01"},
		{api.Op{Kind: api.OpShip, Order: 5}, "\x06\x05"},
		{api.Op{Kind: api.OpExpire, N: 200}, "\x07\xc8\x01"},
		{api.Op{Kind: api.OpSku, Sku: "a"}, "\x08\x01a"},
		{api.Op{Kind: api.OpOrder, Order: 300}, "\x09\xac\x02"},
	} {
		b, e := item.Bytes(c.o)
		if string(b) != c.want || e != api.OK {
			t.Errorf("%v: %x, %d", c.o, b, e)
		}
	}
	for _, o := range valid {
		b, e := item.Bytes(o)
		back, f := item.Parse(b)
		if e != api.OK || f != api.OK || !item.Same(back, o) {
			t.Error(o, back, e, f)
		}
	}
}

func TestParseErrors(t *testing.T) { // P3.2
	for b, want := range map[string]api.Errno{
		"":                                   api.ErrTrunc,
		"\x00":                               api.ErrForm,
		"\x0a":                               api.ErrForm,
		"\x06":                               api.ErrTrunc,
		"\x06\x05\x00":                       api.ErrForm,
		"\x06\x00":                           api.ErrForm,
		"\x06\x80\x00":                       api.ErrForm,
		"\x06\x80\x80\x80\x80\x08":           api.ErrForm,  // 2^31
		"\x06" + string(bytesOfMax(10)):      api.ErrForm,  // 2^64 - 1
		"\x06" + string(bytesOfMax(11)):      api.ErrRange, // more than 64 bits
		"\x01\x02a":                          api.ErrTrunc,
		"\x01\x01A\x01":                      api.ErrForm,
		"\x01\x01a\x00":                      api.ErrForm,
		"\x02\x01a\x00":                      api.ErrForm,
		"\x03\x07\x09\x00":                   api.ErrForm,
		"\x03\x07\x09\x02\x01a\x01":          api.ErrTrunc,
		"\x03\x07\x09\x02\x01a\x01\x01a\x02": api.ErrForm,
		"\x03\x07\x09\x05" + someLines(5):    api.ErrForm,
		"\x03\x07\x09\x05" + someLines(4):    api.ErrTrunc,
		"\x03\x07\x09\x06" + someLines(5):    api.ErrForm, // no sixth is looked for
		"\x03\x07\x09\xff\x7f" + someLines(5) + "\xff":  api.ErrForm,
		"\x03\x07\x09\x04" + someLines(4) + "\x01e\x01": api.ErrForm,
		"\x03\x07\x09\x80\x00" + someLines(4):           api.ErrForm,
		"\x03\x07\x09\x81":                              api.ErrTrunc,
	} {
		if o, e := item.Parse([]byte(b)); e != want || !item.Same(o, api.Op{}) {
			t.Errorf("%x: %v, %d", b, o, e)
		}
	}
}

// bytesOfMax is a varint of ones; with more than ten bytes it has more than 64 bits.
func bytesOfMax(n int) []byte {
	if n > 10 {
		return bytes.Repeat([]byte{0xFF}, 10)
	}
	return append(bytes.Repeat([]byte{0xFF}, 9), 1)
}

func someLines(n int) string {
	s := strings.Builder{}
	for i := range n {
		s.WriteString("\x01" + string(rune('a'+i)) + "\x01")
	}
	return s.String()
}

func TestSame(t *testing.T) { // P3.3
	o := api.Op{Kind: 3, Sku: "a", Order: 1, N: 2, Lines: lines("a", "b")}
	if !item.Same(o, item.Copy(o)) {
		t.Error("a copy")
	}
	for _, x := range []api.Op{
		{Kind: 4, Sku: "a", Order: 1, N: 2, Lines: lines("a", "b")},
		{Kind: 3, Sku: "b", Order: 1, N: 2, Lines: lines("a", "b")},
		{Kind: 3, Sku: "a", Order: 2, N: 2, Lines: lines("a", "b")},
		{Kind: 3, Sku: "a", Order: 1, N: 3, Lines: lines("a", "b")},
		{Kind: 3, Sku: "a", Order: 1, N: 2, Lines: lines("a")},
		{Kind: 3, Sku: "a", Order: 1, N: 2, Lines: lines("b", "a")},
		{Kind: 3, Sku: "a", Order: 1, N: 2, Lines: []api.Line{{Sku: "a", N: 1}, {Sku: "b", N: 3}}},
		{Kind: 3, Sku: "a", Order: 1, N: 2},
	} {
		if item.Same(o, x) || item.Same(x, o) {
			t.Error(x)
		}
	}
	if !item.Same(api.Op{Lines: []api.Line{}}, api.Op{}) {
		t.Error("nil and empty lists are the same")
	}
}

func TestResults(t *testing.T) { // P3.1, P3.2, P3.5
	for _, r := range []api.Res{{}, {Code: api.LastRes, A: api.MaxQty, B: api.MaxQty}, {Code: 1, A: 300, B: 7}} {
		b, e := item.BytesRes(r)
		back, f := item.ParseRes(b)
		if item.CheckRes(r) != api.OK || e != api.OK || f != api.OK || back != r {
			t.Error(r, b, e, f)
		}
	}
	if b, _ := item.BytesRes(api.Res{Code: 1, A: 300, B: 7}); string(b) != "\x01\xac\x02\x07" {
		t.Errorf("%x", b)
	}
	for _, r := range []api.Res{{Code: -1}, {Code: api.LastRes + 1}, {A: -1}, {B: -1}, {A: api.MaxQty + 1}, {B: api.MaxQty + 1}, {A: math.MinInt}, {B: math.MaxInt}} {
		b, e := item.BytesRes(r)
		if item.CheckRes(r) != api.ErrArg || b != nil || e != api.ErrArg {
			t.Error(r, b, e)
		}
	}
	for b, want := range map[string]api.Errno{
		"": api.ErrTrunc, "\x00\x00": api.ErrTrunc, "\x00\x00\x00\x00": api.ErrForm, "\x07\x00\x00": api.ErrForm, "\x00\x80\x00\x00": api.ErrForm,
		"\x00\x80\x80\x80\x80\x08\x00": api.ErrForm, "\x00\x00" + string(bytesOfMax(11)): api.ErrRange, "\x00\x00" + string(bytesOfMax(10)): api.ErrForm,
	} {
		if r, e := item.ParseRes([]byte(b)); e != want || r != (api.Res{}) {
			t.Errorf("%x: %v, %d", b, r, e)
		}
	}
}

func TestOwnMemory(t *testing.T) { // P3.3, P3.4
	room := append(make([]api.Line, 0, 8), lines("a", "b")...)
	o := api.Op{Kind: 3, Order: 1, N: 2, Lines: room}
	c := item.Copy(o)
	c.Lines[0].Sku = "x"
	_ = append(c.Lines, api.Line{Sku: "y"})
	if room[0].Sku != "a" || room[:3][2].Sku != "" {
		t.Error("a copy shares memory")
	}
	b, _ := item.Bytes(o)
	back, _ := item.Parse(b)
	kept := slices.Clone(b)
	b[len(b)-1] = 9
	if again, _ := item.Bytes(back); !bytes.Equal(again, kept) {
		t.Error("Parse shares memory")
	}
}

func TestOneEncoding(t *testing.T) { // P3.5
	r := rand.New(rand.NewSource(1))
	parsed := 0
	for range 50000 {
		o := valid[r.Intn(len(valid))]
		b, _ := item.Bytes(o)
		for range 1 + r.Intn(2) {
			b[r.Intn(len(b))] = byte(r.Intn(256))
		}
		if o, e := item.Parse(b); e == api.OK {
			parsed++
			if again, f := item.Bytes(o); f != api.OK || !bytes.Equal(again, b) {
				t.Fatalf("%x is another encoding of %v", b, o)
			}
		}
	}
	if parsed < 1000 {
		t.Error("only", parsed, "were parsed")
	}
}
