package record_test

import (
	"bytes"
	"math"
	"math/rand"
	"testing"

	"gimbal/api"
	"gimbal/bits"
	"gimbal/record"
	"gimbal/sum"
)

func ship(n int) api.Entry {
	return api.Entry{Client: 1, Num: n, Op: api.Op{Kind: api.OpShip, Order: 5}}
}

func reserve() api.Entry {
	return api.Entry{Client: 2, Num: 9, Op: api.Op{Kind: api.OpReserve, Order: 7, N: 9, Lines: []api.Line{{Sku: "a", N: 1}, {Sku: "b", N: 2}}}}
}

func ships(n int) []api.Entry {
	var l []api.Entry
	for i := range n {
		l = append(l, ship(i+1))
	}
	return l
}

const huge = api.MaxNumber

func valid() []api.Rec {
	return []api.Rec{
		{Kind: api.RecView, View: 300, Last: 1},
		{Kind: api.RecView},
		{Kind: api.RecView, View: 1, Last: huge, Entries: []api.Entry{}},
		{Kind: api.RecPut, Op: 1, Entry: ship(300)},
		{Kind: api.RecPut, Op: huge, Entry: reserve()},
		{Kind: api.RecBase},
		{Kind: api.RecBase, Op: huge, View: 2, Last: 1, Entries: []api.Entry{ship(1), reserve()}},
		{Kind: api.RecBase, Op: 1, View: huge, Last: huge, Entries: ships(24)},
	}
}

func TestCheck(t *testing.T) { // P14.1
	for _, r := range valid() {
		if record.Check(r) != api.OK {
			t.Error("refused", r)
		}
	}
	for _, r := range []api.Rec{
		{}, {Kind: -1}, {Kind: api.LastRec + 1}, {Kind: math.MaxInt, Op: 1}, {Kind: math.MinInt},
		{Kind: api.RecView, View: -1}, {Kind: api.RecView, Last: -1}, {Kind: api.RecView, View: huge + 1}, {Kind: api.RecView, Last: huge + 1},
		{Kind: api.RecView, Op: 1}, {Kind: api.RecView, Entry: ship(1)}, {Kind: api.RecView, Entries: ships(1)},
		{Kind: api.RecPut, Entry: ship(1)}, {Kind: api.RecPut, Op: -1, Entry: ship(1)}, {Kind: api.RecPut, Op: huge + 1, Entry: ship(1)}, {Kind: api.RecPut, Op: 1}, {Kind: api.RecPut, Op: 1, Entry: ship(0)},
		{Kind: api.RecPut, Op: 1, Entry: ship(1), View: 1}, {Kind: api.RecPut, Op: 1, Entry: ship(1), Last: 1}, {Kind: api.RecPut, Op: 1, Entry: ship(1), Entries: ships(1)},
		{Kind: api.RecBase, Op: -1}, {Kind: api.RecBase, Op: huge + 1}, {Kind: api.RecBase, View: -1}, {Kind: api.RecBase, Last: huge + 1}, {Kind: api.RecBase, Entry: ship(1)},
		{Kind: api.RecBase, Entries: ships(25)}, {Kind: api.RecBase, Entries: []api.Entry{ship(1), {}}},
	} {
		b, e := record.Bytes(r)
		if record.Check(r) != api.ErrArg || b != nil || e != api.ErrArg {
			t.Error("accepted", r)
		}
	}
}

// framed is a record with any body.
func framed(body string) []byte {
	b, _ := bits.Put(nil, 16, uint64(len(body)))
	b, _ = bits.Put(b, 16, 65535-uint64(len(body)))
	b = append(b, body...)
	b, _ = bits.Put(b, 32, uint64(sum.Crc(b)))
	return b
}

func TestBytes(t *testing.T) { // P14.1
	for _, c := range []struct {
		r    api.Rec
		want string
	}{
		{valid()[0], "\x01\xac\x02\x01"},
		{valid()[3], "\x02\x01\x01\xac\x02\x06\x05"},
		{valid()[5], "\x03\x00\x00\x00\x01\x00"},
		{api.Rec{Kind: api.RecBase, Op: 300, View: 3, Last: 2, Entries: []api.Entry{ship(300)}}, "\x03\xac\x02\x03\x02\x07\x01\x05\x01\xac\x02\x06\x05"},
	} {
		b, e := record.Bytes(c.r)
		if !bytes.Equal(b, framed(c.want)) || e != api.OK {
			t.Errorf("%v: %x, %d", c.r, b, e)
		}
	}
	b, _ := record.Bytes(valid()[0])
	if string(b[:8]) != "\x00\x04\xff\xfb\x01\xac\x02\x01" || len(b) != 12 {
		t.Errorf("%x", b)
	}
}

func concatenated() (b []byte, ends []int) {
	for _, r := range valid() {
		x, _ := record.Bytes(r)
		b = append(b, x...)
		ends = append(ends, len(b))
	}
	return b, ends
}

func scan(t *testing.T, b []byte, count, size int, want api.Errno) {
	t.Helper()
	l, whole, e := record.Scan(b)
	if len(l) != count || whole != size || e != want {
		t.Error(len(l), whole, e, "instead of", count, size, want)
		return
	}
	for i, r := range l {
		if !record.Same(r, valid()[i]) {
			t.Error(i, r)
		}
	}
}

func TestCutOffAnywhere(t *testing.T) { // P14.2, P14.4
	b, ends := concatenated()
	scan(t, nil, 0, 0, api.OK)
	for n := range len(b) + 1 {
		count, size := 0, 0
		for i, end := range ends {
			if end <= n {
				count, size = i+1, end
			}
		}
		scan(t, b[:n], count, size, api.OK)
	}
}

func TestFlips(t *testing.T) { // P14.2, P14.5
	b, ends := concatenated()
	for at := range b {
		count, size := 0, 0
		for i, end := range ends {
			if end <= at {
				count, size = i+1, end
			}
		}
		for _, flip := range []byte{1, 2, 0x80, 0xFF, 0x5A} {
			s := bytes.Clone(b)
			s[at] ^= flip
			scan(t, s, count, size, api.ErrSpoil)
		}
	}
}

func TestScanErrors(t *testing.T) { // P14.2
	b, _ := record.Bytes(valid()[0])
	scan(t, b[:len(b)-1], 0, 0, api.OK)
	scan(t, b[:3], 0, 0, api.OK)
	bad := bytes.Clone(b)
	bad[0] = 1
	scan(t, bad, 0, 0, api.ErrSpoil)
	scan(t, bad[:4], 0, 0, api.ErrSpoil)
	scan(t, bad[:3], 0, 0, api.OK)
	for _, body := range []string{
		"", "\x00", "\x04", "\x01", "\x01\x05", "\x01\x05\x05\x05", "\x01\x80\x00\x05", "\x01\x80\x80\x80\x80\x80\x80\x80\x10\x01", "\x01\xff\xff\xff\xff\xff\xff\xff\xff\xff\x01\x01",
		"\x02\x00\x01\xac\x02\x06\x05", "\x02\x01\x01\xac\x02\x06", "\x02\x01\x08\xac\x02\x06\x05", "\x02\x01\x01\xac\x02\x06\x05\x00", "\x02", "\x02\x01", "\x02\x81",
		"\x03\x00\x00\x00", "\x03\x00\x00\x00\x00", "\x03\x00\x00\x00\x01\x00\x00", "\x03\x00\x00\x00\x02\x00\x00", "\x03\x00\x00\x00\x02\x01\x00", "\x03\x00\x00\x00\x02\x00", "\x03\x00\x80\x00\x01\x00",
	} {
		scan(t, append(bytes.Clone(b), framed(body)...), 1, len(b), api.ErrSpoil)
	}
}

func TestTooManyEntries(t *testing.T) { // P14.2
	row := "\x19"
	for range 25 {
		row += "\x04\x01\x01\x06\x05"
	}
	scan(t, framed("\x03\x00\x00\x00"+string(bits.Text(nil, []byte(row)))), 0, 0, api.ErrSpoil)
}

func TestSame(t *testing.T) { // P14.1
	whole := func() api.Rec {
		return api.Rec{Kind: 1, View: 2, Last: 3, Op: 4, Entry: reserve(), Entries: []api.Entry{ship(1), reserve()}}
	}
	if !record.Same(whole(), whole()) || !record.Same(api.Rec{Entries: []api.Entry{}}, api.Rec{}) {
		t.Error("the same")
	}
	for i, f := range []func(*api.Rec){
		func(r *api.Rec) { r.Kind++ }, func(r *api.Rec) { r.View++ }, func(r *api.Rec) { r.Last++ }, func(r *api.Rec) { r.Op++ },
		func(r *api.Rec) { r.Entry.Op.Lines[0].N++ }, func(r *api.Rec) { r.Entries[1].Num++ }, func(r *api.Rec) { r.Entries = r.Entries[:1] },
	} {
		r := whole()
		f(&r)
		if record.Same(r, whole()) || record.Same(whole(), r) {
			t.Error(i)
		}
	}
}

func TestOwnMemory(t *testing.T) { // P14.3
	b, _ := concatenated()
	kept := bytes.Clone(b)
	l, _, _ := record.Scan(b)
	if !bytes.Equal(b, kept) {
		t.Error("an argument was changed")
	}
	clear(b)
	for i, r := range l {
		if !record.Same(r, valid()[i]) {
			t.Error("Scan shares memory")
		}
	}
}

func TestOneEncoding(t *testing.T) { // P14.4
	r := rand.New(rand.NewSource(1))
	seen := 0
	for range 30000 {
		one, _ := record.Bytes(valid()[r.Intn(len(valid()))])
		body := one[4 : len(one)-4]
		body[r.Intn(len(body))] = byte(r.Intn(256))
		b := framed(string(body))
		l, whole, e := record.Scan(b)
		if e != api.OK {
			continue
		}
		seen++
		if again, f := record.Bytes(l[0]); whole != len(b) || f != api.OK || !bytes.Equal(again, b) {
			t.Fatalf("%x is another encoding", b)
		}
	}
	if seen < 500 {
		t.Error("only", seen, "were read")
	}
}
