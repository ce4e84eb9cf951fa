package bits_test

import (
	"bytes"
	"math"
	"math/rand"
	"testing"

	"gimbal/api"
	"gimbal/bits"
)

func TestPut(t *testing.T) { // P1.1
	for _, c := range []struct {
		before string
		size   int
		n      uint64
		want   string
		e      api.Errno
	}{
		{"", 16, 258, "\x01\x02", api.OK},
		{"ab", 8, 255, "ab\xff", api.OK},
		{"", 32, 0xDEADBEEF, "\xde\xad\xbe\xef", api.OK},
		{"", 64, math.MaxUint64, "\xff\xff\xff\xff\xff\xff\xff\xff", api.OK},
		{"", 64, 1, "\x00\x00\x00\x00\x00\x00\x00\x01", api.OK},
		{"ab", 8, 256, "", api.ErrRange},
		{"", 16, 1 << 16, "", api.ErrRange},
		{"", 32, 1 << 32, "", api.ErrRange},
		{"ab", 24, 1, "", api.ErrArg},
		{"", 0, 0, "", api.ErrArg},
		{"", -8, 0, "", api.ErrArg},
		{"", 128, 0, "", api.ErrArg},
		{"", 24, math.MaxUint64, "", api.ErrArg},
		{"", math.MinInt, 1, "", api.ErrArg},
	} {
		b, e := bits.Put([]byte(c.before), c.size, c.n)
		if string(b) != c.want || e != c.e {
			t.Errorf("Put(%q, %d, %d) = %x, %d", c.before, c.size, c.n, b, e)
		}
	}
}

func TestZigzag(t *testing.T) { // P1.1, P1.5
	for u, n := range []int{0, -1, 1, -2, 2, -3, 3} {
		if bits.Zig(n) != uint64(u) || bits.Zag(uint64(u)) != n {
			t.Error(n, bits.Zig(n), bits.Zag(uint64(u)))
		}
	}
	for _, n := range []int{math.MaxInt, math.MinInt, 1 << 40, -(1 << 40), 64, -65} {
		if bits.Zag(bits.Zig(n)) != n {
			t.Error(n)
		}
	}
	if bits.Zig(math.MinInt) != math.MaxUint64 || bits.Zag(math.MaxUint64-1) != math.MaxInt {
		t.Error("the ends")
	}
}

func TestVarint(t *testing.T) { // P1.1
	for _, c := range []struct {
		u    uint64
		want string
	}{
		{0, "\x00"}, {1, "\x01"}, {127, "\x7f"}, {128, "\x80\x01"}, {300, "\xac\x02"}, {1<<14 - 1, "\xff\x7f"}, {1 << 14, "\x80\x80\x01"},
		{math.MaxUint64, "\xff\xff\xff\xff\xff\xff\xff\xff\xff\x01"}, {1 << 63, "\x80\x80\x80\x80\x80\x80\x80\x80\x80\x01"}, {1<<63 - 1, "\xff\xff\xff\xff\xff\xff\xff\xff\x7f"},
	} {
		if b := bits.Varint([]byte("x"), c.u); string(b) != "x"+c.want {
			t.Errorf("%d: %x", c.u, b)
		}
	}
	if b := bits.Int([]byte("x"), -3); string(b) != "x\x05" {
		t.Errorf("%x", b)
	}
	if b := bits.Text([]byte("x"), []byte("ab")); string(b) != "x\x02ab" {
		t.Errorf("%x", b)
	}
	if b := bits.Text(nil, nil); string(b) != "\x00" {
		t.Errorf("%x", b)
	}
	if b := bits.Text(nil, make([]byte, 300)); len(b) != 302 || b[0] != 0xAC || b[1] != 2 {
		t.Error(len(b))
	}
}

func TestRotate(t *testing.T) { // P1.2, P1.6
	for _, c := range []struct {
		n    uint64
		k    int
		want uint64
	}{
		{1, -1, 1 << 63}, {1 << 63, 1, 1}, {1, 0, 1}, {1, 64, 1}, {1, 65, 2}, {1, -64, 1}, {2, -65, 1}, {0xF0, 4, 0xF00}, {1, math.MinInt, 1}, {1, math.MaxInt, 1 << 63},
	} {
		if n := bits.Rotate(c.n, c.k); n != c.want {
			t.Errorf("Rotate(%x, %d) = %x", c.n, c.k, n)
		}
	}
	r := rand.New(rand.NewSource(1))
	for range 1000 {
		n, k := r.Uint64(), r.Intn(400)-200
		if bits.Rotate(bits.Rotate(n, k), -k) != n {
			t.Fatal(n, k)
		}
	}
}

func TestReverse(t *testing.T) { // P1.2, P1.6
	for _, c := range []struct {
		n    uint64
		k    int
		want uint64
	}{
		{6, 4, 6}, {0b1011, 4, 0b1101}, {0b1011, 3, 0b110}, {1, 64, 1 << 63}, {1, 65, 1 << 63}, {1, math.MaxInt, 1 << 63}, {1, 0, 0}, {1, -1, 0}, {1, math.MinInt, 0}, {math.MaxUint64, 5, 31},
	} {
		if n := bits.Reverse(c.n, c.k); n != c.want {
			t.Errorf("Reverse(%b, %d) = %b", c.n, c.k, n)
		}
	}
	r := rand.New(rand.NewSource(2))
	for range 1000 {
		if n := r.Uint64(); bits.Reverse(bits.Reverse(n, 64), 64) != n {
			t.Fatal(n)
		}
	}
}

func TestReadNum(t *testing.T) { // P1.3
	r := bits.Read([]byte{1, 2, 3, 4, 5, 6, 7, 8, 9, 10, 11, 12, 13, 14, 15, 16})
	if r.Num(8) != 1 || r.Num(16) != 0x0203 || r.Num(32) != 0x04050607 || r.Num(64) != 0x08090A0B0C0D0E0F || r.Left() != 1 || r.Err() != api.OK {
		t.Error(r)
	}
	if r.End() != api.ErrForm || r.Err() != api.OK {
		t.Error("End is the reader's error, or tells that bytes remain")
	}
	if r.Num(16) != 0 || r.Err() != api.ErrTrunc || r.Left() != 0 || r.End() != api.ErrTrunc {
		t.Error("too few bytes")
	}
	if r.Num(24) != 0 || r.Err() != api.ErrTrunc {
		t.Error("the first error stays")
	}
	for _, size := range []int{24, 0, -8, 7, 65, math.MinInt} {
		if r := bits.Read([]byte{1, 2, 3, 4}); r.Num(size) != 0 || r.Err() != api.ErrArg || r.Left() != 0 || r.Num(8) != 0 {
			t.Error(size, r.Err())
		}
	}
	if r := bits.Read(nil); r.Num(24) != 0 || r.Err() != api.ErrArg {
		t.Error("the size is looked at first")
	}
}

func TestReadVarint(t *testing.T) { // P1.3, P1.6
	for _, c := range []struct {
		b    string
		want uint64
		e    api.Errno
	}{
		{"\xac\x02", 300, api.OK}, {"\x00", 0, api.OK}, {"\x7f", 127, api.OK},
		{"\xff\xff\xff\xff\xff\xff\xff\xff\xff\x01", math.MaxUint64, api.OK},
		{"", 0, api.ErrTrunc}, {"\x80", 0, api.ErrTrunc}, {"\xff\xff\xff\xff\xff\xff\xff\xff\xff", 0, api.ErrTrunc},
		{"\x80\x00", 0, api.ErrForm}, {"\x81\x80\x00", 0, api.ErrForm}, {"\x80\x80\x80\x80\x80\x80\x80\x80\x80\x00", 0, api.ErrForm},
		{"\xff\xff\xff\xff\xff\xff\xff\xff\xff\xff", 0, api.ErrRange}, {"\x80\x80\x80\x80\x80\x80\x80\x80\x80\x02", 0, api.ErrRange},
		{"\x80\x80\x80\x80\x80\x80\x80\x80\x80\x80\x00", 0, api.ErrRange},
	} {
		r := bits.Read([]byte(c.b + "!"))
		if c.e == api.ErrTrunc {
			r = bits.Read([]byte(c.b))
		}
		u := r.Varint()
		left := 1
		if c.e != api.OK {
			left = 0
		}
		if u != c.want || r.Err() != c.e || r.Left() != left {
			t.Errorf("%x: %d, %d, %d left", c.b, u, r.Err(), r.Left())
		}
		i := bits.Read([]byte(c.b))
		if n := i.Int(); n != bits.Zag(c.want) || i.Err() != c.e {
			t.Errorf("%x: %d, %d", c.b, n, i.Err())
		}
	}
}

func TestReadText(t *testing.T) { // P1.3
	r := bits.Read([]byte("\x02ab\x00\x03c"))
	if string(r.Text()) != "ab" || len(r.Text()) != 0 || r.Left() != 2 || r.Err() != api.OK {
		t.Error(r)
	}
	if len(r.Text()) != 0 || r.Err() != api.ErrTrunc || r.Left() != 0 {
		t.Error("fewer bytes than announced")
	}
	for b, e := range map[string]api.Errno{"": api.ErrTrunc, "\x80\x00": api.ErrForm, "\xff\xff\xff\xff\xff\xff\xff\xff\xff\x02": api.ErrRange, "\xff\xff\xff\xff\xff\xff\xff\xff\xff\x01a": api.ErrTrunc} {
		if r := bits.Read([]byte(b)); r.Text() != nil || r.Err() != e {
			t.Errorf("%x: %d", b, r.Err())
		}
	}
}

func TestNoReader(t *testing.T) { // P1.3, R1
	var none *bits.Reader
	if none.Num(8) != 0 || none.Num(24) != 0 || none.Varint() != 0 || none.Int() != 0 || none.Text() != nil || none.Left() != 0 || none.Err() != api.OK || none.End() != api.OK {
		t.Error("a nil reader")
	}
	var zero bits.Reader
	if zero.End() != api.OK || zero.Left() != 0 || zero.Varint() != 0 || zero.Err() != api.ErrTrunc || zero.End() != api.ErrTrunc {
		t.Error("a zero reader")
	}
}

func TestOwnMemory(t *testing.T) { // P1.4
	room := append(make([]byte, 0, 64), "ab"...)
	kept := bytes.Clone(room[:cap(room)])
	put, _ := bits.Put(room, 8, 7)
	for _, b := range [][]byte{put, bits.Varint(room, 300), bits.Int(room, 5), bits.Text(room, []byte("c"))} {
		if !bytes.Equal(room[:cap(room)], kept) {
			t.Fatal("the room of an argument was written to")
		}
		b[0] = 'x'
		if room[0] != 'a' {
			t.Fatal("a result shares memory with an argument")
		}
	}
	given := []byte("\x02ab\x02cd")
	r := bits.Read(given)
	given[1] = 'x'
	first := r.Text()
	if string(first) != "ab" {
		t.Error("the reader kept its argument")
	}
	_ = append(first, "xyz"...)
	if string(r.Text()) != "cd" {
		t.Error("a result shares memory with the reader")
	}
}

func TestRoundTrip(t *testing.T) { // P1.5, P1.6
	r := rand.New(rand.NewSource(3))
	for range 2000 {
		u := r.Uint64() >> r.Intn(64)
		n := int(r.Uint64()) >> r.Intn(64)
		s := make([]byte, r.Intn(200))
		r.Read(s)
		b, _ := bits.Put(bits.Text(bits.Int(bits.Varint(nil, u), n), s), 64, u)
		back := bits.Read(b)
		if back.Varint() != u || back.Int() != n || !bytes.Equal(back.Text(), s) || back.Left() != 8 || back.Num(64) != u || back.End() != api.OK {
			t.Fatal(u, n, s)
		}
		if n > math.MinInt/2 && n < math.MaxInt/2 && len(bits.Int(nil, n)) > len(bits.Int(nil, 2*n)) {
			t.Fatal("a number closer to 0 is longer", n)
		}
	}
	for range 20000 {
		b := make([]byte, 1+r.Intn(11))
		for i := range b {
			b[i] = byte(r.Intn(4)) | byte(r.Intn(2))<<7
		}
		back := bits.Read(b)
		u := back.Varint()
		if back.Err() == api.OK && !bytes.Equal(bits.Varint(nil, u), b[:len(b)-back.Left()]) {
			t.Fatalf("%x is another encoding of %d", b, u)
		}
	}
}
