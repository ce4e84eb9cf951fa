package table_test

import (
	"bytes"
	"math"
	"math/rand"
	"slices"
	"testing"

	"gimbal/api"
	"gimbal/table"
)

func seat(client, num, op int) api.Seat { return api.Seat{Client: client, Num: num, Op: op} }

func had(s api.Seat) api.SeatWas { return api.SeatWas{Had: true, Seat: s} }

func put(t *testing.T, x *table.Table, s api.Seat, want api.SeatWas, code api.Errno) {
	t.Helper()
	before := x.Bytes()
	was, e := x.Put(s)
	if was != want || e != code {
		t.Error(s, was, e)
	}
	if e != api.OK && !bytes.Equal(before, x.Bytes()) {
		t.Error("an error changed something")
	}
}

func TestExample(t *testing.T) { // P10.1, P10.2, P10.3, P10.4
	x := table.New()
	if x.Judge(3, 5) != api.SeatNew || string(x.Bytes()) != "\x00" || x.Len() != 0 {
		t.Error("a new table")
	}
	first := api.Seat{Client: 3, Num: 5, Op: 9, Res: api.Res{A: 1, B: 2}}
	put(t, x, first, api.SeatWas{}, api.OK)
	if x.Judge(3, 5) != api.SeatSame || x.Judge(3, 4) != api.SeatOld || x.Judge(3, 6) != api.SeatNew || x.Judge(2, 1) != api.SeatNew {
		t.Error("Judge")
	}
	if string(x.Bytes()) != "\x01\x03\x05\x09\x03\x00\x01\x02" {
		t.Errorf("%x", x.Bytes())
	}
	put(t, x, seat(3, 7, 12), had(first), api.OK)
	if s, is := x.Find(3); !is || s != seat(3, 7, 12) {
		t.Error(s, is)
	}
	if x.Back(3, had(first)) != api.OK || x.Back(3, api.SeatWas{}) != api.OK || x.Len() != 0 || x.Back(3, api.SeatWas{}) != api.ErrUndo {
		t.Error("Back")
	}
}

func full() *table.Table {
	x := table.New()
	for c := range 6 {
		x.Put(seat(c+1, 10, c+1))
	}
	return x
}

func TestFull(t *testing.T) { // P10.1, P10.2
	x := full()
	for _, c := range []int{0, 7, -1, 8, math.MinInt, math.MaxInt} {
		if x.Judge(c, 1) != api.SeatFull {
			t.Error(c)
		}
	}
	if x.Judge(1, 11) != api.SeatNew || x.Judge(6, 10) != api.SeatSame || x.Judge(6, 9) != api.SeatOld {
		t.Error("those who have seats")
	}
	put(t, x, seat(7, 1, 1), api.SeatWas{}, api.ErrLimit)
	put(t, x, seat(6, 11, 20), had(seat(6, 10, 6)), api.OK)
	if x.Len() != 6 {
		t.Error(x.Len())
	}
}

func TestPutErrors(t *testing.T) { // P10.2
	x := full()
	for _, s := range []api.Seat{{}, seat(-1, 1, 1), seat(8, 1, 1), seat(1, 0, 1), seat(1, -1, 1), seat(1, api.MaxQty+1, 1), seat(1, 11, 0), seat(1, 11, api.MaxNumber+1), seat(7, 0, 1),
		{Client: 1, Num: 11, Op: 1, Res: api.Res{Code: 7}}, {Client: 1, Num: 11, Op: 1, Res: api.Res{A: -1}}, {Client: 1, Num: 11, Op: 1, Res: api.Res{B: api.MaxQty + 1}}} {
		put(t, x, s, api.SeatWas{}, api.ErrArg)
	}
	put(t, x, seat(1, 10, 30), api.SeatWas{}, api.ErrRange)
	put(t, x, seat(1, 9, 30), api.SeatWas{}, api.ErrRange)
	put(t, x, seat(1, api.MaxQty, api.MaxNumber), had(seat(1, 10, 1)), api.OK)
}

func TestBackErrors(t *testing.T) { // P10.3
	x := full()
	before := x.Bytes()
	for _, c := range []struct {
		client int
		was    api.SeatWas
	}{
		{0, api.SeatWas{}}, {-1, api.SeatWas{}}, {8, api.SeatWas{}}, {math.MaxInt, api.SeatWas{}},
		{1, had(seat(1, 10, 1))}, {1, had(seat(1, 11, 1))}, {1, had(seat(2, 9, 1))}, {1, had(seat(1, 0, 1))}, {1, had(seat(1, 9, 0))}, {1, had(api.Seat{})},
		{1, api.SeatWas{Seat: seat(1, 9, 1)}}, {1, api.SeatWas{Seat: api.Seat{Client: 1}}},
		{1, had(api.Seat{Client: 1, Num: 9, Op: 1, Res: api.Res{Code: -1}})},
	} {
		if x.Back(c.client, c.was) != api.ErrUndo || !bytes.Equal(before, x.Bytes()) {
			t.Error(c)
		}
	}
	if x.Back(1, had(seat(1, 9, 77))) != api.OK {
		t.Error("a possible one")
	}
	if s, _ := x.Find(1); s != seat(1, 9, 77) {
		t.Error(s)
	}
}

func TestList(t *testing.T) { // P10.4, P10.5
	x := table.New()
	for _, c := range []int{5, 0, 7, 2} {
		x.Put(seat(c, c+1, 300))
	}
	l := x.List()
	if !slices.Equal(l, []api.Seat{seat(0, 1, 300), seat(2, 3, 300), seat(5, 6, 300), seat(7, 8, 300)}) || x.Len() != 4 {
		t.Error(l)
	}
	l[0].Num = 99
	if s, is := x.Find(0); s.Num != 1 || !is {
		t.Error("a result shares memory")
	}
	for _, c := range []int{1, -1, 8, math.MinInt, math.MaxInt} {
		if s, is := x.Find(c); is || s != (api.Seat{}) {
			t.Error(c)
		}
	}
	c := x.Copy()
	c.Put(seat(0, 50, 400))
	if s, _ := x.Find(0); s.Num != 1 || c.Len() != 4 {
		t.Error("a copy shares memory")
	}
}

func TestOpen(t *testing.T) { // P10.4
	one := "\x05\x09\x03\x00\x01\x02"
	for b, want := range map[string]api.Errno{
		"":                                 api.ErrTrunc,
		"\x00":                             api.OK,
		"\x00\x00":                         api.ErrForm,
		"\x07":                             api.ErrForm,
		"\xff":                             api.ErrForm,
		"\x01":                             api.ErrTrunc,
		"\x01\x03" + one:                   api.OK,
		"\x01\x08" + one:                   api.ErrForm,
		"\x01\x03" + one + "\x00":          api.ErrForm,
		"\x02\x03" + one:                   api.ErrTrunc,
		"\x02\x03" + one + "\x04" + one:    api.OK,
		"\x02\x04" + one + "\x03" + one:    api.ErrForm,
		"\x02\x03" + one + "\x03" + one:    api.ErrForm,
		"\x02\x08" + one:                   api.ErrForm, // the first seat is read before the second is missed
		"\x01\x03\x80\x00\x09\x00":         api.ErrForm,
		"\x01\x03\x00\x09\x03\x00\x01\x02": api.ErrForm, // Num 0
		"\x01\x03\x05\x00\x03\x00\x01\x02": api.ErrForm, // Op 0
		"\x01\x03\x05\x09\x02\x00\x01":     api.ErrForm, // ParseRes would tell ErrTrunc
		"\x01\x03\x05\x09\x03\x07\x01\x02": api.ErrForm,
		"\x01\x03\x05\x09\x04\x00\x01\x02": api.ErrTrunc,
		"\x01\x03\x05\xff\xff\xff\xff\xff\xff\xff\xff\xff\x02\x03\x00\x01\x02": api.ErrRange,
		"\x01\x03\x05\xff\xff\xff\xff\xff\xff\xff\xff\xff\x01\x03\x00\x01\x02": api.ErrForm,
		"\x01\x03\xff\xff\xff\xff\xff\xff\xff\xff\xff\x01\x09\x03\x00\x01\x02": api.ErrForm,
		"\x01\x03\x05\x80\x80\x80\x80\x80\x80\x80\x10\x03\x00\x01\x02":         api.ErrForm, // 2^53
	} {
		x, e := table.Open([]byte(b))
		if e != want || (e == api.OK) != (x != nil) || e == api.OK && string(x.Bytes()) != b {
			t.Errorf("%x: %d", b, e)
		}
	}
}

func TestNoTable(t *testing.T) { // R1
	for _, x := range []*table.Table{nil, {}} {
		s, is := x.Find(1)
		was, e := x.Put(seat(1, 1, 1))
		if is || s != (api.Seat{}) || x.Judge(1, 1) != 0 || was != (api.SeatWas{}) || e != api.ErrNil || x.Back(1, api.SeatWas{}) != api.ErrNil || x.List() != nil || x.Len() != 0 || x.Bytes() != nil || x.Copy() != nil {
			t.Error("nothing")
		}
	}
}

func TestRandom(t *testing.T) { // P10.6, P10.7
	r := rand.New(rand.NewSource(1))
	for range 50 {
		x := table.New()
		type done struct {
			client int
			was    api.SeatWas
			before []byte
		}
		var l []done
		asked := map[[2]int]bool{}
		for op := range 100 {
			s := api.Seat{Client: r.Intn(8), Num: 1 + r.Intn(40), Op: op + 1, Res: api.Res{Code: r.Intn(7), A: r.Intn(500)}}
			before := x.Bytes()
			judged := x.Judge(s.Client, s.Num)
			if judged == api.SeatNew && asked[[2]int{s.Client, s.Num}] {
				t.Fatal("a request that was put is new again")
			}
			if was, e := x.Put(s); e == api.OK {
				l = append(l, done{s.Client, was, before})
				asked[[2]int{s.Client, s.Num}] = true
			} else if judged == api.SeatNew {
				t.Fatal(e)
			}
			back, e := table.Open(x.Bytes())
			if e != api.OK || !slices.Equal(back.List(), x.List()) || !bytes.Equal(back.Copy().Bytes(), x.Bytes()) {
				t.Fatal(e)
			}
		}
		slices.Reverse(l)
		for _, d := range l {
			if x.Back(d.client, d.was) != api.OK || !bytes.Equal(x.Bytes(), d.before) {
				t.Fatal("not restored")
			}
		}
	}
}
