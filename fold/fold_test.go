package fold_test

import (
	"bytes"
	"math/rand"
	"reflect"
	"testing"

	"gimbal/api"
	"gimbal/bits"
	"gimbal/fold"
	"gimbal/sum"
)

func restock(client, num, n int) api.Entry {
	return api.Entry{Client: client, Num: num, Op: api.Op{Kind: api.OpRestock, Sku: "a", N: n}}
}

func tell(client, num int) api.Entry {
	return api.Entry{Client: client, Num: num, Op: api.Op{Kind: api.OpSku, Sku: "a"}}
}

func do(t *testing.T, s *fold.State, x api.Entry, want api.Res) api.Past {
	t.Helper()
	op := s.Op()
	r, p, e := s.Do(x)
	if r != want || e != api.OK || s.Op() != op+1 || p.Op != op+1 || p.Client != x.Client {
		t.Error(x, r, p, e)
	}
	return p
}

func TestExample(t *testing.T) { // P11.1, P11.3
	s := fold.New()
	if string(s.Bytes()) != "\x00\x01\x00\x03\x00\x00\x00" || s.Op() != 0 || s.Sum() != sum.Fnv(s.Bytes()) {
		t.Errorf("%x", s.Bytes())
	}
	p := do(t, s, restock(2, 1, 5), api.Res{A: 5})
	if !reflect.DeepEqual(p, api.Past{Op: 1, Kind: api.SeatNew, Client: 2, Undo: api.Undo{Seq: 1, Skus: []api.SkuWas{{Sku: api.Sku{Name: "a"}}}}}) {
		t.Error(p)
	}
	p = do(t, s, tell(2, 1), api.Res{A: 5})
	if !reflect.DeepEqual(p, api.Past{Op: 2, Kind: api.SeatSame, Client: 2}) {
		t.Error(p)
	}
	p = do(t, s, tell(2, 2), api.Res{A: 5})
	want := api.SeatWas{Had: true, Seat: api.Seat{Client: 2, Num: 1, Op: 1, Res: api.Res{A: 5}}}
	if p.Kind != api.SeatNew || p.Was != want || p.Undo.Seq != 2 {
		t.Error(p)
	}
	p = do(t, s, restock(2, 1, 9), api.Res{Code: api.ResState})
	if !reflect.DeepEqual(p, api.Past{Op: 4, Kind: api.SeatOld, Client: 2}) {
		t.Error(p)
	}
	if seat, is := s.Seat(2); !is || seat != (api.Seat{Client: 2, Num: 2, Op: 3, Res: api.Res{A: 5}}) || s.Op() != 4 {
		t.Error(seat, is)
	}
	if s.Judge(2, 2) != api.SeatSame || s.Judge(2, 1) != api.SeatOld || s.Judge(2, 3) != api.SeatNew || len(s.Skus()) != 1 || len(s.Orders()) != 0 {
		t.Error("Judge")
	}
}

func TestFullTable(t *testing.T) { // P11.1
	s := fold.New()
	for c := range 6 {
		do(t, s, restock(c, 1, 1), api.Res{A: c + 1})
	}
	p := do(t, s, restock(6, 1, 1), api.Res{Code: api.ResFull})
	if p.Kind != api.SeatFull || s.Skus()[0].There != 6 || s.Judge(6, 1) != api.SeatFull {
		t.Error(p)
	}
	if _, is := s.Seat(6); is {
		t.Error("a seventh seat")
	}
	if s.Back(p) != api.OK || s.Op() != 6 {
		t.Error("Back")
	}
}

func TestDoErrors(t *testing.T) { // P11.1, P11.5
	s := fold.New()
	before := s.Bytes()
	for _, x := range []api.Entry{{}, restock(8, 1, 1), restock(-1, 1, 1), restock(0, 0, 1), restock(0, 1, 0)} {
		r, p, e := s.Do(x)
		if e != api.ErrArg || r != (api.Res{}) || !reflect.DeepEqual(p, api.Past{}) || !bytes.Equal(before, s.Bytes()) {
			t.Error(x, e)
		}
		if s, e := fold.Of([]api.Entry{restock(1, 1, 1), x}); s != nil || e != api.ErrArg {
			t.Error(x, e)
		}
	}
	end := bits.Text(bits.Text(bits.Varint(nil, api.MaxNumber-1), []byte{0}), []byte{0, 0, 0})
	s, e := fold.Open(end)
	if e != api.OK || s.Op() != api.MaxNumber-1 {
		t.Fatal(e)
	}
	do(t, s, restock(1, 1, 1), api.Res{A: 1})
	before = s.Bytes()
	if _, _, e := s.Do(restock(1, 2, 1)); e != api.ErrLimit || !bytes.Equal(before, s.Bytes()) {
		t.Error(e)
	}
}

func TestOf(t *testing.T) { // P11.1
	l := []api.Entry{restock(1, 1, 5), restock(1, 1, 5), restock(2, 1, 5)}
	s, e := fold.Of(l)
	if e != api.OK || s.Op() != 3 || s.Skus()[0].There != 10 {
		t.Error(e)
	}
	s, e = fold.Of(nil)
	if e != api.OK || !bytes.Equal(s.Bytes(), fold.New().Bytes()) {
		t.Error(e)
	}
}

func TestBackErrors(t *testing.T) { // P11.2
	s := fold.New()
	do(t, s, restock(1, 1, 5), api.Res{A: 5})
	do(t, s, restock(2, 1, 5), api.Res{A: 10})
	good := do(t, s, restock(1, 2, 5), api.Res{A: 15})
	before := s.Bytes()
	for name, f := range map[string]func(*api.Past){
		"op too great":   func(p *api.Past) { p.Op++ },
		"op too small":   func(p *api.Past) { p.Op-- },
		"op 0":           func(p *api.Past) { p.Op = 0 },
		"kind 0":         func(p *api.Past) { p.Kind = 0 },
		"kind 5":         func(p *api.Past) { p.Kind = 5 },
		"kind negative":  func(p *api.Past) { p.Kind = -1 },
		"another client": func(p *api.Past) { p.Client = 2 },
		"no such client": func(p *api.Past) { p.Client = 9 },
		"seat too new":   func(p *api.Past) { p.Was.Seat.Num = 2 },
		"seat not had":   func(p *api.Past) { p.Was.Had = false },
		"shop's count":   func(p *api.Past) { p.Undo.Seq-- },
		"shop's state":   func(p *api.Past) { p.Undo.Now = -1 },
	} {
		p := good
		f(&p)
		if s.Back(p) != api.ErrUndo || !bytes.Equal(before, s.Bytes()) {
			t.Error(name)
		}
	}
	// neither half may have been undone by the attempts
	if s.Back(good) != api.OK || s.Op() != 2 || s.Skus()[0].There != 10 || s.Back(good) != api.ErrUndo {
		t.Error("the right one, once")
	}
	if fold.New().Back(api.Past{Kind: api.SeatOld}) != api.ErrUndo {
		t.Error("op 0 of an empty state")
	}
}

func TestBackNeedsNothingElse(t *testing.T) { // P11.2
	s := fold.New()
	do(t, s, restock(1, 1, 5), api.Res{A: 5})
	do(t, s, restock(1, 1, 5), api.Res{A: 5})
	if s.Back(api.Past{Op: 2, Kind: api.SeatFull, Client: 99}) != api.OK || s.Op() != 1 || s.Skus()[0].There != 5 {
		t.Error("only SeatNew has something to undo")
	}
}

func TestOpen(t *testing.T) { // P11.4
	whole := func(op uint64, tab, shop string) string {
		return string(bits.Text(bits.Text(bits.Varint(nil, op), []byte(tab)), []byte(shop)))
	}
	one := "\x01\x03\x05\x09\x03\x00\x01\x02" // a seat at op 9
	for b, want := range map[string]api.Errno{
		"":                               api.ErrTrunc,
		"\x00":                           api.ErrTrunc,
		"\x00\x01\x00":                   api.ErrTrunc,
		"\x00\x01\x00\x03\x00\x00":       api.ErrTrunc,
		whole(0, "\x00", "\x00\x00\x00"): api.OK,
		whole(0, "\x00", "\x00\x00\x00") + "\x00":               api.ErrForm,
		whole(api.MaxNumber, "\x00", "\x00\x00\x00"):            api.OK,
		whole(api.MaxNumber+1, "\x00", "\x00\x00\x00"):          api.ErrForm,
		whole(api.MaxNumber+1, "", "\x00\x00\x00"):              api.ErrForm,
		whole(1<<63, "\x00", "\x00\x00\x00"):                    api.ErrForm,
		whole(0, "", "\x00\x00\x00"):                            api.ErrTrunc, // of the table
		whole(0, "\x07", ""):                                    api.ErrForm,  // of the table, first
		whole(0, "\x00", ""):                                    api.ErrTrunc, // of the shop
		whole(0, "\x00", "\x00\x00\x00\x00"):                    api.ErrForm,
		whole(9, one, "\x00\x00\x00"):                           api.OK,
		whole(8, one, "\x00\x00\x00"):                           api.ErrForm,
		whole(8, one, "\x00\x00"):                               api.ErrTrunc,
		"\xff\xff\xff\xff\xff\xff\xff\xff\xff\x02\x01\x00":      api.ErrRange,
		"\x80\x00\x01\x00\x03\x00\x00\x00":                      api.ErrForm,
		"\x00\xff\xff\xff\xff\xff\xff\xff\xff\xff\x01":          api.ErrTrunc,
		whole(api.MaxNumber+1, "\x00", "\x00\x00\x00") + "\x00": api.ErrForm,
	} {
		s, e := fold.Open([]byte(b))
		if e != want || (e == api.OK) != (s != nil) || e == api.OK && string(s.Bytes()) != b {
			t.Errorf("%x: %d", b, e)
		}
	}
	s := fold.New()
	p := do(t, s, restock(1, 1, 5), api.Res{A: 5})
	back, e := fold.Open(s.Bytes())
	if e != api.OK || back.Back(p) != api.ErrUndo {
		t.Error("what was executed before Open cannot be undone")
	}
}

func TestNoState(t *testing.T) { // R1
	for _, s := range []*fold.State{nil, {}} {
		r, p, e := s.Do(restock(1, 1, 1))
		seat, is := s.Seat(1)
		if r != (api.Res{}) || !reflect.DeepEqual(p, api.Past{}) || e != api.ErrNil || s.Back(api.Past{}) != api.ErrNil || s.Op() != 0 || s.Bytes() != nil || s.Copy() != nil || s.Sum() != 0 ||
			is || seat != (api.Seat{}) || s.Judge(1, 1) != 0 || s.Skus() != nil || s.Orders() != nil {
			t.Error("nothing")
		}
	}
}

func randomEntry(r *rand.Rand, nums *[8]int) api.Entry {
	c := r.Intn(8)
	if r.Intn(4) > 0 {
		nums[c]++
	}
	sku := string(rune('a' + r.Intn(4)))
	x := api.Entry{Client: c, Num: max(1, nums[c]-r.Intn(2))}
	switch r.Intn(6) {
	case 0, 1:
		x.Op = api.Op{Kind: api.OpRestock, Sku: sku, N: 1 + r.Intn(9)}
	case 2, 3:
		x.Op = api.Op{Kind: api.OpReserve, Order: 1 + r.Intn(9), N: 1 + r.Intn(40), Lines: []api.Line{{Sku: sku, N: 1 + r.Intn(3)}}}
	case 4:
		x.Op = api.Op{Kind: api.OpConfirm + r.Intn(3), Order: 1 + r.Intn(9)}
	case 5:
		x.Op = api.Op{Kind: api.OpExpire, N: 1 + r.Intn(30)}
	}
	return x
}

func TestRandom(t *testing.T) { // P11.3, P11.6, P11.7, P11.8
	r := rand.New(rand.NewSource(1))
	for range 40 {
		s := fold.New()
		var log []api.Entry
		var past []api.Past
		states := [][]byte{s.Bytes()}
		nums := [8]int{}
		for range 120 {
			x := randomEntry(r, &nums)
			opened, e := fold.Open(s.Bytes())
			if e != api.OK || opened.Sum() != s.Sum() {
				t.Fatal(e)
			}
			c := s.Copy()
			res, p, e := s.Do(x)
			if e != api.OK {
				t.Fatal(e)
			}
			again, _, _ := opened.Do(x)
			if again != res || !bytes.Equal(opened.Bytes(), s.Bytes()) || bytes.Equal(c.Bytes(), s.Bytes()) {
				t.Fatal("an opened state does something else, or a copy shares memory")
			}
			log, past, states = append(log, x), append(past, p), append(states, s.Bytes())
			c = s.Copy()
			first := log[r.Intn(len(log))]
			c.Do(first)
			if c.Op() != s.Op()+1 || !reflect.DeepEqual(c.Skus(), s.Skus()) || !reflect.DeepEqual(c.Orders(), s.Orders()) {
				t.Fatal("an entry was executed twice")
			}
		}
		of, e := fold.Of(log)
		if e != api.OK || !bytes.Equal(of.Bytes(), s.Bytes()) {
			t.Fatal(e)
		}
		c := s.Copy()
		for i := len(past) - 1; i >= 0; i-- {
			if s.Back(past[i]) != api.OK || c.Back(past[i]) != api.OK || !bytes.Equal(s.Bytes(), states[i]) || !bytes.Equal(c.Bytes(), states[i]) {
				t.Fatal("not undone")
			}
		}
	}
}

func TestOwnMemory(t *testing.T) { // P11.5
	s := fold.New()
	do(t, s, restock(1, 1, 9), api.Res{A: 9})
	x := api.Entry{Client: 1, Num: 2, Op: api.Op{Kind: api.OpReserve, Order: 1, N: 5, Lines: []api.Line{{Sku: "a", N: 2}}}}
	do(t, s, x, api.Res{A: 1})
	want := s.Bytes()
	x.Op.Lines[0].Sku = "b"
	s.Orders()[0].Lines[0].N = 7
	s.Skus()[0].There = 0
	clear(s.Bytes())
	if !bytes.Equal(s.Bytes(), want) {
		t.Error("memory is shared")
	}
}
