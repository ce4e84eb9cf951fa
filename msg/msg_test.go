package msg_test

import (
	"bytes"
	"math"
	"math/rand"
	"testing"

	"gimbal/api"
	"gimbal/msg"
	"gimbal/sum"
)

const huge = api.MaxNumber

func ship(client, num int) api.Entry {
	return api.Entry{Client: client, Num: num, Op: api.Op{Kind: api.OpShip, Order: 5}}
}

func reserve() api.Entry {
	return api.Entry{Client: 2, Num: 9, Op: api.Op{Kind: api.OpReserve, Order: 7, N: 9, Lines: []api.Line{{Sku: "a", N: 1}, {Sku: "b", N: 2}}}}
}

func ships(n int) []api.Entry {
	l := make([]api.Entry, n)
	for i := range l {
		l[i] = ship(i%8, i+1)
	}
	return l
}

func asker() api.Entry { return api.Entry{Client: 2, Num: 9} }

func image() api.Image {
	return api.Image{Base: 300, Ckpt: []byte("xyz"), Entries: []api.Entry{ship(1, 1), reserve()}, Commit: 301}
}

func valid() []api.Msg {
	return []api.Msg{
		{Kind: api.MsgRequest, From: 17, To: 0, Entry: ship(2, 9)},
		{Kind: api.MsgReply, From: 0, To: 17, View: 1, Op: 5, Entry: asker(), Res: api.Res{A: 5}, Sure: true},
		{Kind: api.MsgReply, From: 0, To: 17, View: huge, Op: huge, Entry: asker(), Res: api.Res{Code: 6, A: api.MaxQty, B: 1}},
		{Kind: api.MsgPrepare, From: 14, To: 22, View: 1, Op: 2, Commit: 1, Entry: reserve()},
		{Kind: api.MsgOk, From: 1, To: 0, View: 2, Op: 300},
		{Kind: api.MsgCommit, From: 1, To: 2, View: 1, Op: 2, Commit: 3},
		{Kind: api.MsgStart, From: 1, To: 2, View: 1},
		{Kind: api.MsgStart, From: 1, To: 2, Entry: api.Entry{Op: api.Op{Lines: []api.Line{}}}, Image: api.Image{Ckpt: []byte{}, Entries: []api.Entry{}}},
		{Kind: api.MsgChange, From: 1, To: 2, View: 4, Last: 3, Image: image()},
		{Kind: api.MsgAsk, From: 1, To: 2, View: 1, Op: 7},
		{Kind: api.MsgState, From: 1, To: 2, View: 1, Image: image()},
		{Kind: api.MsgState, From: 1, To: 2, View: 1, Image: api.Image{Base: huge, Ckpt: make([]byte, 16384), Entries: ships(32), Commit: huge + 32}},
		{Kind: api.MsgState, From: 1, To: 2},
		{Kind: api.MsgBusy, From: 1, To: 2, View: 1, Entry: asker()},
	}
}

func TestCheckImage(t *testing.T) { // P5.1
	for _, x := range []api.Image{{}, image(), {Base: 2, Commit: 2}, {Base: 2, Entries: ships(3), Commit: 5}, {Ckpt: make([]byte, 16384), Entries: ships(32)}} {
		if msg.CheckImage(x) != api.OK {
			t.Error("refused", x.Base)
		}
	}
	for _, x := range []api.Image{
		{Base: -1}, {Base: huge + 1, Commit: huge + 1}, {Base: 1}, {Base: 2, Commit: 3}, {Base: 2, Entries: ships(3), Commit: 6}, {Base: 2, Entries: ships(3), Commit: 1},
		{Ckpt: make([]byte, 16385)}, {Entries: ships(33)}, {Entries: []api.Entry{ship(1, 1), {}}}, {Base: math.MinInt}, {Base: math.MaxInt, Commit: math.MaxInt}, {Commit: math.MinInt},
	} {
		if msg.CheckImage(x) != api.ErrArg {
			t.Error("accepted", x.Base, x.Commit)
		}
	}
	if msg.Top(image()) != 302 || msg.Top(api.Image{Base: -5}) != -5 {
		t.Error("Top")
	}
}

func TestCheck(t *testing.T) { // P5.1
	for _, m := range valid() {
		if msg.Check(m) != api.OK {
			t.Error("refused", m)
		}
	}
	spoil := []func(*api.Msg){
		func(m *api.Msg) { m.Kind = 0 },
		func(m *api.Msg) { m.Kind = -1 },
		func(m *api.Msg) { m.Kind = api.LastMsg + 1 },
		func(m *api.Msg) { m.From = -1 },
		func(m *api.Msg) { m.From = 23 },
		func(m *api.Msg) { m.To = -1 },
		func(m *api.Msg) { m.To = 23 },
		func(m *api.Msg) { m.To = math.MaxInt },
		func(m *api.Msg) { m.View = -1 },
		func(m *api.Msg) { m.View = huge + 1 },
		func(m *api.Msg) { m.Op = -1 },
		func(m *api.Msg) { m.Op = huge + 1 },
		func(m *api.Msg) { m.Commit = -1 },
		func(m *api.Msg) { m.Commit = huge + 1 },
		func(m *api.Msg) { m.Last = -1 },
		func(m *api.Msg) { m.Last = huge + 1 },
		func(m *api.Msg) { m.Entry.Client = 8 },
		func(m *api.Msg) { m.Entry.Client = -1 },
		func(m *api.Msg) { m.Entry.Num = -1 },
		func(m *api.Msg) { m.Entry.Num = api.MaxQty + 1 },
		func(m *api.Msg) { m.Entry.Op.Kind = api.LastOp + 1 },
		func(m *api.Msg) { m.Res.Code = 7 },
		func(m *api.Msg) { m.Res.A = -1 },
		func(m *api.Msg) { m.Image.Base = -1 },
		func(m *api.Msg) { m.Image.Commit = -1 },
		func(m *api.Msg) { m.Image.Ckpt = make([]byte, 16385) },
		func(m *api.Msg) { m.Image.Entries = []api.Entry{{}} },
	}
	for i, bad := range spoil {
		for _, m := range valid() {
			bad(&m)
			if b, e := msg.Bytes(m); msg.Check(m) != api.ErrArg || b != nil || e != api.ErrArg {
				t.Error("accepted", i, m.Kind)
			}
		}
	}
}

// TestFields sets each field of each kind: a kind refuses those that it does not have.
func TestFields(t *testing.T) { // P5.1
	set := map[string]func(*api.Msg){
		"View":   func(m *api.Msg) { m.View = 77 },
		"Op":     func(m *api.Msg) { m.Op = 77 },
		"Commit": func(m *api.Msg) { m.Commit = 77 },
		"Last":   func(m *api.Msg) { m.Last = 77 },
		"Entry":  func(m *api.Msg) { m.Entry = reserve() },
		"Asker":  func(m *api.Msg) { m.Entry = asker() },
		"Res":    func(m *api.Msg) { m.Res = api.Res{Code: 1, A: 2, B: 3} },
		"Sure":   func(m *api.Msg) { m.Sure = true },
		"Image":  func(m *api.Msg) { m.Image = image() },
	}
	has := [...]string{
		api.MsgRequest: " Entry ", api.MsgReply: " View Op Asker Res Sure ", api.MsgPrepare: " View Op Commit Entry ", api.MsgOk: " View Op ", api.MsgCommit: " View Op Commit ",
		api.MsgStart: " View ", api.MsgChange: " View Last Image ", api.MsgAsk: " View Op ", api.MsgState: " View Image ", api.MsgBusy: " View Asker ",
	}
	for _, m := range valid() {
		for field, f := range set {
			x := msg.Copy(m)
			f(&x)
			want := api.ErrArg
			if bytes.Contains([]byte(has[m.Kind]), []byte(" "+field+" ")) {
				want = api.OK
			}
			if msg.Check(x) != want {
				t.Error(m.Kind, field, want)
			}
		}
	}
}

func TestBytes(t *testing.T) { // P5.2
	for _, c := range []struct {
		m    api.Msg
		want string
	}{
		{api.Msg{Kind: api.MsgOk, From: 1, To: 0, View: 2, Op: 300}, "\x04\x01\x00\x02\xac\x02"},
		{api.Msg{Kind: api.MsgReply, From: 0, To: 17, View: 1, Op: 5, Entry: asker(), Res: api.Res{A: 5}, Sure: true}, "\x02\x00\x11\x01\x05\x02\x09\x03\x00\x05\x00\x01"},
		{api.Msg{Kind: api.MsgPrepare, From: 0, To: 1, View: 1, Op: 5, Commit: 4, Entry: ship(2, 300)}, "\x03\x00\x01\x01\x05\x04\x05\x02\xac\x02\x06\x05"},
		{api.Msg{Kind: api.MsgRequest, From: 17, To: 1, Entry: ship(2, 300)}, "\x01\x11\x01\x05\x02\xac\x02\x06\x05"},
		{api.Msg{Kind: api.MsgBusy, From: 0, To: 17, View: 3, Entry: asker()}, "\x0a\x00\x11\x03\x02\x09"},
		{api.Msg{Kind: api.MsgCommit, From: 0, To: 1, View: 3, Op: 2, Commit: 1}, "\x05\x00\x01\x03\x02\x01"},
		{api.Msg{Kind: api.MsgStart, From: 0, To: 1, View: 3}, "\x06\x00\x01\x03"},
		{api.Msg{Kind: api.MsgAsk, From: 0, To: 1, View: 3, Op: 300}, "\x08\x00\x01\x03\xac\x02"},
		{api.Msg{Kind: api.MsgChange, From: 0, To: 1, View: 3, Last: 2, Image: api.Image{Base: 4, Commit: 5, Ckpt: []byte("xyz"), Entries: []api.Entry{ship(2, 300)}}},
			"\x07\x00\x01\x03\x02\x04\x05\x03xyz\x07\x01\x05\x02\xac\x02\x06\x05"},
		{api.Msg{Kind: api.MsgState, From: 0, To: 1, View: 3}, "\x09\x00\x01\x03\x00\x00\x00\x01\x00"},
	} {
		want, _ := sum.Seal([]byte(c.want))
		if b, e := msg.Bytes(c.m); !bytes.Equal(b, want) || e != api.OK {
			t.Errorf("%v: %x, %d", c.m, b, e)
		}
	}
}

func TestRoundTrip(t *testing.T) { // P5.5
	for _, m := range valid() {
		b, e := msg.Bytes(m)
		back, f := msg.Parse(b)
		if e != api.OK || f != api.OK || !msg.Same(back, m) {
			t.Error(m.Kind, e, f)
		}
	}
}

func TestParseErrors(t *testing.T) { // P5.2
	for b, want := range map[string]api.Errno{
		"":                         api.ErrTrunc,
		"\x04\x01":                 api.ErrTrunc,
		"\x04\x01\x00\x02":         api.ErrTrunc,
		"\x04\x01\x00\x02\x80":     api.ErrTrunc,
		"\x04\x01\x00\x02\x80\x00": api.ErrForm,
		"\x04\x01\x00\x02\xff\xff\xff\xff\xff\xff\xff\xff\xff\x02": api.ErrRange,
		"\x04\x01\x00\x02\xff\xff\xff\xff\xff\xff\xff\xff\xff\x01": api.ErrForm,
		"\x04\x01\x00\x02\x80\x80\x80\x80\x80\x80\x80\x10":         api.ErrForm, // 2^53
		"\x04\x01\x00\x02\x05\x00":                                 api.ErrForm, // one byte too many
		"\x04\x17\x00\x02\x05":                                     api.ErrForm,
		"\x04\x01\x17\x02\x05":                                     api.ErrForm,
		"\x00\x01\x00":                                             api.ErrForm,
		"\x0b\x01\x00":                                             api.ErrForm,
		"\x0b\x01":                                                 api.ErrTrunc,
		"\xff\x01\x00\x02\x05":                                     api.ErrForm,
		"\x01\x11\x01\x04\x02\xac\x02\x06":                         api.ErrTrunc, // of the entry
		"\x01\x11\x01\x05\x08\xac\x02\x06\x05":                     api.ErrForm,
		"\x01\x11\x01\x06\x02\xac\x02\x06\x05":                     api.ErrTrunc,
		"\x02\x00\x11\x01\x05\x02\x09\x02\x00\x05\x01":             api.ErrTrunc, // of the result
		"\x02\x00\x11\x01\x05\x02\x09\x03\x07\x05\x00\x01":         api.ErrForm,
		"\x02\x00\x11\x01\x05\x02\x09\x03\x00\x05\x00":             api.ErrTrunc,
		"\x02\x00\x11\x01\x05\x02\x09\x03\x00\x05\x00\x02":         api.ErrForm,
		"\x02\x00\x11\x01\x05\x08\x09\x03\x00\x05\x00\x01":         api.ErrForm,
		"\x02\x00\x11\x01\x05\x02\x00\x03\x00\x05\x00\x01":         api.ErrForm,
		"\x09\x00\x01\x03\x00\x00\x00\x00":                         api.ErrTrunc, // of the list
		"\x09\x00\x01\x03\x00\x00\x00\x02\x00\x00":                 api.ErrForm,
		"\x09\x00\x01\x03\x01\x00\x00\x01\x00":                     api.ErrForm, // Commit below Base
		"\x09\x00\x01\x03\x00\x00\x02\x00":                         api.ErrTrunc,
	} {
		s, _ := sum.Seal([]byte(b))
		if m, e := msg.Parse(s); e != want || !msg.Same(m, api.Msg{}) {
			t.Errorf("%x: %v, %d", b, m, e)
		}
	}
	for n, want := range map[int]api.Errno{3: api.ErrTrunc, 5: api.ErrSum, api.MaxFrame: api.ErrSum, api.MaxFrame + 1: api.ErrLimit} {
		if _, e := msg.Parse(bytes.Repeat([]byte{1}, n)); e != want {
			t.Error(n, e)
		}
	}
}

func TestSame(t *testing.T) { // P5.3
	change := []func(*api.Msg){
		func(m *api.Msg) { m.Kind++ }, func(m *api.Msg) { m.From++ }, func(m *api.Msg) { m.To++ }, func(m *api.Msg) { m.View++ }, func(m *api.Msg) { m.Op++ },
		func(m *api.Msg) { m.Commit++ }, func(m *api.Msg) { m.Last++ }, func(m *api.Msg) { m.Entry.Num++ }, func(m *api.Msg) { m.Entry.Op.Lines[1].N++ }, func(m *api.Msg) { m.Res.B++ },
		func(m *api.Msg) { m.Sure = !m.Sure }, func(m *api.Msg) { m.Image.Base++ }, func(m *api.Msg) { m.Image.Commit++ }, func(m *api.Msg) { m.Image.Ckpt[0]++ },
		func(m *api.Msg) { m.Image.Entries[1].Op.Lines[0].Sku = "x" }, func(m *api.Msg) { m.Image.Entries = m.Image.Entries[:1] }, func(m *api.Msg) { m.Image.Ckpt = nil },
	}
	whole := func() api.Msg {
		return api.Msg{Kind: 1, From: 2, To: 3, View: 4, Op: 5, Commit: 6, Last: 7, Entry: reserve(), Res: api.Res{A: 1}, Image: image()}
	}
	for i, f := range change {
		m, x := whole(), msg.Copy(whole())
		if !msg.Same(m, x) {
			t.Fatal("a copy")
		}
		f(&x) // also tells that a copy shares no memory
		if msg.Same(m, x) || msg.Same(x, m) || !msg.Same(m, whole()) {
			t.Error(i)
		}
		if i > 10 && (msg.SameImage(m.Image, x.Image) || !msg.SameImage(m.Image, msg.CopyImage(m.Image))) {
			t.Error(i)
		}
	}
	if !msg.SameImage(api.Image{}, api.Image{Ckpt: []byte{}, Entries: []api.Entry{}}) {
		t.Error("nil and empty lists are the same")
	}
}

func TestOwnMemory(t *testing.T) { // P5.4
	m := valid()[8]
	b, _ := msg.Bytes(m)
	back, _ := msg.Parse(b)
	clear(b)
	if !msg.Same(back, m) {
		t.Error("Parse shares memory")
	}
	c := msg.CopyImage(m.Image)
	c.Ckpt[0], c.Entries[1].Op.Lines[0].Sku = 'q', "q"
	if !msg.SameImage(m.Image, image()) {
		t.Error("CopyImage shares memory")
	}
}

func TestFlips(t *testing.T) { // P5.5
	r := rand.New(rand.NewSource(1))
	for _, m := range valid() {
		b, _ := msg.Bytes(m)
		for range 200 {
			at, wide := r.Intn(8*len(b)), r.Uint32()|1
			s := bytes.Clone(b)
			for k := range 32 {
				if wide>>k&1 == 1 && at+k < 8*len(b) {
					s[(at+k)/8] ^= 1 << ((at + k) % 8)
				}
			}
			if _, e := msg.Parse(s); e != api.ErrSum {
				t.Fatal(m.Kind, at, e)
			}
		}
	}
}

func TestOneEncoding(t *testing.T) { // P5.5
	r := rand.New(rand.NewSource(2))
	parsed := 0
	all := valid()
	for range 40000 {
		s, _ := msg.Bytes(all[r.Intn(11)])
		b, _ := sum.Open(s)
		b[r.Intn(len(b))] = byte(r.Intn(256))
		s, _ = sum.Seal(b)
		m, e := msg.Parse(s)
		if e != api.OK {
			continue
		}
		parsed++
		if again, f := msg.Bytes(m); f != api.OK || !bytes.Equal(again, s) {
			t.Fatalf("%x is another encoding", s)
		}
	}
	if parsed < 1000 {
		t.Error("only", parsed, "were parsed")
	}
}
