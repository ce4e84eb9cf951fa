package store_test

import (
	"bytes"
	"math"
	"math/rand"
	"testing"

	"gimbal/api"
	"gimbal/bits"
	"gimbal/disk"
	"gimbal/entry"
	"gimbal/fold"
	"gimbal/record"
	"gimbal/store"
	"gimbal/sum"
)

func restock(n int) api.Entry {
	return api.Entry{Client: 1, Num: n, Op: api.Op{Kind: api.OpRestock, Sku: "a", N: n}}
}

func reserve() api.Entry {
	return api.Entry{Client: 1, Num: 9, Op: api.Op{Kind: api.OpReserve, Order: 7, N: 9, Lines: []api.Line{{Sku: "a", N: 1}}}}
}

var x, y, z = restock(1), restock(2), reserve()

// ckpt is a checkpoint of some entries.
func ckpt(base int) []byte {
	s := fold.New()
	for i := range base {
		s.Do(restock(i + 1))
	}
	return s.Bytes()
}

func based(view, base int, l ...api.Entry) api.Kept {
	return api.Kept{View: view, Last: view, Base: base, Ckpt: ckpt(base), Entries: l}
}

func open(t *testing.T, d *disk.Disk) *store.Store {
	t.Helper()
	s, e := store.Open(d)
	if e != api.OK || s.Dead() {
		t.Fatal(e)
	}
	return s
}

func same(a, b api.Kept) bool {
	return a.View == b.View && a.Last == b.Last && a.Base == b.Base && bytes.Equal(a.Ckpt, b.Ckpt) && entry.SameRow(a.Entries, b.Entries)
}

// is also tells that a store that is opened again has the same state.
func is(t *testing.T, d *disk.Disk, s *store.Store, want api.Kept) {
	t.Helper()
	if !same(s.Kept(), want) {
		t.Error(s.Kept(), "instead of", want)
	}
	if again := open(t, d); !same(again.Kept(), want) {
		t.Error(again.Kept(), "instead of", want, "when opened again")
	}
}

func TestExample(t *testing.T) { // P15.1, P15.2, P15.3, P15.4
	d := disk.New()
	s := open(t, d)
	is(t, d, s, api.Kept{Ckpt: ckpt(0)})
	if s.Put(1, x) != api.OK || s.Put(2, y) != api.OK || s.Put(2, z) != api.OK {
		t.Error("Put")
	}
	is(t, d, s, api.Kept{Ckpt: ckpt(0), Entries: []api.Entry{x, z}})
	if s.Put(4, x) != api.ErrRange || s.View(3, 1) != api.OK {
		t.Error("Put, View")
	}
	is(t, d, s, api.Kept{View: 3, Last: 1, Ckpt: ckpt(0), Entries: []api.Entry{x, z}})
	if s.Base(based(3, 2)) != api.OK || s.Put(2, x) != api.ErrRange || s.Put(3, x) != api.OK {
		t.Error("Base")
	}
	is(t, d, s, based(3, 2, x))
	d.Arm(5)
	if s.View(9, 9) != api.ErrDead || s.Kept().View != 3 || !s.Dead() || !d.Dead() {
		t.Error("a torn View")
	}
	if _, e := store.Open(d); e != api.ErrDead {
		t.Error(e)
	}
	d.Revive()
	is(t, d, open(t, d), based(3, 2, x))
}

func TestErrors(t *testing.T) { // P15.2, P15.3, P15.5
	d := disk.New()
	s := open(t, d)
	s.Base(based(1, 3, x, y))
	log := d.Log()
	for i, c := range []struct{ got, want api.Errno }{
		{s.Put(6, api.Entry{}), api.ErrArg}, {s.Put(99, api.Entry{Client: 9}), api.ErrArg},
		{s.Put(3, x), api.ErrRange}, {s.Put(7, x), api.ErrRange}, {s.Put(0, x), api.ErrRange}, {s.Put(-1, x), api.ErrRange}, {s.Put(math.MinInt, x), api.ErrRange}, {s.Put(math.MaxInt, x), api.ErrRange},
		{s.View(-1, 0), api.ErrArg}, {s.View(0, -1), api.ErrArg}, {s.View(api.MaxNumber+1, 0), api.ErrArg}, {s.View(0, api.MaxNumber+1), api.ErrArg},
		{s.Base(api.Kept{}), api.ErrArg},                         // no checkpoint
		{s.Base(api.Kept{Ckpt: ckpt(1)}), api.ErrArg},            // of another base
		{s.Base(api.Kept{Base: 2, Ckpt: ckpt(3)}), api.ErrArg},   // of another base
		{s.Base(api.Kept{Base: 3, Ckpt: other(3)}), api.ErrArg},  // not the current one
		{s.Base(api.Kept{Base: 0, Ckpt: stocked()}), api.ErrArg}, // not the empty one
		{s.Base(api.Kept{Base: -1, Ckpt: ckpt(0)}), api.ErrArg},
		{s.Base(api.Kept{View: -1, Base: 3, Ckpt: ckpt(3)}), api.ErrArg},
		{s.Base(api.Kept{Last: -1, Base: 3, Ckpt: ckpt(3)}), api.ErrArg},
		{s.Base(based(api.MaxNumber+1, 3)), api.ErrArg},
		{s.Base(based(1, 3, x, api.Entry{})), api.ErrArg},
		{s.Base(based(1, 3, make([]api.Entry, 25)...)), api.ErrArg},
		{s.Base(api.Kept{Base: 2, Ckpt: append(ckpt(2), 0)}), api.ErrArg},
	} {
		if c.got != c.want {
			t.Error(i, c.got)
		}
	}
	if !bytes.Equal(d.Log(), log) || s.Dead() {
		t.Error("an error changed something")
	}
	is(t, d, s, based(1, 3, x, y))
}

// other is another state of that op.
func other(base int) []byte {
	s := fold.New()
	for range base {
		s.Do(restock(1))
	}
	return s.Bytes()
}

// stocked is a state without entries that has a sku nevertheless.
func stocked() []byte {
	return bits.Text(bits.Text([]byte{0}, []byte{0}), []byte("\x00\x01\x01a\x05\x00\x00"))
}

func TestFull(t *testing.T) { // P15.2
	s := open(t, disk.New())
	for i := range 24 {
		if s.Put(i+1, x) != api.OK {
			t.Fatal(i)
		}
	}
	if s.Put(25, x) != api.ErrLimit || s.Put(26, x) != api.ErrRange || s.Put(24, y) != api.OK || s.Put(5, y) != api.OK || len(s.Kept().Entries) != 5 {
		t.Error("24 entries")
	}
	last := bits.Text(bits.Text(bits.Varint(nil, api.MaxNumber), []byte{0}), []byte{0, 0, 0})
	if s.Base(api.Kept{Base: api.MaxNumber, Ckpt: last}) != api.OK || s.Put(api.MaxNumber+1, x) != api.ErrLimit || s.Put(api.MaxNumber+2, x) != api.ErrRange {
		t.Error("the greatest op")
	}
}

func TestSlots(t *testing.T) { // P15.3
	d := disk.New()
	s := open(t, d)
	slot := func(b []byte) int {
		inner, e := sum.Open(b)
		if e != api.OK {
			return -1
		}
		r := bits.Read(inner)
		n := int(r.Varint())
		if !bytes.Equal(r.Text(), ckpt(n)) || r.End() != api.OK {
			t.Error("a slot is not a checkpoint")
		}
		return n
	}
	for i, c := range []struct{ base, first, second int }{{2, 2, -1}, {2, 2, -1}, {5, 2, 5}, {5, 2, 5}, {7, 7, 5}, {0, 7, 5}, {0, 7, 5}, {5, 5, 5}, {9, 5, 9}, {3, 3, 9}} {
		if e := s.Base(based(i, c.base, x)); e != api.OK {
			t.Error(i, e)
		}
		b := d.Slots()
		if slot(b[0]) != c.first || slot(b[1]) != c.second {
			t.Error(i, slot(b[0]), slot(b[1]))
		}
		is(t, d, s, based(i, c.base, x))
		if i%2 == 0 {
			s = open(t, d)
		}
		one, _ := record.Bytes(api.Rec{Kind: api.RecBase, Op: c.base, View: i, Last: i, Entries: []api.Entry{x}})
		if !bytes.Equal(d.Log(), one) {
			t.Error(i, "the journal is not trimmed")
		}
	}
}

// step is a call, and what becomes of the durable state by it.
type step struct {
	call func(s *store.Store) api.Errno
	done func(k *api.Kept)
}

func putStep(op int, n api.Entry) step {
	return step{
		func(s *store.Store) api.Errno { return s.Put(op, n) },
		func(k *api.Kept) { k.Entries = append(k.Entries[:op-k.Base-1:op-k.Base-1], n) },
	}
}

func viewStep(view, last int) step {
	return step{
		func(s *store.Store) api.Errno { return s.View(view, last) },
		func(k *api.Kept) { k.View, k.Last = view, last },
	}
}

func baseStep(n api.Kept) step {
	return step{
		func(s *store.Store) api.Errno { return s.Base(n) },
		func(k *api.Kept) { *k = n },
	}
}

func steps() []step {
	return []step{
		putStep(1, x), putStep(2, y), viewStep(3, 0), putStep(2, z), baseStep(based(3, 0, x)), baseStep(based(4, 2, y)), putStep(4, x), baseStep(based(4, 2, y, z)),
		baseStep(based(5, 6)), putStep(7, z), viewStep(300, 5), baseStep(based(301, 9, x, y, z)), baseStep(based(302, 6)), putStep(7, y),
	}
}

func TestTearAnywhere(t *testing.T) { // P15.4, P15.6
	all := steps()
	for i := range all {
		for cut := range 200 {
			d := disk.New()
			s := open(t, d)
			before := api.Kept{Ckpt: ckpt(0)}
			for _, c := range all[:i] {
				if c.call(s) != api.OK {
					t.Fatal(i)
				}
				c.done(&before)
			}
			after := before
			all[i].done(&after)
			d.Arm(cut)
			if e := all[i].call(s); e != api.ErrDead || !same(s.Kept(), before) || !s.Dead() {
				t.Fatal(i, cut, e)
			}
			if s.Put(-1, api.Entry{}) != api.ErrDead || s.View(-1, -1) != api.ErrDead || s.Base(api.Kept{}) != api.ErrDead {
				t.Error("a dead store tells that first")
			}
			d.Revive()
			if s.Put(1, x) != api.ErrDead || !same(s.Kept(), before) {
				t.Error("it stays dead")
			}
			again := open(t, d)
			if k := again.Kept(); !same(k, before) && !same(k, after) {
				t.Fatal(i, cut, k)
			}
			for j, c := range all[i:] {
				if c.call(again) != api.OK {
					if j == 0 && same(again.Kept(), after) {
						continue
					}
					t.Fatal(i, cut, j)
				}
			}
		}
	}
}

func TestTearOfTheRecordAfterTheSlot(t *testing.T) { // P15.6
	for cut := range 40 {
		d := disk.New()
		s := open(t, d)
		s.Base(based(1, 2, x))
		size := len(d.Slots()[0])
		s.Base(based(2, 5))
		d2 := disk.New()
		s2 := open(t, d2)
		s2.Base(based(1, 2, x))
		d2.Slot(1, d.Slots()[1]) // as if the slot had been written, and the record had torn
		d2.Arm(cut)
		d2.Append(d.Log())
		d2.Revive()
		k := open(t, d2).Kept()
		if whole := cut >= len(d.Log()); !same(k, based(1, 2, x)) && !whole || whole && !same(k, based(2, 5)) {
			t.Fatal(cut, size, k)
		}
	}
}

func TestOpenErrors(t *testing.T) { // P15.1
	for _, d := range []*disk.Disk{nil, {}} {
		if s, e := store.Open(d); s != nil || e != api.ErrNil {
			t.Error(e)
		}
	}
	rec := func(r api.Rec) []byte {
		b, e := record.Bytes(r)
		if e != api.OK {
			t.Fatal(e)
		}
		return b
	}
	put := func(op int) []byte { return rec(api.Rec{Kind: api.RecPut, Op: op, Entry: x}) }
	base := func(op, entries int) []byte {
		var l []api.Entry
		for range entries {
			l = append(l, x)
		}
		return rec(api.Rec{Kind: api.RecBase, Op: op, Entries: l})
	}
	good := func(op int) []byte {
		b, _ := sum.Seal(bits.Text(bits.Varint(nil, uint64(op)), ckpt(op)))
		return b
	}
	sealed := func(b []byte) []byte {
		s, _ := sum.Seal(b)
		return s
	}
	for name, c := range map[string]struct {
		log, slot []byte
		want      api.Errno
	}{
		"nothing":                {nil, nil, api.OK},
		"put":                    {put(1), nil, api.OK},
		"put too far":            {put(2), nil, api.ErrSpoil},
		"put again":              {append(put(1), put(1)...), nil, api.OK},
		"put below the base":     {append(base(3, 0), put(3)...), good(3), api.ErrSpoil},
		"put after the base":     {append(base(3, 0), put(4)...), good(3), api.OK},
		"base without slot":      {base(3, 0), nil, api.ErrSpoil},
		"slot of another base":   {base(3, 0), good(2), api.ErrSpoil},
		"slot of another state":  {base(3, 0), sealed(bits.Text([]byte{3}, ckpt(2))), api.ErrSpoil},
		"slot with something":    {base(3, 0), sealed(append(bits.Text([]byte{3}, ckpt(3)), 0)), api.ErrSpoil},
		"slot torn":              {base(3, 0), good(3)[:9], api.ErrSpoil},
		"slot not sealed":        {base(3, 0), bits.Text([]byte{3}, ckpt(3)), api.ErrSpoil},
		"slot without a state":   {base(3, 0), sealed(bits.Text([]byte{3}, []byte("x"))), api.ErrSpoil},
		"base 0 needs none":      {append(base(3, 0), base(0, 1)...), nil, api.OK},
		"bad slot is not needed": {put(1), []byte("x"), api.OK},
		"24 entries":             {base(0, 24), nil, api.OK},
		"25 entries":             {append(base(0, 24), put(25)...), nil, api.ErrSpoil},
		"24 again":               {append(base(0, 24), put(24)...), nil, api.OK},
		"torn":                   {append(put(1), put(2)[:7]...), nil, api.OK},
		"corrupt":                {append(put(1)[1:], put(2)...), nil, api.ErrSpoil},
		"corrupt before invalid": {append(put(2), 1, 2, 3, 4, 5), nil, api.ErrSpoil},
	} {
		for slot := range 2 {
			d := disk.New()
			d.Append(c.log)
			d.Slot(slot, c.slot)
			s, e := store.Open(d)
			if e != c.want || (e == api.OK) != (s != nil) {
				t.Error(name, e)
			}
			if e != api.OK && !bytes.Equal(d.Log(), c.log) {
				t.Error(name, "an error changed something")
			}
			if name == "torn" && !bytes.Equal(d.Log(), put(1)) {
				t.Error("the journal is not cut")
			}
		}
	}
}

func TestFirstGoodSlot(t *testing.T) { // P15.1
	d := disk.New()
	s := open(t, d)
	s.Base(based(1, 2))
	second, _ := sum.Seal(bits.Text([]byte{2}, other(2)))
	d.Slot(1, second)
	is(t, d, open(t, d), based(1, 2))
	d.Slot(0, nil)
	if k := open(t, d).Kept(); !bytes.Equal(k.Ckpt, other(2)) {
		t.Error(k)
	}
}

func TestFlips(t *testing.T) { // P15.7
	d := disk.New()
	s := open(t, d)
	s.Put(1, x)
	s.View(3, 2)
	s.Put(2, z)
	first := len(d.Log())
	s.View(4, 2)
	log := d.Log()
	for at := range first {
		for _, flip := range []byte{1, 0x10, 0x80, 0xFF} {
			bad := bytes.Clone(log)
			bad[at] ^= flip
			d := disk.New()
			d.Append(bad)
			if s, e := store.Open(d); s != nil || e != api.ErrSpoil {
				t.Fatal(at, flip, e)
			}
		}
	}
}

func TestAnyErrorOfTheDisk(t *testing.T) { // P15.4
	d := disk.New()
	s := open(t, d)
	d.Append(make([]byte, 1<<20)) // there is no room
	if s.View(1, 1) != api.ErrDead || !s.Dead() || s.Kept().View != 0 || d.Dead() {
		t.Error("an error of the disk")
	}
	d = disk.New()
	s = open(t, d)
	d.Arm(0)
	d.Append([]byte("x"))
	if s.Dead() || s.View(-1, 1) != api.ErrArg || s.Base(based(1, 2)) != api.ErrDead || !s.Dead() {
		t.Error("a disk that died before")
	}
}

func TestNoStore(t *testing.T) { // R1
	for _, s := range []*store.Store{nil, {}} {
		if s.Put(1, x) != api.ErrNil || s.View(-1, 1) != api.ErrNil || s.Base(api.Kept{}) != api.ErrNil || !same(s.Kept(), api.Kept{}) || s.Kept().Ckpt != nil || s.Dead() {
			t.Error("nothing")
		}
	}
}

func TestOwnMemory(t *testing.T) { // P15.5
	d := disk.New()
	s := open(t, d)
	n := reserve()
	s.Put(1, n)
	n.Op.Lines[0].Sku = "q"
	s.Kept().Entries[0].Op.Lines[0].Sku = "q"
	clear(s.Kept().Ckpt)
	is(t, d, s, api.Kept{Ckpt: ckpt(0), Entries: []api.Entry{z}})
	k := based(1, 2, reserve())
	s.Base(k)
	clear(k.Ckpt)
	k.Entries[0].Op.Lines[0].Sku = "q"
	is(t, d, s, based(1, 2, z))
	s.Put(4, z)
	is(t, d, s, based(1, 2, z, z))
}

func TestRandom(t *testing.T) { // P15.6, P15.7
	r := rand.New(rand.NewSource(1))
	for range 40 {
		d := disk.New()
		s := open(t, d)
		want := api.Kept{Ckpt: ckpt(0)}
		for range 80 {
			var c step
			switch r.Intn(5) {
			case 0:
				c = viewStep(r.Intn(999), r.Intn(999))
			case 1:
				c = baseStep(based(r.Intn(99), r.Intn(12), x, y))
			default:
				if len(want.Entries) == 24 {
					continue
				}
				c = putStep(want.Base+1+r.Intn(len(want.Entries)+1), restock(1+r.Intn(9)))
			}
			torn := r.Intn(4) == 0
			if torn {
				d.Arm(r.Intn(60))
			}
			before := want
			if e := c.call(s); torn != (e == api.ErrDead) || !torn && e != api.OK {
				t.Fatal(torn, e)
			}
			c.done(&want)
			if torn {
				d.Revive()
				s = open(t, d)
				if k := s.Kept(); same(k, before) {
					want = before
				}
			}
			is(t, d, s, want)
		}
	}
}
