package spec_test

import (
	"bytes"
	"math"
	"math/rand"
	"testing"

	"gimbal/api"
	"gimbal/bits"
	"gimbal/entry"
	"gimbal/fold"
	"gimbal/spec"
)

func restock(client, num int) api.Entry {
	return api.Entry{Client: client, Num: num, Op: api.Op{Kind: api.OpRestock, Sku: "a", N: 5}}
}

func reserve(client, num, id int) api.Entry {
	return api.Entry{Client: client, Num: num, Op: api.Op{Kind: api.OpReserve, Order: id, N: 9, Lines: []api.Line{{Sku: "a", N: 1}}}}
}

// numbered is the n-th entry of a log.
func numbered(n int) api.Entry { return restock(1, n) }

func run(l ...api.Entry) *spec.Spec {
	s := spec.New()
	for i, x := range l {
		if i >= 8 {
			s.Commit(i - 7)
		}
		s.Exec(x)
	}
	return s
}

func first(n int) []api.Entry {
	var l []api.Entry
	for i := range n {
		l = append(l, numbered(i+1))
	}
	return l
}

func result(l ...api.Entry) []byte {
	s, _ := fold.Of(l)
	return s.Bytes()
}

// is checks everything of s: l are the entries from the first one on.
func is(t *testing.T, s *spec.Spec, l []api.Entry, base, commit int) {
	t.Helper()
	m := s.Image()
	if s.Base() != base || s.Committed() != commit || s.Top() != len(l) || m.Base != base || m.Commit != commit || !entry.SameRow(m.Entries, l[base:]) {
		t.Fatal(s.Base(), s.Committed(), s.Top(), "instead of", base, commit, len(l))
	}
	if !bytes.Equal(s.Now(), result(l...)) || !bytes.Equal(s.Sure(), result(l[:commit]...)) || !bytes.Equal(m.Ckpt, result(l[:base]...)) {
		t.Fatal("a state is not the result of the log")
	}
	f := fold.New()
	for i, x := range l {
		want, _, _ := f.Do(x)
		y, r, e := s.Answer(i + 1)
		if i < base && (e != api.ErrRange || r != (api.Res{}) || !entry.Same(y, api.Entry{})) || i >= base && (e != api.OK || r != want || !entry.Same(x, y)) {
			t.Fatal(i+1, y, r, e)
		}
	}
}

func TestExample(t *testing.T) { // P17.1, P17.2, P17.3
	s := spec.New()
	tell := api.Entry{Client: 1, Num: 2, Op: api.Op{Kind: api.OpSku, Sku: "a"}}
	is(t, s, nil, 0, 0)
	if op, r, e := s.Exec(restock(1, 1)); op != 1 || r != (api.Res{A: 5}) || e != api.OK {
		t.Error(op, r, e)
	}
	if op, r, e := s.Exec(tell); op != 2 || r != (api.Res{A: 5}) || e != api.OK || s.Commit(1) != api.OK {
		t.Error(op, r, e)
	}
	is(t, s, []api.Entry{restock(1, 1), tell}, 0, 1)
	if s.Judge(1, 2) != api.SeatSame || s.Judge(1, 3) != api.SeatNew {
		t.Error("Judge")
	}
	if seat, had := s.Seat(1); !had || seat != (api.Seat{Client: 1, Num: 2, Op: 2, Res: api.Res{A: 5}}) {
		t.Error(seat, had)
	}
	if s.Rollback(0) != api.ErrRange || s.Rollback(1) != api.OK || s.Top() != 1 || !bytes.Equal(s.Sure(), s.Now()) {
		t.Error("Rollback")
	}
	is(t, s, []api.Entry{restock(1, 1)}, 0, 1)
	if base, ckpt := s.Settle(); base != 1 || !bytes.Equal(ckpt, result(restock(1, 1))) {
		t.Error(base)
	}
	is(t, s, []api.Entry{restock(1, 1)}, 1, 1)
}

func TestExecErrors(t *testing.T) { // P17.1
	s := spec.New()
	for _, x := range []api.Entry{{}, restock(9, 1), restock(1, 0)} {
		if op, r, e := s.Exec(x); op != 0 || r != (api.Res{}) || e != api.ErrArg {
			t.Error(op, r, e)
		}
	}
	for n := 1; n <= 8; n++ {
		if op, _, e := s.Exec(numbered(n)); op != n || e != api.OK {
			t.Error(op, e)
		}
	}
	if op, r, e := s.Exec(numbered(9)); op != 0 || r != (api.Res{}) || e != api.ErrLimit {
		t.Error("a ninth after the commit", op, e)
	}
	is(t, s, first(8), 0, 0)
	for n := 9; n <= 24; n++ {
		if s.Commit(n-8) != api.OK {
			t.Error(n)
		}
		if op, _, e := s.Exec(numbered(n)); op != n || e != api.OK {
			t.Error(op, e)
		}
	}
	s.Commit(20)
	if _, _, e := s.Exec(numbered(25)); e != api.ErrLimit {
		t.Error("a twenty-fifth", e)
	}
	if _, _, e := s.Exec(api.Entry{}); e != api.ErrArg {
		t.Error("the entry is checked first", e)
	}
	is(t, s, first(24), 0, 20)
	s.Settle()
	if op, _, e := s.Exec(numbered(25)); op != 25 || e != api.OK {
		t.Error(op, e)
	}
	is(t, s, first(25), 20, 20)
}

// far is the image of an empty log after an op.
func far(base int) api.Image {
	return api.Image{Base: base, Commit: base, Ckpt: bits.Text(bits.Text(bits.Varint(nil, uint64(base)), []byte{0}), []byte{0, 0, 0})}
}

func TestGreatestOp(t *testing.T) { // P17.1, P17.4
	s := spec.New()
	m := far(api.MaxNumber - 1)
	if from, e := s.Adopt(m); from != m.Base || e != api.OK {
		t.Fatal(from, e)
	}
	if op, _, e := s.Exec(numbered(1)); op != api.MaxNumber || e != api.OK {
		t.Error(op, e)
	}
	if _, _, e := s.Exec(numbered(2)); e != api.ErrLimit {
		t.Error(e)
	}
	m.Entries = first(2)
	if _, e := s.Adopt(m); e != api.ErrArg {
		t.Error(e)
	}
}

func TestCommitAndRollback(t *testing.T) { // P17.2, P17.8
	s := run(first(8)...)
	s.Commit(3)
	for _, op := range []int{2, 9, -1, math.MinInt, math.MaxInt} {
		if s.Commit(op) != api.ErrRange || s.Rollback(op) != api.ErrRange {
			t.Error(op)
		}
	}
	is(t, s, first(8), 0, 3)
	for _, op := range []int{8, 6, 6, 4} {
		if s.Rollback(op) != api.OK {
			t.Error(op)
		}
		is(t, s, first(op), 0, 3)
	}
	if s.Exec(reserve(2, 1, 7)); s.Commit(5) != api.OK || s.Rollback(5) != api.OK || s.Rollback(4) != api.ErrRange {
		t.Error("after more")
	}
	is(t, s, append(first(4), reserve(2, 1, 7)), 0, 5)
}

func image(l []api.Entry, base, commit int) api.Image {
	return api.Image{Base: base, Ckpt: result(l[:base]...), Entries: l[base:], Commit: commit}
}

func TestCannotBeAdopted(t *testing.T) { // P17.4
	s := run(first(3)...)
	for name, m := range map[string]api.Image{
		"nothing":              {},
		"no checkpoint":        {Base: 3, Commit: 3},
		"of another op":        {Base: 3, Ckpt: result(first(2)...), Commit: 3},
		"negative":             {Base: -1, Ckpt: result(), Commit: -1},
		"bytes remain":         {Ckpt: append(result(), 0)},
		"too many":             {Ckpt: result(), Entries: first(25), Commit: 20},
		"invalid entry":        {Ckpt: result(), Entries: []api.Entry{numbered(1), {}}},
		"commit below base":    {Base: 2, Ckpt: result(first(2)...), Commit: 1},
		"commit after top":     {Ckpt: result(), Entries: first(2), Commit: 3},
		"commit too far back":  {Ckpt: result(), Entries: first(9), Commit: 0},
		"negative commit":      {Ckpt: result(), Commit: math.MinInt},
		"greatest commit":      {Ckpt: result(), Commit: math.MaxInt},
		"base without a state": {Base: math.MaxInt, Ckpt: result(), Commit: math.MaxInt},
	} {
		if from, e := s.Adopt(m); from != 0 || e != api.ErrArg {
			t.Error(name, from, e)
		}
	}
	is(t, s, first(3), 0, 0)
	if from, e := s.Adopt(image(first(24), 0, 16)); from != 3 || e != api.OK {
		t.Error(from, e)
	}
	is(t, s, first(24), 0, 16)
}

func TestContradictions(t *testing.T) { // P17.4
	other := first(9)
	other[4] = reserve(2, 1, 7)
	bad := image(first(9), 5, 8)
	bad.Ckpt = result(other[:5]...)
	badBase := image(first(9), 3, 8)
	badBase.Ckpt = result(append(first(2), reserve(2, 1, 7))...)
	badEnd := image(first(9), 6, 8)
	badEnd.Ckpt = result(other[:6]...)
	for name, m := range map[string]api.Image{
		"commit less":           image(first(9), 0, 5),
		"top less":              image(first(5), 0, 5),
		"base and commit less":  image(first(5), 5, 5),
		"differs":               image(other, 0, 8),
		"differs after base":    image(other, 4, 8),
		"another checkpoint":    bad,
		"another one at base":   badBase,
		"another one at commit": badEnd,
	} {
		s := run(first(8)...)
		s.Commit(3)
		s.Settle()
		s.Commit(6)
		if from, e := s.Adopt(m); from != 0 || e != api.ErrState {
			t.Error(name, from, e)
		}
		is(t, s, first(8), 3, 6)
	}
	// a checkpoint, and entries, before the base of the log are not compared
	s := run(first(8)...)
	s.Commit(6)
	s.Settle()
	if from, e := s.Adopt(image(other, 2, 8)); from != 8 || e != api.OK {
		t.Error(from, e)
	}
	is(t, s, first(9), 6, 8)
}

func TestAdopt(t *testing.T) { // P17.4, P17.9
	other := append(first(5), reserve(2, 1, 7), reserve(2, 2, 8))
	for name, c := range map[string]struct {
		m            api.Image
		from         int
		l            []api.Entry
		base, commit int
	}{
		"the same":             {image(first(8), 2, 4), 8, first(8), 2, 4},
		"committed further":    {image(first(8), 0, 7), 8, first(8), 2, 7},
		"shorter":              {image(first(6), 0, 5), 6, first(6), 2, 5},
		"longer":               {image(first(12), 0, 5), 8, first(12), 2, 5},
		"another end":          {image(other, 0, 4), 5, other, 2, 4},
		"another, trimmed":     {image(other, 3, 6), 5, other, 3, 6},
		"trimmed to commit":    {image(first(9), 4, 4), 8, first(9), 4, 4},
		"only a base":          {image(first(4), 4, 4), 4, first(4), 4, 4},
		"base after commit":    {image(other, 5, 6), 5, other, 5, 6},
		"base after top":       {image(first(20), 12, 12), 12, first(20), 12, 12},
		"just a checkpoint":    {image(other, 7, 7), 7, other, 7, 7},
		"base before the log":  {image(first(9), 1, 5), 8, first(9), 2, 5},
		"long after the other": {image(first(40), 16, 32), 16, first(40), 16, 32},
	} {
		s := run(first(8)...)
		s.Commit(2)
		s.Settle()
		s.Commit(4)
		if from, e := s.Adopt(c.m); from != c.from || e != api.OK {
			t.Error(name, from, e)
		}
		is(t, s, c.l, c.base, c.commit)
		if s.Rollback(s.Committed()) != api.OK {
			t.Error(name, "it cannot be rolled back")
		}
		is(t, s, c.l[:c.commit], c.base, c.commit)
	}
}

func TestNobody(t *testing.T) { // R1
	for _, s := range []*spec.Spec{nil, {}} {
		op, r, e := s.Exec(numbered(1))
		base, ckpt := s.Settle()
		from, f := s.Adopt(image(first(1), 0, 0))
		x, r2, g := s.Answer(0)
		seat, had := s.Seat(1)
		m := s.Image()
		if op != 0 || r != (api.Res{}) || e != api.ErrNil || s.Commit(0) != api.ErrNil || s.Rollback(0) != api.ErrNil || base != 0 || ckpt != nil || from != 0 || f != api.ErrNil ||
			!entry.Same(x, api.Entry{}) || r2 != (api.Res{}) || g != api.ErrNil || s.Now() != nil || s.Sure() != nil || had || seat != (api.Seat{}) || s.Judge(1, 1) != 0 ||
			s.Base() != 0 || s.Committed() != 0 || s.Top() != 0 || m.Base != 0 || m.Ckpt != nil || m.Entries != nil || m.Commit != 0 {
			t.Error("nothing")
		}
	}
}

func TestAnswerErrors(t *testing.T) { // P17.5
	s := run(first(3)...)
	for _, op := range []int{0, 4, -1, math.MinInt, math.MaxInt} {
		if x, r, e := s.Answer(op); e != api.ErrRange || r != (api.Res{}) || !entry.Same(x, api.Entry{}) {
			t.Error(op)
		}
	}
}

func TestOwnMemory(t *testing.T) { // P17.6
	l := append(first(2), reserve(1, 3, 7))
	s := run(first(2)...)
	x := reserve(1, 3, 7)
	s.Exec(x)
	x.Op.Lines[0].Sku = "q"
	m := s.Image()
	clear(m.Ckpt)
	m.Entries[2].Op.Lines[0].Sku = "q"
	y, _, _ := s.Answer(3)
	y.Op.Lines[0].Sku = "q"
	clear(s.Now())
	clear(s.Sure())
	is(t, s, l, 0, 0)
	s.Commit(1)
	_, ckpt := s.Settle()
	clear(ckpt)
	is(t, s, l, 1, 1)
	more := append(l, reserve(1, 4, 8))
	for base := range 4 {
		s := run(first(2)...)
		s.Commit(1)
		m := image(more, base, 3)
		m.Entries = append([]api.Entry{}, m.Entries...)
		m.Entries[len(m.Entries)-1] = reserve(1, 4, 8)
		s.Adopt(m)
		clear(m.Ckpt)
		m.Entries[len(m.Entries)-1].Op.Lines[0].Sku = "q"
		is(t, s, more, base, 3)
	}
}

// model is an executor with all its entries from the first one on.
type model struct {
	l            []api.Entry
	base, commit int
}

func (m model) image() api.Image { return image(m.l, m.base, m.commit) }

// common is up to where two logs have the same entries.
func common(a, b []api.Entry) int {
	n := 0
	for n < len(a) && n < len(b) && entry.Same(a[n], b[n]) {
		n++
	}
	return n
}

func TestRandom(t *testing.T) { // P17.7, P17.8, P17.9
	r := rand.New(rand.NewSource(1))
	adopted, refused := 0, 0
	for range 120 {
		all := [2]*spec.Spec{spec.New(), spec.New()}
		models := [2]model{}
		for range 60 {
			i := r.Intn(2)
			s, m := all[i], &models[i]
			switch r.Intn(9) {
			case 0, 1, 2, 3:
				x := []api.Entry{restock(1+r.Intn(2), len(m.l)/3+1), reserve(3, len(m.l)+1, 1+r.Intn(5))}[r.Intn(2)]
				full := len(m.l)-m.commit == 8 || len(m.l)-m.base == 24
				if op, _, e := s.Exec(x); full != (e == api.ErrLimit) {
					t.Fatal(op, e)
				} else if e == api.OK {
					m.l = append(m.l[:len(m.l):len(m.l)], x)
				}
			case 4:
				m.commit += r.Intn(len(m.l) - m.commit + 1)
				s.Commit(m.commit)
			case 5:
				m.l = m.l[:m.commit+r.Intn(len(m.l)-m.commit+1)]
				s.Rollback(len(m.l))
			case 6:
				m.base = m.commit
				s.Settle()
			default:
				other := models[1-i]
				same := common(m.l, other.l)
				from, e := s.Adopt(other.image())
				// committed entries of both that differ, behind the other's checkpoint, are nobody's in a real log
				if other.base > m.commit {
					if e != api.OK || from != other.base {
						t.Fatal(from, e)
					}
					*m = other
					adopted++
					break
				}
				if other.commit < m.commit || same < m.commit && (m.base <= other.base || same >= m.base) {
					if e != api.ErrState {
						t.Fatal(from, e)
					}
					refused++
					break
				}
				if same < m.base {
					all = [2]*spec.Spec{spec.New(), spec.New()}
					models = [2]model{}
					continue
				}
				if e != api.OK || from != same {
					t.Fatal(from, same, e)
				}
				adopted++
				*m = model{other.l, max(m.base, other.base), other.commit}
			}
			is(t, all[i], models[i].l, models[i].base, models[i].commit)
		}
	}
	if adopted < 200 || refused < 200 {
		t.Error(adopted, refused)
	}
}
