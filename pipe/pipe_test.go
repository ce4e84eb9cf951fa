package pipe_test

import (
	"math"
	"math/rand"
	"testing"

	"gimbal/api"
	"gimbal/entry"
	"gimbal/pipe"
)

func numbered(n int) api.Entry {
	return api.Entry{Client: 1, Num: n, Op: api.Op{Kind: api.OpReserve, Order: 1, N: 5, Lines: []api.Line{{Sku: "a", N: 2}}}}
}

var x, y, z = numbered(1), numbered(2), numbered(3)

func three(t *testing.T) *pipe.Pipe {
	t.Helper()
	p, e := pipe.New(5)
	if e != api.OK || p.Base() != 5 || p.Top() != 5 {
		t.Fatal(e)
	}
	for i, n := range []api.Entry{x, y, z} {
		if op, e := p.Append(n); op != 6+i || e != api.OK {
			t.Fatal(op, e)
		}
	}
	return p
}

func TestNew(t *testing.T) { // P12.1
	for _, base := range []int{-1, math.MinInt, api.MaxNumber + 1, math.MaxInt} {
		if p, e := pipe.New(base); p != nil || e != api.ErrArg {
			t.Error(base)
		}
	}
	for _, base := range []int{0, api.MaxNumber} {
		if p, e := pipe.New(base); p.Top() != base || e != api.OK {
			t.Error(base)
		}
	}
}

func TestAppend(t *testing.T) { // P12.1, P12.6
	p := three(t)
	for _, bad := range []api.Entry{{}, {Client: 9, Num: 1}} {
		if op, e := p.Append(bad); op != 0 || e != api.ErrArg || p.Top() != 8 {
			t.Error(op, e)
		}
	}
	for n := 4; n <= 24; n++ {
		if op, e := p.Append(numbered(n)); op != 5+n || e != api.OK {
			t.Error(n, op, e)
		}
	}
	if op, e := p.Append(x); op != 0 || e != api.ErrLimit || p.Top() != 29 {
		t.Error(op, e)
	}
	if _, e := p.Append(api.Entry{}); e != api.ErrArg {
		t.Error("the entry is checked first")
	}
	for n := 1; n <= 24; n++ {
		if got, e := p.Get(5 + n); !entry.Same(got, numbered(n)) || e != api.OK {
			t.Error(n, e)
		}
	}
}

func TestGetAndFrom(t *testing.T) { // P12.2
	p := three(t)
	for op, want := range map[int]api.Entry{6: x, 7: y, 8: z} {
		if got, e := p.Get(op); !entry.Same(got, want) || e != api.OK {
			t.Error(op, e)
		}
	}
	for _, op := range []int{5, 9, 0, -1, math.MinInt, math.MaxInt} {
		if got, e := p.Get(op); !entry.Same(got, api.Entry{}) || e != api.ErrRange {
			t.Error(op, e)
		}
	}
	for op, want := range map[int][]api.Entry{5: {x, y, z}, 6: {y, z}, 7: {z}, 8: nil} {
		if got, e := p.From(op); !entry.SameRow(got, want) || e != api.OK {
			t.Error(op, e)
		}
	}
	for _, op := range []int{4, 9, -1, math.MinInt, math.MaxInt} {
		if got, e := p.From(op); got != nil || e != api.ErrRange {
			t.Error(op, e)
		}
		if p.Cut(op) != api.ErrRange || p.Trim(op) != api.ErrRange || p.Top() != 8 || p.Base() != 5 {
			t.Error(op)
		}
	}
}

func TestCutAndTrim(t *testing.T) { // P12.3
	p := three(t)
	if p.Cut(7) != api.OK || p.Trim(6) != api.OK {
		t.Error("Cut, Trim")
	}
	if l, e := p.From(6); !entry.SameRow(l, []api.Entry{y}) || e != api.OK || p.Base() != 6 || p.Top() != 7 || p.Cut(5) != api.ErrRange {
		t.Error(l, e)
	}
	if op, e := p.Append(z); op != 8 || e != api.OK {
		t.Error(op, e)
	}
	if got, _ := p.Get(8); !entry.Same(got, z) {
		t.Error(got)
	}
	if p.Trim(8) != api.OK || p.Base() != 8 || p.Top() != 8 || p.Trim(8) != api.OK || p.Cut(8) != api.OK {
		t.Error("all of it")
	}
	p = three(t)
	if p.Cut(5) != api.OK || p.Top() != 5 || p.Base() != 5 {
		t.Error("all of it")
	}
}

func TestAgree(t *testing.T) { // P12.4
	p := three(t)
	many := make([]api.Entry, 1001)
	for i := range many {
		many[i] = x
	}
	for i, c := range []struct {
		at   int
		l    []api.Entry
		want int
	}{
		{5, []api.Entry{x, z}, 6},
		{6, []api.Entry{y, z, x}, 8},
		{3, []api.Entry{x}, 4},
		{9, []api.Entry{z}, 8},
		{5, nil, 5},
		{5, []api.Entry{y}, 5},
		{5, []api.Entry{x, y, z}, 8},
		{5, []api.Entry{x, y}, 7},
		{3, []api.Entry{z, z, x, z}, 6}, // those up to the base are not compared
		{3, []api.Entry{z, z}, 5},
		{8, []api.Entry{x}, 8},
		{7, []api.Entry{x}, 7},
		{-3, []api.Entry{x, x, x, x, x, x, y}, 7},
		{math.MinInt, nil, 0},
		{0, many, 6},
		{api.MaxNumber, many, 8},
		{api.MaxNumber + 1, many, 8},
		{math.MaxInt, many, 8},
	} {
		if op := p.Agree(c.at, c.l); op != c.want {
			t.Error(i, op)
		}
	}
	far, _ := pipe.New(1000)
	far.Append(x)
	if far.Agree(0, many) != 1000 || far.Agree(1, many) != 1001 {
		t.Error("at most 1000 entries count")
	}
}

func TestNoPipe(t *testing.T) { // R1
	for _, p := range []*pipe.Pipe{nil, {}} {
		op, e := p.Append(x)
		got, f := p.Get(0)
		l, g := p.From(0)
		if op != 0 || e != api.ErrNil || f != api.ErrNil || g != api.ErrNil || l != nil || !entry.Same(got, api.Entry{}) || p.Cut(0) != api.ErrNil || p.Trim(0) != api.ErrNil || p.Agree(3, []api.Entry{x}) != 0 || p.Base() != 0 || p.Top() != 0 {
			t.Error("nothing")
		}
	}
}

func TestOwnMemory(t *testing.T) { // P12.5
	p := three(t)
	given := numbered(4)
	p.Append(given)
	given.Op.Lines[0].Sku = "q"
	got, _ := p.Get(9)
	got.Op.Lines[0].Sku = "r"
	l, _ := p.From(8)
	l[0].Op.Lines[0].Sku = "s"
	l, _ = p.From(5)
	_ = append(l[:2], numbered(77))
	if l, _ := p.From(5); !entry.SameRow(l, []api.Entry{x, y, z, numbered(4)}) {
		t.Error("memory is shared")
	}
}

func TestFollowsAnotherLog(t *testing.T) { // P12.7
	r := rand.New(rand.NewSource(1))
	for range 3000 {
		at := r.Intn(6)
		var other []api.Entry
		for range r.Intn(15) {
			other = append(other, numbered(1+r.Intn(2)))
		}
		base := at + r.Intn(len(other)+1)
		p, _ := pipe.New(base)
		for i := range r.Intn(12) {
			if base-at+i < len(other) && r.Intn(5) > 0 {
				p.Append(other[base-at+i])
			} else {
				p.Append(numbered(1 + r.Intn(2)))
			}
		}
		agree := p.Agree(at, other)
		if p.Cut(agree) != api.OK {
			t.Fatal(agree)
		}
		for _, n := range other[agree-at:] {
			p.Append(n)
		}
		if l, e := p.From(base); e != api.OK || !entry.SameRow(l, other[base-at:]) {
			t.Fatal(base, at, agree)
		}
	}
}
