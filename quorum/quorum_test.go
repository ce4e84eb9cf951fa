package quorum_test

import (
	"math"
	"math/rand"
	"slices"
	"testing"

	"gimbal/api"
	"gimbal/quorum"
)

func at(view, op int) api.Ballot { return api.Ballot{View: view, Op: op} }

func TestEnough(t *testing.T) { // P16.1
	want := map[int]int{3: 2, 5: 3, 7: 4, 9: 5, 11: 6, 13: 7, 15: 8}
	for _, n := range []int{math.MinInt, -3, -1, 0, 1, 2, 3, 4, 5, 6, 7, 8, 9, 10, 11, 12, 13, 14, 15, 16, 17, math.MaxInt} {
		tally, e := quorum.NewTally(n)
		acks, f := quorum.NewAcks(n)
		is := want[n] > 0
		if quorum.Enough(n) != want[n] || is != (e == api.OK) || is != (f == api.OK) || is != (tally != nil) || is != (acks != nil) || !is && (e != api.ErrArg || f != api.ErrArg) {
			t.Error(n, quorum.Enough(n), e, f)
		}
	}
}

func TestTally(t *testing.T) { // P16.2
	x, _ := quorum.NewTally(3)
	add := func(b api.Ballot, who, want int) {
		t.Helper()
		if many, e := x.Add(b, who); many != want || e != api.OK {
			t.Error(b, who, many, e)
		}
	}
	add(at(1, 5), 0, 1)
	add(at(1, 5), 0, 1)
	if b, is := x.Won(); is || b != (api.Ballot{}) {
		t.Error(b, is)
	}
	add(at(1, 5), 2, 2)
	if b, is := x.Won(); !is || b != at(1, 5) || !slices.Equal(x.Who(at(1, 5)), []int{0, 2}) || x.Who(at(1, 6)) != nil || x.Len() != 1 {
		t.Error(b, is, x.Who(at(1, 5)))
	}
	for _, who := range []int{-1, 3, math.MinInt, math.MaxInt} {
		if many, e := x.Add(at(2, 2), who); many != 0 || e != api.ErrRange {
			t.Error(who, many, e)
		}
	}
	if x.Len() != 1 {
		t.Error("an error changed something")
	}
	l := x.Who(at(1, 5))
	l[0] = 9
	if !slices.Equal(x.Who(at(1, 5)), []int{0, 2}) {
		t.Error("a result shares memory")
	}
}

func TestOrderOfBallots(t *testing.T) { // P16.2
	inOrder := []api.Ballot{
		{View: -1}, {}, {Res: api.Res{B: 1}}, {Res: api.Res{A: 1}}, {Res: api.Res{A: 1, B: 1}}, {Res: api.Res{Code: 1}}, {Res: api.Res{Code: 1, A: 7}},
		{Op: 1}, {Op: 1, Res: api.Res{Code: 6}}, {Op: 2}, {View: 1}, {View: 1, Op: 9}, {View: 2, Op: 1},
	}
	for round := range 20 {
		x, _ := quorum.NewTally(15)
		for i := len(inOrder) - 1; i >= 0; i-- {
			for who := range 7 {
				x.Add(inOrder[i], who)
			}
			if b, is := x.Won(); is != (i < len(inOrder)-1) || is && b != inOrder[i+1] {
				t.Fatal(round, i, b, is)
			}
			x.Add(inOrder[i], 14)
			if b, is := x.Won(); !is || b != inOrder[i] {
				t.Fatal(round, i, b, is)
			}
		}
		if x.Len() != len(inOrder) {
			t.Error(x.Len())
		}
	}
}

func TestAcks(t *testing.T) { // P16.2, P16.3
	a, _ := quorum.NewAcks(5)
	for _, c := range []struct{ who, op, sure int }{{0, 7, 0}, {3, 4, 0}, {4, 6, 4}, {1, 9, 6}, {0, 3, 6}, {2, 9, 7}} {
		if a.Note(c.who, c.op) != api.OK || a.Sure() != c.sure {
			t.Error(c, a.Sure())
		}
	}
	if a.Of(0) != 7 || a.Of(3) != 4 {
		t.Error("less than before")
	}
	for _, who := range []int{-1, 5, math.MinInt, math.MaxInt} {
		if a.Note(who, 1) != api.ErrRange || a.Note(who, -1) != api.ErrRange || a.Of(who) != 0 {
			t.Error(who)
		}
	}
	if a.Note(0, -1) != api.ErrArg || a.Note(0, math.MinInt) != api.ErrArg || a.Note(0, 0) != api.OK || a.Of(0) != 7 || a.Note(0, math.MaxInt) != api.OK || a.Of(0) != math.MaxInt {
		t.Error("the op")
	}
}

func TestNothing(t *testing.T) { // R1
	for _, x := range []*quorum.Tally{nil, {}} {
		many, e := x.Add(at(1, 1), 0)
		b, is := x.Won()
		if many != 0 || e != api.ErrNil || is || b != (api.Ballot{}) || x.Who(at(1, 1)) != nil || x.Len() != 0 {
			t.Error("a tally")
		}
	}
	for _, a := range []*quorum.Acks{nil, {}} {
		if a.Note(0, 1) != api.ErrNil || a.Of(0) != 0 || a.Sure() != 0 {
			t.Error("acks")
		}
	}
}

func TestOnlyOneWins(t *testing.T) { // P16.5
	r := rand.New(rand.NewSource(1))
	for range 2000 {
		n := 3 + 2*r.Intn(7)
		x, _ := quorum.NewTally(n)
		for who := range n {
			x.Add(at(r.Intn(2), 1), who)
		}
		won := 0
		for v := range 2 {
			if len(x.Who(at(v, 1))) >= quorum.Enough(n) {
				won++
			}
		}
		if _, is := x.Won(); won != 1 || !is {
			t.Fatal(n, won)
		}
	}
}

func TestCommitted(t *testing.T) { // P16.6
	r := rand.New(rand.NewSource(2))
	for range 300 {
		n := 3 + 2*r.Intn(7)
		a, _ := quorum.NewAcks(n)
		last := 0
		for range 60 {
			a.Note(r.Intn(n), r.Intn(20))
			sure, reached, beyond := a.Sure(), 0, 0
			for who := range n {
				if a.Of(who) >= sure {
					reached++
				}
				if a.Of(who) > sure {
					beyond++
				}
			}
			if sure < last || reached < quorum.Enough(n) || beyond >= quorum.Enough(n) {
				t.Fatal(n, sure, last, reached, beyond)
			}
			last = sure
		}
	}
}
