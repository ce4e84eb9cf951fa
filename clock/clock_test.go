package clock_test

import (
	"math"
	"testing"

	"gimbal/api"
	"gimbal/clock"
)

func TestExample(t *testing.T) { // P19.1, P19.2
	c, e := clock.New(3)
	if e != api.OK || c.Left() != 3 || c.Limit() != 3 {
		t.Fatal(e)
	}
	if c.Tick() || c.Tick() || c.Left() != 1 || !c.Tick() || !c.Tick() || c.Left() != 0 {
		t.Error("Tick")
	}
	c.Reset()
	if c.Left() != 3 || c.Limit() != 3 {
		t.Error("Reset")
	}
}

func TestNew(t *testing.T) { // P19.1
	for _, limit := range []int{0, 1001, -1, math.MinInt, math.MaxInt} {
		if c, e := clock.New(limit); c != nil || e != api.ErrArg {
			t.Error(limit, e)
		}
	}
}

func TestLate(t *testing.T) { // P19.3, P19.4
	other, _ := clock.New(7)
	for _, limit := range []int{1, 2, 5, 1000} {
		c, e := clock.New(limit)
		if e != api.OK {
			t.Fatal(limit, e)
		}
		for range 3 {
			for i := 1; i <= limit+20; i++ {
				if c.Tick() != (i >= limit) || c.Left() != max(0, limit-i) {
					t.Fatal(limit, i, c.Left())
				}
			}
			c.Reset()
		}
	}
	if other.Left() != 7 {
		t.Error("clocks are independent")
	}
}

func TestNoClock(t *testing.T) { // R1
	for _, c := range []*clock.Clock{nil, {}} {
		c.Reset()
		if c.Tick() || c.Left() != 0 || c.Limit() != 0 {
			t.Error("nothing")
		}
	}
}
