package tree

import "testing"

func leaf(keys ...int) *node[int, int] {
	n := &node[int, int]{}
	for _, k := range keys {
		n.pairs = append(n.pairs, Pair[int, int]{Key: k})
	}
	return n
}

func inner(n *node[int, int], kids ...*node[int, int]) *node[int, int] {
	n.kids = kids
	return n
}

func TestWell(t *testing.T) { // P6.3
	for name, c := range map[string]struct {
		order int
		root  *node[int, int]
		want  bool
	}{
		"empty":                    {3, leaf(), true},
		"one":                      {3, leaf(1), true},
		"full":                     {4, leaf(1, 2, 3), true},
		"too many":                 {3, leaf(1, 2, 3), false},
		"not increasing":           {4, leaf(2, 1), false},
		"twice":                    {4, leaf(1, 1), false},
		"two levels":               {3, inner(leaf(2), leaf(1), leaf(3)), true},
		"no key above":             {3, inner(leaf(), leaf(1)), false},
		"child missing":            {3, inner(leaf(2), leaf(1)), false},
		"child too many":           {3, inner(leaf(2), leaf(1), leaf(3), leaf(4)), false},
		"left too great":           {3, inner(leaf(2), leaf(3), leaf(4)), false},
		"right too small":          {3, inner(leaf(2), leaf(0), leaf(1)), false},
		"equal to the one above":   {3, inner(leaf(2), leaf(1), leaf(2)), false},
		"middle out of bounds":     {3, inner(leaf(2, 5), leaf(1), leaf(6), leaf(7)), false},
		"middle within bounds":     {3, inner(leaf(2, 5), leaf(1), leaf(3), leaf(7)), true},
		"too few":                  {5, inner(leaf(3), leaf(1), leaf(4, 5)), false},
		"enough":                   {5, inner(leaf(3), leaf(1, 2), leaf(4, 5)), true},
		"child empty":              {3, inner(leaf(2), leaf(), leaf(3)), false},
		"deeper left":              {3, inner(leaf(4), inner(leaf(2), leaf(1), leaf(3)), leaf(5)), false},
		"deeper right":             {3, inner(leaf(1), leaf(0), inner(leaf(4), leaf(3), leaf(5))), false},
		"deep bound of the middle": {3, inner(leaf(4), inner(leaf(2), leaf(1), leaf(9)), inner(leaf(6), leaf(5), leaf(7))), false},
		"three levels":             {3, inner(leaf(4), inner(leaf(2), leaf(1), leaf(3)), inner(leaf(6), leaf(5), leaf(7))), true},
	} {
		x := Tree[int, int]{order: c.order, root: c.root}
		if x.Well() != c.want {
			t.Error(name)
		}
	}
}
