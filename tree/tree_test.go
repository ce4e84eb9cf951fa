package tree_test

import (
	"math"
	"math/rand"
	"slices"
	"testing"

	"gimbal/api"
	"gimbal/tree"
)

func TestExample(t *testing.T) { // P6.1, P6.2, P6.3
	x, e := tree.New[string, int](3)
	if e != api.OK || !x.Well() || x.Deep() != 0 || x.Len() != 0 || x.All() != nil {
		t.Fatal("an empty tree")
	}
	for _, p := range []tree.Pair[string, int]{{"b", 1}, {"a", 2}, {"c", 3}} {
		if old, had := x.Put(p.Key, p.Value); old != 0 || had {
			t.Error(p, old, had)
		}
	}
	if x.Deep() != 2 {
		t.Error(x.Deep())
	}
	if old, had := x.Put("a", 4); old != 2 || !had || x.Len() != 3 {
		t.Error(old, had, x.Len())
	}
	if l := x.Range("b", 5); !slices.Equal(l, []tree.Pair[string, int]{{"b", 1}, {"c", 3}}) {
		t.Error(l)
	}
	if old, had := x.Del("b"); old != 1 || !had {
		t.Error(old, had)
	}
	if old, had := x.Del("b"); old != 0 || had {
		t.Error(old, had)
	}
	if v, is := x.Get("a"); v != 4 || !is || !x.Well() {
		t.Error(v, is)
	}
	if v, is := x.Get("b"); v != 0 || is {
		t.Error(v, is)
	}
}

func TestNew(t *testing.T) { // P6.1
	for _, order := range []int{math.MinInt, -1, 0, 2, 65, math.MaxInt} {
		if x, e := tree.New[int, int](order); x != nil || e != api.ErrArg {
			t.Error(order, e)
		}
	}
	for _, order := range []int{3, 64} {
		if x, e := tree.New[int, int](order); x == nil || e != api.OK {
			t.Error(order, e)
		}
	}
}

func TestNoTree(t *testing.T) { // R1
	for _, x := range []*tree.Tree[int, int]{nil, {}} {
		if old, had := x.Put(1, 2); old != 0 || had {
			t.Error("Put")
		}
		if v, is := x.Get(1); v != 0 || is {
			t.Error("Get")
		}
		if old, had := x.Del(1); old != 0 || had {
			t.Error("Del")
		}
		if x.Len() != 0 || x.Deep() != 0 || x.Range(0, 9) != nil || x.All() != nil || x.Well() {
			t.Error("the others")
		}
	}
}

func TestNotANumber(t *testing.T) {
	x, _ := tree.New[float64, int](3)
	nan := math.NaN()
	for i := range 5 {
		x.Put(float64(i), i)
		if old, had := x.Put(nan, 7); old != 0 || had {
			t.Error(old, had)
		}
	}
	if _, is := x.Get(nan); is || x.Len() != 5 || !x.Well() {
		t.Error("a key that is not equal to itself was put")
	}
	if _, had := x.Del(nan); had || x.Len() != 5 {
		t.Error("Del")
	}
	if len(x.Range(nan, 9)) != 5 || len(x.Range(math.Inf(1), 9)) != 0 || len(x.Range(math.Inf(-1), 9)) != 5 {
		t.Error("Range")
	}
}

// depth is the greatest depth that P6.5 allows.
func depth(n, order int) int {
	if n == 0 {
		return 0
	}
	base, d := (order+1)/2, 1
	for p := base; p*2 <= n+1; p *= base {
		d++
	}
	return d
}

func check(t *testing.T, x *tree.Tree[int, int], model map[int]int, order int) {
	t.Helper()
	if !x.Well() || x.Len() != len(model) || x.Deep() > depth(len(model), order) {
		t.Fatal("order", order, "keys", len(model), x.Len(), "deep", x.Deep(), x.Well())
	}
	keys := make([]int, 0, len(model))
	for k := range model {
		keys = append(keys, k)
	}
	slices.Sort(keys)
	all := x.All()
	if len(all) != len(keys) {
		t.Fatal(len(all), len(keys))
	}
	for i, k := range keys {
		if all[i] != (tree.Pair[int, int]{Key: k, Value: model[k]}) {
			t.Fatal(all[i], k)
		}
	}
	for _, from := range []int{-1, 0, len(model) / 2, 1000} {
		at, _ := slices.BinarySearch(keys, from)
		for _, most := range []int{math.MinInt, 0, 1, 3, math.MaxInt} {
			want := all[at:]
			if len(want) > most {
				want = want[:max(most, 0)]
			}
			if !slices.Equal(x.Range(from, most), want) {
				t.Fatal(from, most)
			}
		}
	}
}

func TestLikeASortedList(t *testing.T) { // P6.1, P6.2, P6.4, P6.5
	for _, order := range []int{3, 4, 5, 6, 7, 16, 33, 63, 64} {
		r := rand.New(rand.NewSource(int64(order)))
		x, _ := tree.New[int, int](order)
		model := map[int]int{}
		for step := range 6000 {
			k := r.Intn(400)
			grows := step/1000%2 == 0
			if r.Intn(10) < 3 {
				grows = !grows
			}
			want, is := model[k]
			if v, had := x.Get(k); v != want || had != is {
				t.Fatal("Get", k, v, had)
			}
			if grows {
				if old, had := x.Put(k, step); old != want || had != is {
					t.Fatal("Put", k, old, had)
				}
				model[k] = step
			} else {
				if old, had := x.Del(k); old != want || had != is {
					t.Fatal("Del", k, old, had)
				}
				delete(model, k)
			}
			if step%7 == 0 || len(model) < 5 {
				check(t, x, model, order)
			}
		}
	}
}

func TestAscendingAndDescending(t *testing.T) { // P6.4, P6.5
	for order := 3; order <= 64; order++ {
		x, _ := tree.New[int, int](order)
		model := map[int]int{}
		for i := range 300 {
			x.Put(i, i)
			x.Put(-i, i)
			model[i], model[-i] = i, i
		}
		check(t, x, model, order)
		for i := range 300 {
			x.Del(i)
			delete(model, i)
			if i%50 == 0 {
				check(t, x, model, order)
			}
		}
		for i := range 300 {
			x.Del(-i)
			delete(model, -i)
		}
		check(t, x, model, order)
	}
}

func TestResultsAreNew(t *testing.T) {
	x, _ := tree.New[int, int](3)
	for i := range 9 {
		x.Put(i, i)
	}
	x.All()[3].Key = 99
	x.Range(2, 3)[0].Value = 99
	if v, is := x.Get(3); v != 3 || !is || !x.Well() {
		t.Error("a result shares memory")
	}
	if v, _ := x.Get(2); v != 2 {
		t.Error("a result shares memory")
	}
}
