package list_test

import (
	"slices"
	"testing"

	"gimbal/list"
)

func TestCopy(t *testing.T) {
	l := [][]int{{1, 2}, {3}}
	c := list.Copy(l, slices.Clone)
	if !slices.EqualFunc(l, c, slices.Equal) {
		t.Error(c)
	}
	c[0][0], c[1] = 9, nil
	if l[0][0] != 1 || l[1] == nil {
		t.Error("a copy shares memory")
	}
	if len(list.Copy(nil, slices.Clone[[]int])) != 0 {
		t.Error("no items")
	}
}
