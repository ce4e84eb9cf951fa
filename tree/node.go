package tree

import (
	"cmp"
	"slices"
)

// node has keys in order; unless it is a leaf, it has a child on each side of each of them.
type node[K cmp.Ordered, V any] struct {
	pairs []Pair[K, V]
	kids  []*node[K, V]
}

// position returns the first place whose key is not less than key, and whether it is that key.
func position[K cmp.Ordered, V any](pairs []Pair[K, V], key K) (int, bool) {
	return slices.BinarySearchFunc(pairs, key, func(p Pair[K, V], key K) int {
		return cmp.Compare(p.Key, key)
	})
}

func (n *node[K, V]) isLeaf() bool {
	return len(n.kids) == 0
}

func (n *node[K, V]) depth() int {
	deep := 1
	for ; !n.isLeaf(); n = n.kids[0] {
		deep++
	}
	return deep
}

// put sets the value of a key below n; n may have order keys then, which is one too many.
func (n *node[K, V]) put(p Pair[K, V], order int) (old V, had bool) {
	i, is := position(n.pairs, p.Key)
	if is {
		old, n.pairs[i].Value = n.pairs[i].Value, p.Value
		return old, true
	}
	if n.isLeaf() {
		n.pairs = slices.Insert(n.pairs, i, p)
		return old, false
	}
	old, had = n.kids[i].put(p, order)
	if len(n.kids[i].pairs) == order {
		n.split(i)
	}
	return old, had
}

// split makes two of the i-th child, and puts the key in the middle between them.
func (n *node[K, V]) split(i int) {
	left := n.kids[i]
	at := len(left.pairs) / 2
	middle := left.pairs[at]
	right := &node[K, V]{pairs: slices.Clone(left.pairs[at+1:])}
	left.pairs = slices.Delete(left.pairs, at, len(left.pairs))
	if !left.isLeaf() {
		right.kids = slices.Clone(left.kids[at+1:])
		left.kids = slices.Delete(left.kids, at+1, len(left.kids))
	}
	n.pairs = slices.Insert(n.pairs, i, middle)
	n.kids = slices.Insert(n.kids, i+1, right)
}

// del removes a key below n; n may have one key too few then.
func (n *node[K, V]) del(key K, least int) (old V, had bool) {
	i, is := position(n.pairs, key)
	if n.isLeaf() {
		if is {
			old = n.pairs[i].Value
			n.pairs = slices.Delete(n.pairs, i, i+1)
		}
		return old, is
	}
	if is {
		old, had = n.pairs[i].Value, true
		n.pairs[i] = n.kids[i].delLast(least)
	} else {
		old, had = n.kids[i].del(key, least)
	}
	n.fill(i, least)
	return old, had
}

// delLast removes the greatest key below n; n may have one key too few then.
func (n *node[K, V]) delLast(least int) Pair[K, V] {
	if n.isLeaf() {
		last := len(n.pairs) - 1
		p := n.pairs[last]
		n.pairs = slices.Delete(n.pairs, last, last+1)
		return p
	}
	i := len(n.kids) - 1
	p := n.kids[i].delLast(least)
	n.fill(i, least)
	return p
}

// fill gives the i-th child another key, if it has too few: from beside it, or by merging it.
func (n *node[K, V]) fill(i, least int) {
	switch {
	case len(n.kids[i].pairs) >= least:
	case i > 0 && len(n.kids[i-1].pairs) > least:
		n.fromLeft(i)
	case i < len(n.pairs) && len(n.kids[i+1].pairs) > least:
		n.fromRight(i)
	case i > 0:
		n.merge(i - 1)
	default:
		n.merge(i)
	}
}

func (n *node[K, V]) fromLeft(i int) {
	left, kid := n.kids[i-1], n.kids[i]
	last := len(left.pairs) - 1
	kid.pairs = slices.Insert(kid.pairs, 0, n.pairs[i-1])
	n.pairs[i-1] = left.pairs[last]
	left.pairs = slices.Delete(left.pairs, last, last+1)
	if !left.isLeaf() {
		kid.kids = slices.Insert(kid.kids, 0, left.kids[last+1])
		left.kids = slices.Delete(left.kids, last+1, last+2)
	}
}

func (n *node[K, V]) fromRight(i int) {
	kid, right := n.kids[i], n.kids[i+1]
	kid.pairs = append(kid.pairs, n.pairs[i])
	n.pairs[i] = right.pairs[0]
	right.pairs = slices.Delete(right.pairs, 0, 1)
	if !right.isLeaf() {
		kid.kids = append(kid.kids, right.kids[0])
		right.kids = slices.Delete(right.kids, 0, 1)
	}
}

// merge makes one of the i-th child, the key after it, and the next child.
func (n *node[K, V]) merge(i int) {
	left, right := n.kids[i], n.kids[i+1]
	left.pairs = append(append(left.pairs, n.pairs[i]), right.pairs...)
	left.kids = append(left.kids, right.kids...)
	n.pairs = slices.Delete(n.pairs, i, i+1)
	n.kids = slices.Delete(n.kids, i+1, i+2)
}

// walk yields what is not less than from, in order, as long as yield asks for more.
func (n *node[K, V]) walk(from K, yield func(Pair[K, V]) bool) bool {
	i, _ := position(n.pairs, from)
	for ; i <= len(n.pairs); i++ {
		if !n.isLeaf() && !n.kids[i].walk(from, yield) {
			return false
		}
		if i < len(n.pairs) && !yield(n.pairs[i]) {
			return false
		}
	}
	return true
}

// bounds are the keys between which those of a node must be; nil where there is none.
type bounds[K cmp.Ordered] struct {
	low, high *K
}

func (b bounds[K]) hold(key K) bool {
	return (b.low == nil || *b.low < key) && (b.high == nil || key < *b.high)
}

// isWell reports whether what is below n satisfies the definition, with from few keys on in n, and least in the others.
func (n *node[K, V]) isWell(b bounds[K], few, least, order, deep int) bool {
	if len(n.pairs) < few || len(n.pairs) >= order || n.isLeaf() != (deep == 1) {
		return false
	}
	if !n.isLeaf() && len(n.kids) != len(n.pairs)+1 {
		return false
	}
	rest := b
	for i, p := range n.pairs {
		if !rest.hold(p.Key) {
			return false
		}
		if !n.isLeaf() && !n.kids[i].isWell(bounds[K]{rest.low, &p.Key}, least, least, order, deep-1) {
			return false
		}
		rest.low = &p.Key
	}
	return n.isLeaf() || n.kids[len(n.pairs)].isWell(rest, least, least, order, deep-1)
}
