package order

import "container/heap"

// date is when an order is due.
type date struct {
	till, id int
}

// queue hands out what is earliest.
type queue interface {
	add(d date)
	next() date
	isEmpty() bool
}

// dates is a queue, by the heap of the library.
type dates struct {
	all []date
}

func (q *dates) add(d date)    { heap.Push(q, d) }
func (q *dates) next() date    { return heap.Pop(q).(date) }
func (q *dates) isEmpty() bool { return len(q.all) == 0 }

func (q *dates) Len() int      { return len(q.all) }
func (q *dates) Swap(i, j int) { q.all[i], q.all[j] = q.all[j], q.all[i] }
func (q *dates) Push(x any)    { q.all = append(q.all, x.(date)) }

func (q *dates) Less(i, j int) bool {
	a, b := q.all[i], q.all[j]
	if a.till != b.till {
		return a.till < b.till
	}
	return a.id < b.id
}

func (q *dates) Pop() any {
	last := len(q.all) - 1
	d := q.all[last]
	q.all = q.all[:last]
	return d
}
