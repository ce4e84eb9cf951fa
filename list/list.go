// Package list copies lists whose items have memory of their own; several layers keep such lists.
package list

// Copy returns a list with a copy of each item.
func Copy[T any](l []T, one func(T) T) []T {
	c := make([]T, 0, len(l))
	for _, x := range l {
		c = append(c, one(x))
	}
	return c
}
