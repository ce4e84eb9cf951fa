package entry

import (
	"slices"

	"gimbal/api"
	"gimbal/bits"
)

// encode returns the encoding of a list: the number of its items, and each as a string.
func encode[T any](l []T, one func(T) ([]byte, api.Errno)) ([]byte, api.Errno) {
	parts := [][]byte{bits.Varint(nil, uint64(len(l)))}
	for _, x := range l {
		b, e := one(x)
		if e != api.OK {
			return nil, e
		}
		parts = append(parts, bits.Text(nil, b))
	}
	return slices.Concat(parts...), api.OK
}

// decode reads such a list; it ends with the bytes, whatever number of items they state.
func decode[T any](b []byte, one func([]byte) (T, api.Errno)) ([]T, api.Errno) {
	r := bits.Read(b)
	var l []T
	for range r.Varint() {
		s := r.Text()
		if r.Err() != api.OK {
			break
		}
		x, e := one(s)
		if e != api.OK {
			return nil, e
		}
		l = append(l, x)
	}
	if e := r.End(); e != api.OK {
		return nil, e
	}
	return l, api.OK
}

// Row returns the encoding of a list of entries.
func Row(l []api.Entry) ([]byte, api.Errno) {
	return encode(l, Bytes)
}

// Rows returns the entries that b encodes.
func Rows(b []byte) ([]api.Entry, api.Errno) {
	return decode(b, Parse)
}

// SameRow reports whether a and b have the same entries, in the same order.
func SameRow(a, b []api.Entry) bool {
	return slices.EqualFunc(a, b, Same)
}
