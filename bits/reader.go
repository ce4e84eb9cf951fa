package bits

import (
	"slices"

	"gimbal/api"
)

// Reader reads one thing after the other, and keeps the first error.
type Reader struct {
	rest []byte
	err  api.Errno
}

// Read returns a reader of b, with a copy of its own: the caller may go on to change b.
func Read(b []byte) *Reader {
	return &Reader{rest: slices.Clone(b)}
}

// fail drops what is left, so that nothing can be read after an error.
func (r *Reader) fail(e api.Errno) {
	r.rest, r.err = nil, e
}

func (r *Reader) broken() bool {
	return r == nil || r.err != api.OK
}

// Num reads a number of size bits.
func (r *Reader) Num(size int) uint64 {
	if r.broken() {
		return 0
	}
	if !isSize(size) {
		r.fail(api.ErrArg)
		return 0
	}
	count := size / 8
	if len(r.rest) < count {
		r.fail(api.ErrTrunc)
		return 0
	}
	n := uint64(0)
	for i := range count {
		n = n<<8 | uint64(r.rest[i])
	}
	r.rest = r.rest[count:]
	return n
}

// Varint reads a varint; it refuses one that has a shorter encoding, so that each number has only one.
func (r *Reader) Varint() uint64 {
	if r.broken() {
		return 0
	}
	u := uint64(0)
	for i := range long {
		if i == len(r.rest) {
			r.fail(api.ErrTrunc)
			return 0
		}
		c := r.rest[i]
		if i == long-1 && c > 1 {
			break
		}
		if c == 0 && i > 0 {
			r.fail(api.ErrForm)
			return 0
		}
		u |= uint64(c&^more) << uint(group*i)
		if c < more {
			r.rest = r.rest[i+1:]
			return u
		}
	}
	r.fail(api.ErrRange)
	return 0
}

// Int reads a varint, and maps it back from zigzag.
func (r *Reader) Int() int {
	return Zag(r.Varint())
}

// Text reads a string.
func (r *Reader) Text() []byte {
	count := r.Varint()
	if r.broken() {
		return nil
	}
	if count > uint64(len(r.rest)) {
		r.fail(api.ErrTrunc)
		return nil
	}
	s := slices.Clone(r.rest[:count])
	r.rest = r.rest[count:]
	return s
}

// Left returns how many bytes are left.
func (r *Reader) Left() int {
	if r == nil {
		return 0
	}
	return len(r.rest)
}

// Err returns the first error.
func (r *Reader) Err() api.Errno {
	if r == nil {
		return api.OK
	}
	return r.err
}

// End returns the first error, or ErrForm if something is left.
func (r *Reader) End() api.Errno {
	if r.Err() == api.OK && r.Left() > 0 {
		return api.ErrForm
	}
	return r.Err()
}
