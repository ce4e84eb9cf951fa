package record

import (
	"gimbal/api"
	"gimbal/bits"
	"gimbal/entry"
	"gimbal/sum"
)

const (
	headLen = 4 // the number of bytes of the body, and its complement
	crcLen  = 4
)

// parse reads the body of a record; it reports whether that is one.
func parse(b []byte) (api.Rec, bool) {
	r := bits.Read(b)
	x := api.Rec{Kind: int(r.Num(8))}
	has := fields(x.Kind)
	if has&hasOp != 0 {
		x.Op = int(r.Varint())
	}
	if has&hasView != 0 {
		x.View, x.Last = int(r.Varint()), int(r.Varint())
	}
	e := r.Err()
	switch {
	case e != api.OK:
	case has&hasEntry != 0:
		x.Entry, e = entry.Parse(b[len(b)-r.Left():])
	case has&hasEntries != 0:
		x.Entries, e = entry.Rows(r.Text())
		if e == api.OK {
			e = r.End()
		}
	default:
		e = r.End()
	}
	return x, e == api.OK && Check(x) == api.OK
}

// Scan returns the records that are complete, and the number of their bytes; what follows them may be torn, but not corrupt.
func Scan(b []byte) (l []api.Rec, whole int, e api.Errno) {
records:
	for len(b)-whole >= headLen {
		rest := b[whole:]
		head := bits.Read(rest[:headLen])
		size, complement := head.Num(16), head.Num(16)
		end := headLen + int(size)
		switch {
		case size^0xFFFF != complement:
			e = api.ErrSpoil
			break records
		case len(rest) < end+crcLen:
			break records
		case bits.Read(rest[end:end+crcLen]).Num(32) != uint64(sum.Crc(rest[:end])):
			e = api.ErrSpoil
			break records
		}
		x, is := parse(rest[headLen:end])
		if !is {
			e = api.ErrSpoil
			break records
		}
		l = append(l, x)
		whole += end + crcLen
	}
	return l, whole, e
}
