package table

import (
	"gimbal/api"
	"gimbal/bits"
	"gimbal/item"
)

// Bytes returns the encoding of t.
func (t *Table) Bytes() []byte {
	if t.isNone() {
		return nil
	}
	b := []byte{byte(t.Len())}
	for s := range t.each {
		res, _ := item.BytesRes(s.Res)
		b = bits.Varint(append(b, byte(s.Client)), uint64(s.Num))
		b = bits.Text(bits.Varint(b, uint64(s.Op)), res)
	}
	return b
}

func readSeat(r *bits.Reader) (api.Seat, api.Errno) {
	s := api.Seat{Client: int(r.Num(8)), Num: int(r.Varint()), Op: int(r.Varint())}
	b := r.Text()
	if r.Err() != api.OK {
		return api.Seat{}, r.Err()
	}
	res, e := item.ParseRes(b)
	s.Res = res
	if e != api.OK || !isSeat(s) {
		return api.Seat{}, api.ErrForm
	}
	return s, api.OK
}

// Open returns the table that b encodes.
func Open(b []byte) (*Table, api.Errno) {
	r := bits.Read(b)
	count := r.Num(8)
	if r.Err() != api.OK {
		return nil, r.Err()
	}
	if count > api.MaxSeats {
		return nil, api.ErrForm
	}
	t := New()
	last := -1
	for range count {
		s, e := readSeat(r)
		if e != api.OK {
			return nil, e
		}
		if s.Client <= last {
			return nil, api.ErrForm
		}
		last = s.Client
		t.seats[s.Client] = api.SeatWas{Had: true, Seat: s}
	}
	if e := r.End(); e != api.OK {
		return nil, e
	}
	return t, api.OK
}
