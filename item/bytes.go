package item

import (
	"gimbal/api"
	"gimbal/bits"
)

// Bytes returns the encoding of o.
func Bytes(o api.Op) ([]byte, api.Errno) {
	if e := Check(o); e != api.OK {
		return nil, e
	}
	has := fields(o.Kind)
	b := []byte{byte(o.Kind)}
	if has&hasSku != 0 {
		b = bits.Text(b, []byte(o.Sku))
	}
	if has&hasOrder != 0 {
		b = bits.Varint(b, uint64(o.Order))
	}
	if has&hasAmount != 0 {
		b = bits.Varint(b, uint64(o.N))
	}
	if has&hasChange != 0 {
		b = bits.Int(b, o.N)
	}
	if has&hasLines != 0 {
		b = bits.Varint(b, uint64(len(o.Lines)))
	}
	for _, l := range o.Lines {
		b = bits.Varint(bits.Text(b, []byte(l.Sku)), uint64(l.N))
	}
	return b, api.OK
}

// readLines reads one line more than an order may have, at most: that is enough to refuse them.
func readLines(r *bits.Reader) []api.Line {
	var l []api.Line
	for range min(r.Varint(), api.MaxLines+1) {
		l = append(l, api.Line{Sku: string(r.Text()), N: int(r.Varint())})
	}
	return l
}

// Parse returns the operation that b encodes.
func Parse(b []byte) (api.Op, api.Errno) {
	r := bits.Read(b)
	o := api.Op{Kind: int(r.Num(8))}
	has := fields(o.Kind)
	if has&hasSku != 0 {
		o.Sku = string(r.Text())
	}
	if has&hasOrder != 0 {
		o.Order = int(r.Varint())
	}
	if has&hasAmount != 0 {
		o.N = int(r.Varint())
	}
	if has&hasChange != 0 {
		o.N = r.Int()
	}
	if has&hasLines != 0 {
		o.Lines = readLines(r)
	}
	if e := r.End(); e != api.OK {
		return api.Op{}, e
	}
	if Check(o) != api.OK {
		return api.Op{}, api.ErrForm
	}
	return o, api.OK
}

// BytesRes returns the encoding of r.
func BytesRes(r api.Res) ([]byte, api.Errno) {
	if e := CheckRes(r); e != api.OK {
		return nil, e
	}
	return bits.Varint(bits.Varint([]byte{byte(r.Code)}, uint64(r.A)), uint64(r.B)), api.OK
}

// ParseRes returns the result that b encodes.
func ParseRes(b []byte) (api.Res, api.Errno) {
	r := bits.Read(b)
	x := api.Res{Code: int(r.Num(8)), A: int(r.Varint()), B: int(r.Varint())}
	if e := r.End(); e != api.OK {
		return api.Res{}, e
	}
	if CheckRes(x) != api.OK {
		return api.Res{}, api.ErrForm
	}
	return x, api.OK
}
