package msg

import (
	"gimbal/api"
	"gimbal/bits"
	"gimbal/entry"
	"gimbal/item"
	"gimbal/sum"
)

// writeRes encodes the result of a valid message, and whether it is sure.
func writeRes(b []byte, m api.Msg) []byte {
	r, _ := item.BytesRes(m.Res)
	b = bits.Text(b, r)
	if m.Sure {
		return append(b, 1)
	}
	return append(b, 0)
}

// writeImage encodes a valid image.
func writeImage(b []byte, x api.Image) []byte {
	b = bits.Varint(bits.Varint(b, uint64(x.Base)), uint64(x.Commit))
	row, _ := entry.Row(x.Entries)
	return bits.Text(bits.Text(b, x.Ckpt), row)
}

// Bytes returns the encoding of m.
func Bytes(m api.Msg) ([]byte, api.Errno) {
	if e := Check(m); e != api.OK {
		return nil, e
	}
	has := fields(m.Kind)
	b := []byte{byte(m.Kind), byte(m.From), byte(m.To)}
	for i, n := range [...]int{m.View, m.Op, m.Commit, m.Last} {
		if has&(hasView<<i) != 0 {
			b = bits.Varint(b, uint64(n))
		}
	}
	if has&hasEntry != 0 {
		x, _ := entry.Bytes(m.Entry)
		b = bits.Text(b, x)
	}
	if has&hasRequest != 0 {
		b = bits.Varint(append(b, byte(m.Entry.Client)), uint64(m.Entry.Num))
	}
	if has&hasRes != 0 {
		b = writeRes(b, m)
	}
	if has&hasImage != 0 {
		b = writeImage(b, m.Image)
	}
	return sum.Seal(b)
}

func readHead(r *bits.Reader, m *api.Msg) api.Errno {
	m.Kind, m.From, m.To = int(r.Num(8)), int(r.Num(8)), int(r.Num(8))
	return r.Err()
}

func readNumbers(r *bits.Reader, m *api.Msg) api.Errno {
	has := fields(m.Kind)
	for i, n := range [...]*int{&m.View, &m.Op, &m.Commit, &m.Last} {
		if has&(hasView<<i) != 0 {
			*n = int(r.Varint())
		}
	}
	return r.Err()
}

func readEntry(r *bits.Reader, m *api.Msg) (e api.Errno) {
	has := fields(m.Kind)
	if has&hasEntry != 0 {
		b := r.Text()
		if r.Err() != api.OK {
			return r.Err()
		}
		m.Entry, e = entry.Parse(b)
		return e
	}
	if has&hasRequest != 0 {
		m.Entry.Client, m.Entry.Num = int(r.Num(8)), int(r.Varint())
	}
	return r.Err()
}

func readRes(r *bits.Reader, m *api.Msg) (e api.Errno) {
	if fields(m.Kind)&hasRes == 0 {
		return api.OK
	}
	b := r.Text()
	if r.Err() != api.OK {
		return r.Err()
	}
	if m.Res, e = item.ParseRes(b); e != api.OK {
		return e
	}
	sure := r.Num(8)
	if sure > 1 {
		return api.ErrForm
	}
	m.Sure = sure == 1
	return r.Err()
}

func readImage(r *bits.Reader, m *api.Msg) (e api.Errno) {
	if fields(m.Kind)&hasImage == 0 {
		return api.OK
	}
	m.Image.Base, m.Image.Commit = int(r.Varint()), int(r.Varint())
	m.Image.Ckpt = r.Text()
	row := r.Text()
	if r.Err() != api.OK {
		return r.Err()
	}
	m.Image.Entries, e = entry.Rows(row)
	return e
}

// Parse returns the message that b encodes.
func Parse(b []byte) (api.Msg, api.Errno) {
	body, e := sum.Open(b)
	if e != api.OK {
		return api.Msg{}, e
	}
	r := bits.Read(body)
	m := api.Msg{}
	for _, read := range [...]func(*bits.Reader, *api.Msg) api.Errno{readHead, readNumbers, readEntry, readRes, readImage} {
		if e := read(r, &m); e != api.OK {
			return api.Msg{}, e
		}
	}
	if r.End() != api.OK || Check(m) != api.OK {
		return api.Msg{}, api.ErrForm
	}
	return m, api.OK
}
