package shop

import (
	"gimbal/api"
	"gimbal/bits"
)

// Bytes returns the encoding of s.
func (s *Shop) Bytes() []byte {
	if s.isNone() {
		return nil
	}
	skus, orders := s.Skus(), s.Orders()
	b := bits.Varint(bits.Varint(nil, uint64(s.time)), uint64(len(skus)))
	for _, x := range skus {
		b = bits.Text(b, []byte(x.Name))
		b = bits.Varint(bits.Varint(b, uint64(x.There)), uint64(x.Held))
	}
	b = bits.Varint(b, uint64(len(orders)))
	for _, x := range orders {
		b = writeOrder(b, x)
	}
	return b
}

func writeOrder(b []byte, x api.Order) []byte {
	b = bits.Varint(bits.Varint(b, uint64(x.Id)), uint64(x.Till))
	b = bits.Varint(append(b, byte(x.Stands)), uint64(len(x.Lines)))
	for _, l := range x.Lines {
		b = bits.Varint(bits.Text(b, []byte(l.Sku)), uint64(l.N))
	}
	return b
}

// Of each list one item more than there may be is read, at most: that is enough to refuse it.

func readSkus(r *bits.Reader) []api.Sku {
	var l []api.Sku
	for range min(r.Varint(), api.MaxSkus+1) {
		l = append(l, api.Sku{Name: string(r.Text()), There: int(r.Varint()), Held: int(r.Varint())})
	}
	return l
}

func readOrders(r *bits.Reader) []api.Order {
	var l []api.Order
	for range min(r.Varint(), api.MaxOrders+1) {
		x := api.Order{Id: int(r.Varint()), Till: int(r.Varint()), Stands: int(r.Num(8))}
		for range min(r.Varint(), api.MaxLines+1) {
			x.Lines = append(x.Lines, api.Line{Sku: string(r.Text()), N: int(r.Varint())})
		}
		l = append(l, x)
	}
	return l
}

// inOrder reports whether keys increase from each item to the next.
func inOrder(skus []api.Sku, orders []api.Order) bool {
	for i := 1; i < len(skus); i++ {
		if skus[i-1].Name >= skus[i].Name {
			return false
		}
	}
	for i := 1; i < len(orders); i++ {
		if orders[i-1].Id >= orders[i].Id {
			return false
		}
	}
	return true
}

// Open returns the shop that b encodes, with the count 0.
func Open(b []byte) (*Shop, api.Errno) {
	r := bits.Read(b)
	s := New()
	s.time = int(r.Varint())
	skus := readSkus(r)
	orders := readOrders(r)
	if e := r.End(); e != api.OK {
		return nil, e
	}
	if !inOrder(skus, orders) || !s.fill(skus, orders) || !s.isValid() {
		return nil, api.ErrForm
	}
	return s, api.OK
}
