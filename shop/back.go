package shop

import (
	"gimbal/api"
)

// Back undoes the operation that was executed last.
func (s *Shop) Back(u api.Undo) api.Errno {
	if s.isNone() {
		return api.ErrNil
	}
	if u.Seq < 1 || u.Seq != s.count {
		return api.ErrUndo
	}
	was := s.Copy()
	was.time, was.count = u.Now, s.count-1
	if !was.restore(u) || !was.isValid() {
		return api.ErrUndo
	}
	*s = *was
	return api.OK
}

// restore lets skus and orders be as u states. All of them are dropped first: then those that existed can't be too many only for a while.
func (s *Shop) restore(u api.Undo) bool {
	var skus []api.Sku
	for _, x := range u.Skus {
		s.stock.Drop(x.Sku.Name)
		if x.Had {
			skus = append(skus, x.Sku)
		}
	}
	var orders []api.Order
	for _, x := range u.Orders {
		s.book.Drop(x.Order.Id)
		if x.Had {
			orders = append(orders, x.Order)
		}
	}
	return s.fill(skus, orders)
}
