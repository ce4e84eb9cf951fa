package shop

import (
	"gimbal/api"
)

// skuKey is a sku that was changed.
type skuKey struct {
	name string
}

// job is the execution of one operation; it records what undoes it.
type job struct {
	*Shop
	undo    api.Undo
	changed map[skuKey]struct{}
}

// effects returns what each kind of operation does.
func effects() [api.LastOp + 1]func(*job, api.Op) api.Res {
	return [...]func(*job, api.Op) api.Res{
		api.OpRestock: (*job).restock,
		api.OpAdjust:  (*job).adjust,
		api.OpReserve: (*job).reserve,
		api.OpConfirm: (*job).confirm,
		api.OpCancel:  (*job).cancel,
		api.OpShip:    (*job).ship,
		api.OpExpire:  (*job).expire,
		api.OpSku:     (*job).tellSku,
		api.OpOrder:   (*job).tellOrder,
	}
}

// change lets call change a sku, and records how the sku was before it was changed first.
func (j *job) change(sku string, n int, call func(sku string, n int) int) int {
	x, had := j.stock.Get(sku)
	code := call(sku, n)
	if code != api.ResOK {
		return code
	}
	if _, again := j.changed[skuKey{sku}]; again {
		return code
	}
	if j.changed == nil {
		j.changed = map[skuKey]struct{}{}
	}
	j.changed[skuKey{sku}] = struct{}{}
	x.Name = sku
	j.undo.Skus = append(j.undo.Skus, api.SkuWas{Had: had, Sku: x})
	return code
}

// record records how an order was before it was changed.
func (j *job) record(x api.Order, had bool) {
	j.undo.Orders = append(j.undo.Orders, api.OrderWas{Had: had, Order: x})
}

func (j *job) restock(o api.Op) api.Res {
	return j.amount(o.Sku, j.change(o.Sku, o.N, j.stock.Add))
}

func (j *job) adjust(o api.Op) api.Res {
	if _, is := j.stock.Get(o.Sku); !is {
		return api.Res{Code: api.ResNone}
	}
	if o.N > 0 {
		return j.restock(o)
	}
	return j.amount(o.Sku, j.change(o.Sku, -o.N, j.stock.Take))
}

// amount is the result of what changed how much there is of a sku.
func (j *job) amount(sku string, code int) api.Res {
	if code != api.ResOK {
		return api.Res{Code: code}
	}
	x, _ := j.stock.Get(sku)
	return api.Res{Code: code, A: x.There}
}

func (j *job) reserve(o api.Op) api.Res {
	_, is := j.book.Get(o.Order)
	switch {
	case is:
		return api.Res{Code: api.ResTwice}
	case o.N <= j.time:
		return api.Res{Code: api.ResState}
	case j.book.Len() >= api.MaxOrders:
		return api.Res{Code: api.ResFull}
	}
	for i, l := range o.Lines {
		if code := j.change(l.Sku, l.N, j.stock.Hold); code != api.ResOK {
			j.letGo(o.Lines[:i])
			return api.Res{Code: code, A: i + 1}
		}
	}
	j.record(api.Order{Id: o.Order}, false)
	code := j.book.Open(o.Order, o.N, o.Lines)
	return api.Res{Code: code, A: j.book.Len()}
}

// letGo takes back that lines were held: then nothing has changed.
func (j *job) letGo(lines []api.Line) {
	for _, l := range lines {
		j.stock.Free(l.Sku, l.N)
	}
	j.undo.Skus = nil
}

func (j *job) confirm(o api.Op) api.Res {
	was, had := j.book.Get(o.Order)
	code := j.book.Confirm(o.Order)
	if code == api.ResOK {
		j.record(was, had)
	}
	return api.Res{Code: code}
}

// end records that an order was removed, and lets call happen to its lines.
func (j *job) end(x api.Order, call func(sku string, n int) int) {
	j.record(x, true)
	for _, l := range x.Lines {
		j.change(l.Sku, l.N, call)
	}
}

func (j *job) cancel(o api.Op) api.Res {
	x, code := j.book.Cancel(o.Order)
	if code != api.ResOK {
		return api.Res{Code: code}
	}
	j.end(x, j.stock.Free)
	return api.Res{Code: code, A: x.Stands}
}

func (j *job) ship(o api.Op) api.Res {
	x, code := j.book.Ship(o.Order)
	if code != api.ResOK {
		return api.Res{Code: code}
	}
	j.end(x, j.stock.Out)
	return api.Res{Code: code}
}

func (j *job) expire(o api.Op) api.Res {
	if o.N < j.time {
		return api.Res{Code: api.ResState}
	}
	j.time = o.N
	due := j.book.Due(j.time)
	for _, id := range due {
		j.cancel(api.Op{Order: id})
	}
	return api.Res{Code: api.ResOK, A: len(due)}
}

func (j *job) tellSku(o api.Op) api.Res {
	x, is := j.stock.Get(o.Sku)
	if !is {
		return api.Res{Code: api.ResNone}
	}
	return api.Res{Code: api.ResOK, A: x.There, B: x.Held}
}

func (j *job) tellOrder(o api.Op) api.Res {
	x, is := j.book.Get(o.Order)
	if !is {
		return api.Res{Code: api.ResNone}
	}
	return api.Res{Code: api.ResOK, A: x.Stands, B: x.Till}
}
