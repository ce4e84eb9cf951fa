package proxy

import (
	"testing"

	"gimbal/api"
)

func TestGreatestNum(t *testing.T) { // P21.1
	p, _ := New(2, 3, 5)
	p.num = api.MaxQty - 1
	o := api.Op{Kind: api.OpShip, Order: 5}
	if num, e := p.Ask(o); num != api.MaxQty || e != api.OK {
		t.Error(num, e)
	}
	if _, _, _, is := p.Take(api.Msg{Kind: api.MsgReply, To: 17, Op: 1, Entry: api.Entry{Client: 2, Num: api.MaxQty}, Sure: true}); !is {
		t.Error("the last one has a result")
	}
	if num, e := p.Ask(o); num != 0 || e != api.ErrLimit || p.Waits() {
		t.Error(num, e)
	}
	if _, e := p.Ask(api.Op{}); e != api.ErrArg {
		t.Error("the operation is checked first", e)
	}
}
