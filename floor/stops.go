package floor

import (
	"slices"

	"pitfloor/api"
	"pitfloor/margin"
)

// sleeper is an order that has woken, and the price of the Trade that woke it.
type sleeper struct {
	order api.Order
	price int
}

// sleep till the Stop of an order, for which all has been put by, is met.
func (t *turn) sleep(o api.Order) error {
	if err := t.stops.Put(o); err != nil {
		return err
	}
	t.tell(api.Sleeping, o.Id, o.Qty, o.Stop)
	return nil
}

// wake those who wait for the price of the last one of some Trades. They come behind those that woke ahead of them.
func (t *turn) wake(trades []api.Trade) error {
	if len(trades) == 0 {
		return nil
	}
	t.last = trades[len(trades)-1].Price
	woken, err := t.stops.Wake(t.last)
	if err != nil {
		return err
	}
	for _, o := range woken {
		t.woken = append(t.woken, sleeper{o, t.last})
	}
	return nil
}

// wakeUp all that have woken, and those whom they wake; there is an end, for none waits again.
func (t *turn) wakeUp() error {
	for len(t.woken) > 0 {
		next := t.woken[0]
		t.woken = t.woken[1:]
		t.tell(api.Woken, next.order.Id, next.order.Qty, next.price)
		if err := t.rise(next.order); err != nil {
			return err
		}
	}
	return nil
}

// rise of an order that has woken. If the book refuses it, it is gone: nobody is there any more to be told of the error.
func (t *turn) rise(o api.Order) error {
	v, err := t.visit(o)
	if err != nil {
		return t.vanish(o)
	}
	return t.settle(o, v)
}

// vanish: an order that has not come to the book is gone, and what was put by for it is free.
func (t *turn) vanish(o api.Order) error {
	cash, stock, err := margin.For(o)
	if err != nil {
		return err
	}
	if err := t.purses.Free(o.Who, cash, stock); err != nil {
		return err
	}
	t.tell(api.Gone, o.Id, o.Qty, o.Price)
	return nil
}

// waits tells whether one of an Id does.
func waits(l []api.Order, id int) bool {
	return slices.ContainsFunc(l, func(o api.Order) bool { return o.Id == id })
}
