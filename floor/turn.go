package floor

import (
	"pitfloor/api"
	"pitfloor/book"
	"pitfloor/margin"
	"pitfloor/swap"
)

// turn of a command: it has a Floor of its own, which takes the place of the one that it was given to only if no error comes, so that with an error nothing is done.
type turn struct {
	Floor
	events []api.Event
	woken  []sleeper // that have not come yet, who woke first ahead
}

// do a command, but for those whom it wakes.
func (t *turn) do(c api.Command) error {
	switch c.What {
	case api.Place:
		return t.place(c.Order)
	case api.Cancel:
		return t.cancel(c.Order.Id)
	case api.Swap:
		return t.swap(c.Order.Id, c.Order.Price, c.Order.Qty)
	case api.Pay:
		return t.purses.Pay(c.Who, c.N)
	case api.Give:
		return t.purses.Give(c.Who, c.N)
	}
	return api.ErrRange
}

// tell what is done of an order.
func (t *turn) tell(what, id, qty, price int) {
	t.events = append(t.events, api.Event{What: what, Id: id, Qty: qty, Price: price})
}

// place an order: it waits, if it has a Stop, or comes to the book.
func (t *turn) place(o api.Order) error {
	cash, stock, err := margin.For(o)
	if err != nil {
		return err
	}
	if t.has(o.Id) {
		return api.ErrClash
	}
	if err := t.purses.Hold(o.Who, cash, stock); err != nil {
		return err
	}
	if o.Stop != 0 {
		return t.sleep(o)
	}
	v, err := t.visit(o)
	if err != nil {
		return err
	}
	return t.settle(o, v)
}

// has it an order of an Id, that rests or waits?
func (t *turn) has(id int) bool {
	if _, _, _, err := book.Find(t.book, id); err == nil {
		return true
	}
	return waits(t.stops.All(), id)
}

// cancel what rests, or what waits.
func (t *turn) cancel(id int) error {
	if _, _, _, err := book.Find(t.book, id); err == nil {
		return t.leave(id)
	}
	o, err := t.stops.Drop(id)
	if err != nil {
		return err
	}
	return t.vanish(o)
}

// leave the book: of what rests nothing is put by any more.
func (t *turn) leave(id int) error {
	side, price, r, err := book.Find(t.book, id)
	if err != nil {
		return err
	}
	left, _, err := book.Cancel(t.book, id)
	if err != nil {
		return err
	}
	t.book = left
	return t.part(r, side, price)
}

// part from a Rest that is in the book no more: what was put by for it is free, and all of it is gone.
func (t *turn) part(r api.Rest, side, price int) error {
	if err := t.free(r, side, price); err != nil {
		return err
	}
	t.tell(api.Gone, r.Id, all(r), price)
	return nil
}

// free what is put by for a Rest.
func (t *turn) free(r api.Rest, side, price int) error {
	cash, stock, err := margin.Left(r, side, price)
	if err != nil {
		return err
	}
	return t.purses.Free(r.Who, cash, stock)
}

// swap the price and the Qty of what rests.
func (t *turn) swap(id, price, qty int) error {
	keeps, err := swap.Keeps(t.book, id, price, qty)
	if err != nil {
		return err
	}
	if keeps {
		return t.shrink(id, price, qty)
	}
	side, _, r, err := book.Find(t.book, id)
	if err != nil {
		return err
	}
	if err := t.leave(id); err != nil {
		return err
	}
	return t.place(swap.Anew(r, side, price, qty))
}

// shrink what rests to so much, at its place.
func (t *turn) shrink(id, price, qty int) error {
	less, _, _, err := swap.Do(t.book, id, price, qty)
	if err != nil {
		return err
	}
	side, _, r, err := book.Find(t.book, id)
	if err != nil {
		return err
	}
	if over := all(r) - qty; over > 0 {
		// For a part as much is put by as for a Rest that is no greater.
		if err := t.free(api.Rest{Id: id, Who: r.Who, Qty: over}, side, price); err != nil {
			return err
		}
	}
	t.book = less
	t.tell(api.Rested, id, qty, price)
	return nil
}

// all of a Rest, shown and hidden.
func all(r api.Rest) int { return r.Qty + r.Hidden }
