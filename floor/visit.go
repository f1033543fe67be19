package floor

import (
	"pitfloor/api"
	"pitfloor/book"
	"pitfloor/margin"
	"pitfloor/self"
)

// visit of an order to the book: what would come of it.
type visit struct {
	book   api.Book
	trades []api.Trade
	gone   int   // of the order
	ids    []int // of Rests that are gone, for they are of the order's own trader
}

// visit the book, which stays as it is.
func (t *turn) visit(o api.Order) (visit, error) {
	left, trades, gone, ids, err := self.Do(t.book, o, t.mode)
	return visit{left, trades, gone, ids}, err
}

// settle a visit of an order for which all has been put by.
func (t *turn) settle(o api.Order, v visit) error {
	if err := t.trade(v.trades); err != nil {
		return err
	}
	cash, stock, err := margin.Back(o, v.trades, v.gone)
	if err != nil {
		return err
	}
	if err := t.purses.Free(o.Who, cash, stock); err != nil {
		return err
	}
	for _, id := range v.ids {
		// An order takes nothing of its own trader: what went is as it rested ahead of the visit.
		side, price, r, err := book.Find(t.book, id)
		if err != nil {
			return err
		}
		if err := t.part(r, side, price); err != nil {
			return err
		}
	}
	t.book = v.book
	t.tellLeft(o, v)
	return t.wake(v.trades)
}

// trade what is put by.
func (t *turn) trade(l []api.Trade) error {
	for _, one := range l {
		if err := t.purses.Trade(one); err != nil {
			return err
		}
		t.events = append(t.events, api.Event{What: api.Traded, Trade: one})
	}
	return nil
}

// tellLeft tells what has become of what is left of an order: all that was not traded is gone, or rests.
func (t *turn) tellLeft(o api.Order, v visit) {
	if v.gone > 0 {
		t.tell(api.Gone, o.Id, v.gone, o.Price)
	}
	rests := o.Qty - v.gone
	for _, one := range v.trades {
		rests -= one.Qty
	}
	if rests > 0 {
		t.tell(api.Rested, o.Id, rests, o.Price)
	}
}
