package self

import (
	"slices"

	"pitfloor/api"
	"pitfloor/book"
	"pitfloor/meet"
	"pitfloor/order"
	"pitfloor/queue"
)

// visit of an order to a book: what has come of it.
type visit struct {
	book   api.Book
	trades []api.Trade
	left   int   // of the order, that may still trade or rest
	gone   int   // of the order, because it came upon a Rest of its own trader
	ids    []int // of Rests that are gone, because the order came upon them
}

// come to a book: an order meets all it can, but no Rest of its own trader.
func come(b api.Book, o api.Order, mode int) (visit, error) {
	if err := meet.Check(b, o); err != nil {
		return visit{}, err
	}
	v := visit{book: b, left: o.Qty}
	for v.left > 0 {
		qty, own, err := ahead(v.book, o)
		if err != nil {
			return visit{}, err
		}
		if err := v.take(o, min(qty, v.left)); err != nil {
			return visit{}, err
		}
		// If all of the order is taken by now it does not come upon its own Rest.
		if own == 0 || v.left == 0 {
			break
		}
		if err := v.drop(own, mode); err != nil {
			return visit{}, err
		}
	}
	return v, nil
}

// take so much, which others have ahead of any Rest of the order's own trader.
func (v *visit) take(o api.Order, qty int) error {
	if qty == 0 {
		return nil
	}
	// A part of an order may be less than its Show, which only what rests asks for.
	o.Qty, o.Show = qty, 0
	left, trades, _, err := meet.Do(v.book, o)
	if err != nil {
		return err
	}
	v.book, v.left = left, v.left-qty
	v.trades = append(v.trades, trades...)
	// Do bounds the Trades of this part alone.
	if len(v.trades) > api.MaxTrades {
		return api.ErrFull
	}
	return nil
}

// drop whom the mode says: the Rest of an Id, what is left of the order, or both.
func (v *visit) drop(id, mode int) error {
	if mode != api.DropTaker {
		left, _, err := book.Cancel(v.book, id)
		if err != nil {
			return err
		}
		v.book = left
		v.ids = append(v.ids, id)
	}
	if mode != api.DropMaker {
		v.gone, v.left = v.left, 0
	}
	return nil
}

// ahead tells how much an order may take of others till it comes upon a Rest of its own trader, and the Id of that, 0 if there is none.
func ahead(b api.Book, o api.Order) (int, int, error) {
	qty := 0
	for _, level := range facing(b, o.Side) {
		meets, err := order.Meets(o, level.Price)
		if err != nil {
			return 0, 0, err
		}
		if !meets {
			break
		}
		at := slices.IndexFunc(level.Rests, func(r api.Rest) bool { return r.Who == o.Who })
		if at >= 0 {
			// What is hidden ahead of it comes into sight behind it.
			return qty + shown(level.Rests[:at]), level.Rests[at].Id, nil
		}
		total, err := queue.Total(level.Rests)
		if err != nil {
			return 0, 0, err
		}
		qty += total
	}
	return qty, 0, nil
}

// facing is what who comes from a side meets.
func facing(b api.Book, side int) []api.Level {
	if side == api.Buy {
		return b.Sells
	}
	return b.Buys
}

// shown is all that Rests show.
func shown(l []api.Rest) int {
	total := 0
	for _, r := range l {
		total += r.Qty
	}
	return total
}
