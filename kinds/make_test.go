package kinds_test

import (
	"slices"

	"pitfloor/api"
)

// What the tests of package kinds are made of.

const (
	bid      = 4998 // the best prices of the books that are made: there are three prices between
	ask      = 5002
	comer    = 9000 // the order that comes, and its trader
	comerWho = 9
	resting  = 8000 // what rests on the side of who comes
)

func rest(id, who, qty, hidden, show int) api.Rest {
	return api.Rest{Id: id, Who: who, Qty: qty, Hidden: hidden, Show: show}
}

// open is a Rest that hides nothing.
func open(id, qty int) api.Rest { return rest(id, id%8+1, qty, 0, 0) }

func queue(l ...api.Rest) []api.Rest { return l }

// row of so many Rests of 1 each, with Ids from one on.
func row(from, count int) (l []api.Rest) {
	for id := from; id < from+count; id++ {
		l = append(l, open(id, 1))
	}
	return l
}

// behind gives the price that stands so many behind the best one of a side.
func behind(s, by int) int {
	if s == api.Buy {
		return bid - by
	}
	return ask + by
}

// stairs of Levels, their prices two apart; an empty queue leaves its step out.
func stairs(s int, queues ...[]api.Rest) (l []api.Level) {
	for i, q := range queues {
		if len(q) > 0 {
			l = append(l, api.Level{Price: behind(s, 2*i), Rests: q})
		}
	}
	return l
}

// facing is a book in which who comes from a side meets these queues; one rests on that side itself.
func facing(s int, queues ...[]api.Rest) api.Book {
	own := stairs(s, queue(rest(resting, 5, 6, 7, 8)))
	return with(with(api.Book{}, s, own), 3-s, stairs(3-s, queues...))
}

// comes is an order from a side, up to the price that stands so many behind the best one of the other side.
func comes(s, by, qty int) api.Order {
	return api.Order{Id: comer, Who: comerWho, Side: s, Kind: api.Limit, Price: behind(3-s, by), Qty: qty}
}

// ofKind gives an order with another Kind.
func ofKind(o api.Order, kind int) api.Order {
	o.Kind = kind
	if kind == api.Market {
		o.Price = 0
	}
	return o
}

func withStop(o api.Order, stop int) api.Order {
	o.Stop = stop
	return o
}

func withId(o api.Order, id int) api.Order {
	o.Id = id
	return o
}

// traded is a Trade of who comes from a side, at the price that stands so many behind the best one of the other side.
func traded(s, by int, maker api.Rest, qty int) api.Trade {
	if s == api.Buy {
		return api.Trade{Maker: maker.Id, Taker: comer, From: maker.Who, To: comerWho, Price: ask + by, Qty: qty}
	}
	return api.Trade{Maker: maker.Id, Taker: comer, From: comerWho, To: maker.Who, Price: bid - by, Qty: qty}
}

func eachSide(do func(s int)) {
	do(api.Buy)
	do(api.Sell)
}

func levels(b api.Book, s int) []api.Level {
	if s == api.Buy {
		return b.Buys
	}
	return b.Sells
}

// with gives a book that has other Levels on a side.
func with(b api.Book, s int, l []api.Level) api.Book {
	if s == api.Buy {
		b.Buys = l
	} else {
		b.Sells = l
	}
	return b
}

// copiedLevels are copied deeply.
func copiedLevels(l []api.Level) []api.Level {
	l = slices.Clone(l)
	for i := range l {
		l[i].Rests = slices.Clone(l[i].Rests)
	}
	return l
}

func copied(b api.Book) api.Book {
	return api.Book{Buys: copiedLevels(b.Buys), Sells: copiedLevels(b.Sells)}
}

func sameLevels(a, b []api.Level) bool {
	return slices.EqualFunc(a, b, func(a, b api.Level) bool {
		return a.Price == b.Price && slices.Equal(a.Rests, b.Rests)
	})
}

func same(a, b api.Book) bool { return sameLevels(a.Buys, b.Buys) && sameLevels(a.Sells, b.Sells) }

// withShow gives an order that shows so much of what rests at a time.
func withShow(o api.Order, show int) api.Order {
	o.Show = show
	return o
}

// melting is a Rest that trades one at a time, so many times in all.
func melting(id, times int) api.Rest { return rest(id, 1, 1, times-1, 1) }

// joined gives a book in which a Rest of who comes from a side stands at a Level of its own, the first one there.
func joined(b api.Book, s, price int, r api.Rest) api.Book {
	own := append([]api.Level{{Price: price, Rests: queue(r)}}, levels(b, s)...)
	return with(b, s, own)
}
