package self_test

import (
	"slices"
	"testing"

	"pitfloor/api"
	"pitfloor/plain"
	"pitfloor/self"
)

// What the tests of package self are made of.

const (
	bid      = 4998 // the best prices of the books that are made: there are three prices between
	ask      = 5002
	comer    = 9000 // the order that comes, and its trader
	comerWho = 9
	resting  = 8000 // what rests on the side of who comes, of its own trader
)

func rest(id, who, qty, hidden, show int) api.Rest {
	return api.Rest{Id: id, Who: who, Qty: qty, Hidden: hidden, Show: show}
}

// open is a Rest of another trader, that hides nothing.
func open(id, qty int) api.Rest { return rest(id, id%8+1, qty, 0, 0) }

// own is a Rest of the trader who comes, that hides nothing.
func own(id, qty int) api.Rest { return rest(id, comerWho, qty, 0, 0) }

// melting is a Rest of another trader that trades one at a time, so many times in all.
func melting(id, times int) api.Rest { return rest(id, 1, 1, times-1, 1) }

func queue(l ...api.Rest) []api.Rest { return l }

// row of so many Rests of 1 each, of other traders, with Ids from one on.
func row(from, count int) (l []api.Rest) {
	for id := from; id < from+count; id++ {
		l = append(l, open(id, 1))
	}
	return l
}

// behind gives the price that stands so many behind the best one of a side.
func behind(s, by int) int {
	if s == api.Buy {
		return bid - by
	}
	return ask + by
}

// stairs of Levels, their prices two apart; an empty queue leaves its step out.
func stairs(s int, queues ...[]api.Rest) (l []api.Level) {
	for i, q := range queues {
		if len(q) > 0 {
			l = append(l, api.Level{Price: behind(s, 2*i), Rests: q})
		}
	}
	return l
}

// facing is a book in which who comes from a side meets these queues; one of its own trader rests on that side itself.
func facing(s int, queues ...[]api.Rest) api.Book {
	own := stairs(s, queue(rest(resting, comerWho, 6, 7, 8)))
	return with(with(api.Book{}, s, own), 3-s, stairs(3-s, queues...))
}

// comes is an order from a side, up to the price that stands so many behind the best one of the other side.
func comes(s, by, qty int) api.Order {
	return api.Order{Id: comer, Who: comerWho, Side: s, Kind: api.Limit, Price: behind(3-s, by), Qty: qty}
}

// ofKind gives an order with another Kind.
func ofKind(o api.Order, kind int) api.Order {
	o.Kind = kind
	if kind == api.Market {
		o.Price = 0
	}
	return o
}

func withShow(o api.Order, show int) api.Order {
	o.Show = show
	return o
}

func withStop(o api.Order, stop int) api.Order {
	o.Stop = stop
	return o
}

func withId(o api.Order, id int) api.Order {
	o.Id = id
	return o
}

// eachKind goes over an order in all its kinds.
func eachKind(o api.Order, do func(o api.Order)) {
	for kind := api.Limit; kind <= api.Post; kind++ {
		do(ofKind(o, kind))
	}
}

func eachSide(do func(s int)) {
	do(api.Buy)
	do(api.Sell)
}

// eachMode goes over all modes but Allow.
func eachMode(do func(mode int)) {
	do(api.DropTaker)
	do(api.DropMaker)
	do(api.DropBoth)
}

// traded is a Trade of who comes from a side, at the price that stands so many behind the best one of the other side.
func traded(s, by int, maker api.Rest, qty int) api.Trade {
	t := api.Trade{Maker: maker.Id, Taker: comer, From: maker.Who, To: comerWho, Price: behind(3-s, by), Qty: qty}
	if s == api.Sell {
		t.From, t.To = t.To, t.From
	}
	return t
}

func levels(b api.Book, s int) []api.Level {
	if s == api.Buy {
		return b.Buys
	}
	return b.Sells
}

// with gives a book that has other Levels on a side.
func with(b api.Book, s int, l []api.Level) api.Book {
	if s == api.Buy {
		b.Buys = l
	} else {
		b.Sells = l
	}
	return b
}

// joined gives a book in which so much of an order, all of it shown, stands at a Level of its own, the first one there.
func joined(b api.Book, o api.Order, qty int) api.Book {
	first := api.Level{Price: o.Price, Rests: queue(rest(o.Id, o.Who, qty, 0, 0))}
	return with(b, o.Side, append([]api.Level{first}, levels(b, o.Side)...))
}

// copiedLevels are copied deeply.
func copiedLevels(l []api.Level) []api.Level {
	l = slices.Clone(l)
	for i := range l {
		l[i].Rests = slices.Clone(l[i].Rests)
	}
	return l
}

func copied(b api.Book) api.Book {
	return api.Book{Buys: copiedLevels(b.Buys), Sells: copiedLevels(b.Sells)}
}

func sameLevels(a, b []api.Level) bool {
	return slices.EqualFunc(a, b, func(a, b api.Level) bool {
		return a.Price == b.Price && slices.Equal(a.Rests, b.Rests)
	})
}

func same(a, b api.Book) bool { return sameLevels(a.Buys, b.Buys) && sameLevels(a.Sells, b.Sells) }

// answer of Do.
type answer struct {
	book   api.Book
	trades []api.Trade
	gone   int
	ids    []int
	err    api.Errno
}

func did(b api.Book, o api.Order, mode int) answer {
	left, trades, gone, ids, err := self.Do(b, o, mode)
	return answer{left, trades, gone, ids, plain.Told(err)}
}

func equal(a, b answer) bool {
	lists := same(a.book, b.book) && slices.Equal(a.trades, b.trades) && slices.Equal(a.ids, b.ids)
	return lists && a.gone == b.gone && a.err == b.err
}

func wantDo(t *testing.T, b api.Book, o api.Order, mode int, want answer) {
	t.Helper()
	if got := did(b, o, mode); !equal(got, want) {
		t.Errorf("Do(%v, %v, %d): got %v, want %v", b, o, mode, got, want)
	}
}

func wantError(t *testing.T, b api.Book, o api.Order, mode int, want api.Errno) {
	t.Helper()
	wantDo(t, b, o, mode, answer{err: want})
}
