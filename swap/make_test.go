package swap_test

import (
	"slices"
	"testing"

	"pitfloor/api"
	"pitfloor/plain"
	"pitfloor/swap"
)

// What the tests of package swap are made of.

const (
	bid      = 4998 // the best prices of the books that are made: there are three prices between
	ask      = 5002
	mover    = 9000 // the order that has another price, and its trader
	moverWho = 9
)

func rest(id, who, qty, hidden, show int) api.Rest {
	return api.Rest{Id: id, Who: who, Qty: qty, Hidden: hidden, Show: show}
}

// open is a Rest of another trader, that hides nothing.
func open(id, qty int) api.Rest { return rest(id, id%8+1, qty, 0, 0) }

// moves is the Rest that has another price.
func moves(qty, hidden, show int) api.Rest { return rest(mover, moverWho, qty, hidden, show) }

// melting is a Rest that trades one at a time, so many times in all.
func melting(id, times int) api.Rest { return rest(id, 1, 1, times-1, 1) }

func queue(l ...api.Rest) []api.Rest { return l }

// row of so many Rests of 1 each, with Ids from one on.
func row(from, count int) (l []api.Rest) {
	for id := from; id < from+count; id++ {
		l = append(l, open(id, 1))
	}
	return l
}

// behind gives the price that stands so many behind the best one of a side.
func behind(s, by int) int {
	if s == api.Buy {
		return bid - by
	}
	return ask + by
}

// stairs of Levels, their prices two apart; an empty queue leaves its step out.
func stairs(s int, queues ...[]api.Rest) (l []api.Level) {
	for i, q := range queues {
		if len(q) > 0 {
			l = append(l, api.Level{Price: behind(s, 2*i), Rests: q})
		}
	}
	return l
}

// at is a Level of a side that stands so many behind the best one.
func at(s, by int, l ...api.Rest) api.Level { return api.Level{Price: behind(s, by), Rests: l} }

// sides gives a book that has such Levels on a side, and such on the other one.
func sides(s int, own, other []api.Level) api.Book {
	if s == api.Buy {
		return api.Book{Buys: own, Sells: other}
	}
	return api.Book{Buys: other, Sells: own}
}

func levels(b api.Book, s int) []api.Level {
	if s == api.Buy {
		return b.Buys
	}
	return b.Sells
}

func eachSide(do func(s int)) {
	do(api.Buy)
	do(api.Sell)
}

// traded is a Trade of who comes anew from a side, at the price that stands so many behind the best one of the other side.
func traded(s, by int, maker api.Rest, qty int) api.Trade {
	t := api.Trade{Maker: maker.Id, Taker: mover, From: maker.Who, To: moverWho, Price: behind(3-s, by), Qty: qty}
	if s == api.Sell {
		t.From, t.To = t.To, t.From
	}
	return t
}

// copiedLevels are copied deeply.
func copiedLevels(l []api.Level) []api.Level {
	l = slices.Clone(l)
	for i := range l {
		l[i].Rests = slices.Clone(l[i].Rests)
	}
	return l
}

func copied(b api.Book) api.Book {
	return api.Book{Buys: copiedLevels(b.Buys), Sells: copiedLevels(b.Sells)}
}

func sameLevels(a, b []api.Level) bool {
	return slices.EqualFunc(a, b, func(a, b api.Level) bool {
		return a.Price == b.Price && slices.Equal(a.Rests, b.Rests)
	})
}

func same(a, b api.Book) bool { return sameLevels(a.Buys, b.Buys) && sameLevels(a.Sells, b.Sells) }

// answer of Do.
type answer struct {
	book   api.Book
	trades []api.Trade
	gone   int
	err    api.Errno
}

func did(b api.Book, id, price, qty int) answer {
	left, trades, gone, err := swap.Do(b, id, price, qty)
	return answer{left, trades, gone, plain.Told(err)}
}

func equal(a, b answer) bool {
	return same(a.book, b.book) && slices.Equal(a.trades, b.trades) && a.gone == b.gone && a.err == b.err
}

// wantDo of the order that moves.
func wantDo(t *testing.T, b api.Book, price, qty int, want answer) {
	t.Helper()
	if got := did(b, mover, price, qty); !equal(got, want) {
		t.Errorf("Do(%v, %d, %d): got %v, want %v", b, price, qty, got, want)
	}
}

func wantKeeps(t *testing.T, b api.Book, id, price, qty int, want bool) {
	t.Helper()
	if got, err := swap.Keeps(b, id, price, qty); got != want || err != nil {
		t.Errorf("Keeps(%v, %d, %d, %d): got %v %v, want %v", b, id, price, qty, got, err, want)
	}
}

func wantDoError(t *testing.T, b api.Book, id, price, qty int, want api.Errno) {
	t.Helper()
	if got := did(b, id, price, qty); !equal(got, answer{err: want}) {
		t.Errorf("Do(%v, %d, %d, %d): got %v, want %v", b, id, price, qty, got, want)
	}
}

func wantKeepsError(t *testing.T, b api.Book, id, price, qty int, want api.Errno) {
	t.Helper()
	if got, err := swap.Keeps(b, id, price, qty); got || plain.Told(err) != want {
		t.Errorf("Keeps(%v, %d, %d, %d): got %v %v, want %v", b, id, price, qty, got, err, want)
	}
}

// wantBoth tell the same error.
func wantBoth(t *testing.T, b api.Book, id, price, qty int, want api.Errno) {
	t.Helper()
	wantDoError(t, b, id, price, qty, want)
	wantKeepsError(t, b, id, price, qty, want)
}
