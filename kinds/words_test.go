package kinds_test

import (
	"slices"
	"testing"

	"pitfloor/api"
	"pitfloor/book"
	"pitfloor/kinds"
	"pitfloor/plain"
)

// answer of Do.
type answer struct {
	book   api.Book
	trades []api.Trade
	gone   int
	err    api.Errno
}

func did(b api.Book, o api.Order) answer {
	left, trades, gone, err := kinds.Do(b, o)
	return answer{left, trades, gone, plain.Told(err)}
}

func equal(a, b answer) bool {
	return same(a.book, b.book) && slices.Equal(a.trades, b.trades) && a.gone == b.gone && a.err == b.err
}

// TestEverywhere holds Do against the promise's words, of all small books and all kinds.
func TestEverywhere(t *testing.T) {
	eachSide(func(s int) {
		eachFacing(s, func(b api.Book) {
			for by := -1; by <= 3; by++ {
				for _, qty := range []int{1, 2, 3, 5, 8, 12} {
					eachKind(comes(s, by, qty), func(o api.Order) { wantSpoken(t, b, o) })
					wantSpoken(t, b, withShow(comes(s, by, qty), 1))
					wantSpoken(t, b, withShow(comes(s, by, qty), (qty+1)/2))
				}
			}
		})
	})
}

func wantSpoken(t *testing.T, b api.Book, o api.Order) {
	t.Helper()
	got, want := did(b, o), spoken(b, o)
	if !equal(got, want) {
		t.Errorf("Do(%v, %v): got %v, want %v", b, o, got, want)
	}
	if got.err == api.OK {
		wantAll(t, b, o, got)
	}
}

// wantAll: all of the order is traded, gone or at rest, nothing of the book is lost, and what comes is a book.
func wantAll(t *testing.T, b api.Book, o api.Order, a answer) {
	t.Helper()
	sum := 0
	for _, v := range a.trades {
		sum += v.Qty
	}
	rests := 0
	if _, _, r, err := book.Find(a.book, o.Id); err == nil {
		rests = r.Qty + r.Hidden
	}
	if err := book.Check(a.book); err != nil || sum+a.gone+rests != o.Qty || total(a.book)-rests+sum != total(b) {
		t.Errorf("Do(%v, %v): %d traded, %d gone, %d at rest, %v %v", b, o, sum, a.gone, rests, a.book, err)
	}
}

// spoken is K1's Do of books that have room.
func spoken(b api.Book, o api.Order) answer {
	met, trades, left := spokenMeet(copied(b), o)
	switch o.Kind {
	case api.Whole:
		if left > 0 {
			return answer{err: api.ErrPoor}
		}
	case api.Post:
		if len(trades) > 0 {
			return answer{err: api.ErrCross}
		}
	case api.Market, api.Now:
		return answer{book: met, trades: trades, gone: left}
	}
	if left > 0 {
		met = with(met, o.Side, stepped(levels(met, o.Side), o, spokenRest(o, left)))
	}
	return answer{book: met, trades: trades}
}

// stepped gives the Levels of a side with one Rest more, behind all of a price that is as good or better.
func stepped(l []api.Level, o api.Order, r api.Rest) []api.Level {
	for i := range l {
		if l[i].Price == o.Price {
			l[i].Rests = append(l[i].Rests, r)
			return l
		}
	}
	l = append(l, api.Level{Price: o.Price, Rests: queue(r)})
	slices.SortFunc(l, func(a, b api.Level) int {
		if o.Side == api.Buy {
			return b.Price - a.Price
		}
		return a.Price - b.Price
	})
	return l
}

// spokenMeet is chapter 6's Do, one piece of the order after the other.
func spokenMeet(b api.Book, o api.Order) (api.Book, []api.Trade, int) {
	var trades []api.Trade
	s, left, begins := 3-o.Side, o.Qty, true
	for ; left > 0; left-- {
		l := levels(b, s)
		if len(l) == 0 || !reaches(o, l[0].Price) {
			break
		}
		first := l[0].Rests[0]
		if begins {
			trades = append(trades, traded(o.Side, 0, first, 0))
			trades[len(trades)-1].Price = l[0].Price
		}
		trades[len(trades)-1].Qty++
		l[0].Rests[0].Qty--
		begins = first.Qty == 1
		if begins {
			b = with(b, s, without(l))
		}
	}
	return b, trades, left
}

func reaches(o api.Order, price int) bool {
	switch {
	case o.Kind == api.Market:
		return true
	case o.Side == api.Buy:
		return price <= o.Price
	}
	return price >= o.Price
}

// without the first Rest of which nothing is shown any more; what it hides comes behind the others.
func without(l []api.Level) []api.Level {
	first := l[0].Rests[0]
	l[0].Rests = l[0].Rests[1:]
	for first.Qty < first.Show && first.Hidden > 0 {
		first.Qty++
		first.Hidden--
	}
	if first.Qty > 0 {
		l[0].Rests = append(l[0].Rests, first)
	}
	if len(l[0].Rests) == 0 {
		return l[1:]
	}
	return l
}

// total is all that rests, shown and hidden.
func total(b api.Book) int {
	n := 0
	eachSide(func(s int) {
		for _, level := range levels(b, s) {
			for _, r := range level.Rests {
				n += r.Qty + r.Hidden
			}
		}
	})
	return n
}

// eachFacing goes over books of up to two Levels, of up to two small Rests each.
func eachFacing(s int, do func(b api.Book)) {
	firsts, seconds := smallQueues(1), smallQueues(11)
	for _, first := range firsts {
		for _, second := range seconds {
			do(facing(s, first, second))
		}
	}
}

// smallQueues of none, one or two small Rests, with Ids from one on.
func smallQueues(id int) [][]api.Rest {
	l := [][]api.Rest{nil}
	for _, a := range smallRests(id) {
		l = append(l, queue(a))
		for _, b := range smallRests(id + 1) {
			l = append(l, queue(a, b))
		}
	}
	return l
}

func smallRests(id int) []api.Rest {
	return queue(rest(id, id%8+1, 2, 0, 0), rest(id, id%8+1, 1, 3, 2), rest(id, id%8+1, 1, 2, 1))
}
