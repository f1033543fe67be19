package meet_test

import (
	"testing"

	"pitfloor/api"
	"pitfloor/book"
	"pitfloor/meet"
)

// TestEverywhere holds Do against the promise's words, of all small books, one piece at a time.
func TestEverywhere(t *testing.T) {
	eachSide(func(s int) {
		eachFacing(s, func(b api.Book) {
			for by := -1; by <= 3; by++ {
				for qty := 1; qty <= 12; qty++ {
					o := comes(s, by, qty)
					left, trades, rest := spoken(copied(b), o)
					wantMeet(t, b, o, left, trades, rest)
					wantAll(t, b, o)
				}
			}
			o := ofKind(comes(s, 0, 7), api.Market)
			left, trades, rest := spoken(copied(b), o)
			wantMeet(t, b, o, left, trades, rest)
		})
	})
}

// spoken is M1's Do, one piece of the order after the other.
func spoken(b api.Book, o api.Order) (api.Book, []api.Trade, int) {
	var trades []api.Trade
	s, left, begins := 3-o.Side, o.Qty, true
	for ; left > 0; left-- {
		l := levels(b, s)
		if len(l) == 0 || !reaches(o, l[0].Price) {
			break
		}
		first := l[0].Rests[0]
		if begins {
			trades = append(trades, traded(o.Side, 0, first, 0))
			trades[len(trades)-1].Price = l[0].Price
		}
		trades[len(trades)-1].Qty++
		l[0].Rests[0].Qty--
		begins = first.Qty == 1
		if begins {
			b = with(b, s, without(l))
		}
	}
	return b, trades, left
}

func reaches(o api.Order, price int) bool {
	switch {
	case o.Kind == api.Market:
		return true
	case o.Side == api.Buy:
		return price <= o.Price
	}
	return price >= o.Price
}

// without the first Rest of which nothing is shown any more; what it hides comes behind the others.
func without(l []api.Level) []api.Level {
	first := l[0].Rests[0]
	l[0].Rests = l[0].Rests[1:]
	for first.Qty < first.Show && first.Hidden > 0 {
		first.Qty++
		first.Hidden--
	}
	if first.Qty > 0 {
		l[0].Rests = append(l[0].Rests, first)
	}
	if len(l[0].Rests) == 0 {
		return l[1:]
	}
	return l
}

// wantAll: all of the order is traded or left, nothing of the book is lost, and what is left is a book.
func wantAll(t *testing.T, b api.Book, o api.Order) {
	t.Helper()
	got, trades, left, _ := meet.Do(b, o)
	sum := 0
	for _, v := range trades {
		sum += v.Qty
	}
	if err := book.Check(got); err != nil || sum+left != o.Qty || total(got)+sum != total(b) {
		t.Errorf("Do(%v, %v): %d traded, %d left, %v %v", b, o, sum, left, got, err)
	}
}

// total is all that rests, shown and hidden.
func total(b api.Book) int {
	n := 0
	eachSide(func(s int) {
		for _, level := range levels(b, s) {
			for _, r := range level.Rests {
				n += r.Qty + r.Hidden
			}
		}
	})
	return n
}

// eachFacing goes over books of up to two Levels, of up to two small Rests each.
func eachFacing(s int, do func(b api.Book)) {
	firsts, seconds := smallQueues(1), smallQueues(11)
	for _, first := range firsts {
		for _, second := range seconds {
			do(facing(s, first, second))
		}
	}
}

// smallQueues of none, one or two small Rests, with Ids from one on.
func smallQueues(id int) [][]api.Rest {
	l := [][]api.Rest{nil}
	for _, a := range smallRests(id) {
		l = append(l, queue(a))
		for _, b := range smallRests(id + 1) {
			l = append(l, queue(a, b))
		}
	}
	return l
}

func smallRests(id int) []api.Rest {
	return queue(rest(id, id%8+1, 2, 0, 0), rest(id, id%8+1, 1, 3, 2), rest(id, id%8+1, 1, 2, 1))
}
