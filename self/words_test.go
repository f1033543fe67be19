package self_test

import (
	"slices"
	"testing"

	"pitfloor/api"
	"pitfloor/book"
	"pitfloor/kinds"
	"pitfloor/plain"
)

// TestEverywhere holds Do against the promise's words, of all small books, one piece at a time.
func TestEverywhere(t *testing.T) {
	eachSide(func(s int) {
		eachFacing(s, func(b api.Book) {
			for _, by := range []int{-1, 0, 3} {
				for _, qty := range []int{1, 3, 5, 9} {
					eachKind(comes(s, by, qty), func(o api.Order) {
						eachMode(func(mode int) { wantSpoken(t, b, o, mode) })
					})
					wantSpoken(t, b, withShow(comes(s, by, qty), 1), api.DropMaker)
					wantSpoken(t, b, withShow(comes(s, by, qty), qty), api.DropMaker)
				}
			}
		})
	})
}

// TestAllowIsChapterSeven: with Allow all is as by chapter 7's Do.
func TestAllowIsChapterSeven(t *testing.T) {
	eachSide(func(s int) {
		eachFacing(s, func(b api.Book) {
			for _, by := range []int{-1, 0, 3} {
				eachKind(comes(s, by, 5), func(o api.Order) {
					left, trades, gone, err := kinds.Do(b, o)
					wantDo(t, b, o, api.Allow, answer{book: left, trades: trades, gone: gone, err: plain.Told(err)})
				})
			}
		})
	})
}

func wantSpoken(t *testing.T, b api.Book, o api.Order, mode int) {
	t.Helper()
	got := did(b, o, mode)
	if want := spoken(b, o, mode); !equal(got, want) {
		t.Errorf("Do(%v, %v, %d): got %v, want %v", b, o, mode, got, want)
	}
	if got.err == api.OK {
		wantAll(t, b, o, got)
	}
}

// wantAll: all of the order, and of what rested, is somewhere; nobody trades with oneself; and what comes is a book.
func wantAll(t *testing.T, b api.Book, o api.Order, a answer) {
	t.Helper()
	sum := 0
	for _, v := range a.trades {
		sum += v.Qty
		if v.From == v.To {
			t.Errorf("Do(%v, %v): trader %d trades with oneself", b, o, v.From)
		}
	}
	dropped := 0
	for _, id := range a.ids {
		dropped += at(b, id)
		if at(a.book, id) > 0 || id == o.Id {
			t.Errorf("Do(%v, %v): order %d is gone, but rests", b, o, id)
		}
	}
	rests := at(a.book, o.Id)
	if err := book.Check(a.book); err != nil || sum+a.gone+rests != o.Qty || total(a.book)-rests+sum+dropped != total(b) {
		t.Errorf("Do(%v, %v): %d traded, %d gone, %d at rest, %d dropped, %v %v", b, o, sum, a.gone, rests, dropped, a.book, err)
	}
}

// at tells how much of an Id rests.
func at(b api.Book, id int) int {
	_, _, r, err := book.Find(b, id)
	if err != nil {
		return 0
	}
	return r.Qty + r.Hidden
}

// spoken is S1's Do of books that have room, in another mode than Allow.
func spoken(b api.Book, o api.Order, mode int) answer {
	if l := levels(b, 3-o.Side); o.Kind == api.Post && len(l) > 0 && reaches(o, l[0].Price) {
		return answer{err: api.ErrCross}
	}
	a, left := spokenMeet(copied(b), o, mode)
	if o.Kind == api.Whole && left+a.gone > 0 {
		return answer{err: api.ErrPoor}
	}
	if o.Kind != api.Limit && o.Kind != api.Post {
		a.gone += left
		return a
	}
	if left > 0 {
		a.book = joined(a.book, o, left)
		hide(a.book, o)
	}
	return a
}

// hide what an order that rests first on its side does not show.
func hide(b api.Book, o api.Order) {
	r := &levels(b, o.Side)[0].Rests[0]
	r.Show = o.Show
	for o.Show > 0 && r.Qty > o.Show {
		r.Qty--
		r.Hidden++
	}
}

// spokenMeet takes one piece of the order after the other; where a Fill begins it looks at whom it would take of.
func spokenMeet(b api.Book, o api.Order, mode int) (a answer, left int) {
	a.book = b
	s, begins := 3-o.Side, true
	for left = o.Qty; left > 0; {
		l := levels(a.book, s)
		if len(l) == 0 || !reaches(o, l[0].Price) {
			break
		}
		first := l[0].Rests[0]
		if first.Who == o.Who {
			if mode == api.DropMaker || mode == api.DropBoth {
				a.ids = append(a.ids, first.Id)
				l[0].Rests[0].Hidden = 0
				a.book = with(a.book, s, without(l))
			}
			if mode == api.DropTaker || mode == api.DropBoth {
				a.gone, left = left, 0
			}
			continue
		}
		if begins {
			a.trades = append(a.trades, traded(o.Side, 0, first, 0))
			a.trades[len(a.trades)-1].Price = l[0].Price
		}
		a.trades[len(a.trades)-1].Qty++
		l[0].Rests[0].Qty--
		left--
		begins = first.Qty == 1
		if begins {
			a.book = with(a.book, s, without(l))
		}
	}
	return a, left
}

func reaches(o api.Order, price int) bool {
	switch {
	case o.Kind == api.Market:
		return true
	case o.Side == api.Buy:
		return price <= o.Price
	}
	return price >= o.Price
}

// without what the first Rest shows; what it hides comes behind the others.
func without(l []api.Level) []api.Level {
	first := l[0].Rests[0]
	l[0].Rests = l[0].Rests[1:]
	for first.Qty = 0; first.Qty < first.Show && first.Hidden > 0; first.Hidden-- {
		first.Qty++
	}
	if first.Qty > 0 {
		l[0].Rests = append(l[0].Rests, first)
	}
	return slices.DeleteFunc(l, func(level api.Level) bool { return len(level.Rests) == 0 })
}

// total is all that rests, shown and hidden.
func total(b api.Book) int {
	n := 0
	eachSide(func(s int) {
		for _, level := range levels(b, s) {
			for _, r := range level.Rests {
				n += r.Qty + r.Hidden
			}
		}
	})
	return n
}

// eachFacing goes over books of up to two Levels, of up to three and one small Rests.
func eachFacing(s int, do func(b api.Book)) {
	for _, first := range smallQueues(1, 3) {
		for _, second := range smallQueues(11, 1) {
			do(facing(s, first, second))
		}
	}
}

// smallQueues of up to so many small Rests, with Ids from one on.
func smallQueues(id, most int) [][]api.Rest {
	l := [][]api.Rest{nil}
	if most == 0 {
		return l
	}
	for _, r := range smallRests(id) {
		for _, behind := range smallQueues(id+1, most-1) {
			l = append(l, append(queue(r), behind...))
		}
	}
	return l
}

func smallRests(id int) []api.Rest {
	return queue(open(id, 2), rest(id, id%8+1, 1, 3, 2), own(id, 2), rest(id, comerWho, 1, 3, 2))
}
