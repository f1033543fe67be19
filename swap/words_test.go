package swap_test

import (
	"slices"
	"testing"

	"pitfloor/api"
	"pitfloor/book"
	"pitfloor/kinds"
	"pitfloor/plain"
)

// TestEverywhere holds Do and Keeps against the promise's words, of all small books, and each that rests there.
func TestEverywhere(t *testing.T) {
	eachSide(func(s int) {
		eachSmall(s, func(b api.Book) {
			for _, level := range levels(b, s) {
				for _, r := range level.Rests {
					for by := -6; by <= 3; by++ {
						for qty := 1; qty <= 6; qty++ {
							wantSpoken(t, b, r.Id, behind(s, by), qty)
						}
					}
				}
			}
		})
	})
}

func wantSpoken(t *testing.T, b api.Book, id, price, qty int) {
	t.Helper()
	want, keeps := spoken(copied(b), id, price, qty)
	got := did(b, id, price, qty)
	if !equal(got, want) {
		t.Errorf("Do(%v, %d, %d, %d): got %v, want %v", b, id, price, qty, got, want)
	}
	wantKeeps(t, b, id, price, qty, keeps)
	wantAll(t, b, id, qty, got)
}

// wantAll: what comes is a book, in which all of the new Qty that is not traded rests, and nothing of others is lost.
func wantAll(t *testing.T, b api.Book, id, qty int, a answer) {
	t.Helper()
	sum := 0
	for _, v := range a.trades {
		sum += v.Qty
	}
	rests := of(a.book, func(r api.Rest) bool { return r.Id == id })
	others := func(b api.Book) int { return of(b, func(r api.Rest) bool { return r.Id != id }) }
	if err := book.Check(a.book); err != nil || a.gone != 0 || sum+rests != qty || others(a.book)+sum != others(b) {
		t.Errorf("%v, %d, %d: %d traded, %d gone, %d at rest, %v %v", b, id, qty, sum, a.gone, rests, a.book, err)
	}
}

// of those who are so all that rests, shown and hidden.
func of(b api.Book, so func(r api.Rest) bool) int {
	n := 0
	for _, level := range slices.Concat(b.Buys, b.Sells) {
		for _, r := range level.Rests {
			if so(r) {
				n += r.Qty + r.Hidden
			}
		}
	}
	return n
}

// spoken is X1's Do and Keeps of what rests, in memory that may be written into.
func spoken(b api.Book, id, price, qty int) (answer, bool) {
	var o api.Order
	eachSide(func(s int) {
		for _, level := range levels(b, s) {
			for i := range level.Rests {
				r := &level.Rests[i]
				if r.Id != id {
					continue
				}
				if level.Price == price && r.Qty+r.Hidden >= qty {
					melt(r, qty)
					return
				}
				o = api.Order{Id: id, Who: r.Who, Side: s, Kind: api.Limit, Price: price, Qty: qty, Show: r.Show}
			}
		}
	})
	if o.Id == 0 {
		return answer{book: b}, true
	}
	for o.Show > qty {
		o.Show--
	}
	left, trades, gone, err := kinds.Do(without(b, id), o)
	return answer{left, trades, gone, plain.Told(err)}, false
}

// melt a Rest piece by piece till so much is left in all.
func melt(r *api.Rest, qty int) {
	for r.Qty+r.Hidden > qty {
		if r.Hidden > 0 {
			r.Hidden--
		} else {
			r.Qty--
		}
	}
}

// without the Rest of an Id.
func without(b api.Book, id int) api.Book {
	for _, l := range []*[]api.Level{&b.Buys, &b.Sells} {
		for i := range *l {
			rests := &(*l)[i].Rests
			*rests = slices.DeleteFunc(*rests, func(r api.Rest) bool { return r.Id == id })
		}
		*l = slices.DeleteFunc(*l, func(level api.Level) bool { return len(level.Rests) == 0 })
	}
	return b
}

// eachSmall goes over books of up to two Levels on a side, of up to two small Rests each, and what they may meet.
func eachSmall(s int, do func(b api.Book)) {
	others := [][]api.Level{nil, stairs(3-s, queue(open(31, 1), rest(32, 4, 1, 2, 1)), queue(open(33, 1)))}
	for _, first := range smallQueues(1) {
		for _, second := range smallQueues(11) {
			for _, other := range others {
				do(sides(s, stairs(s, first, second), other))
			}
		}
	}
}

// smallQueues of none, one or two small Rests, with Ids from one on.
func smallQueues(id int) [][]api.Rest {
	l := [][]api.Rest{nil}
	for _, a := range smallRests(id) {
		l = append(l, queue(a))
		for _, b := range smallRests(id + 1) {
			l = append(l, queue(a, b))
		}
	}
	return l
}

func smallRests(id int) []api.Rest {
	who := id%8 + 1
	return queue(rest(id, who, 3, 0, 0), rest(id, who, 1, 3, 2), rest(id, who, 2, 0, 5))
}
