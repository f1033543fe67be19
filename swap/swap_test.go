package swap_test

import (
	"fmt"
	"testing"

	"pitfloor/api"
	"pitfloor/swap"
)

// X1: what Do answers where nothing is wrong.

// among puts a Rest first, between, last, and alone at its Level, at the first and at a later one.
func among(s int, do func(put func(r ...api.Rest) api.Book)) {
	other := stairs(3-s, row(31, 2), row(33, 1))
	x, y := open(1, 5), rest(2, 3, 2, 7, 4)
	for _, seats := range []func(r []api.Rest) []api.Rest{
		func(r []api.Rest) []api.Rest { return append(r, x, y) },
		func(r []api.Rest) []api.Rest { return append(append(queue(x), r...), y) },
		func(r []api.Rest) []api.Rest { return append(queue(x, y), r...) },
		func(r []api.Rest) []api.Rest { return r },
	} {
		do(func(r ...api.Rest) api.Book { return sides(s, stairs(s, seats(r), row(11, 2)), other) })
	}
}

func TestLessAtTheSamePriceKeepsItsPlace(t *testing.T) {
	eachSide(func(s int) {
		among(s, func(put func(r ...api.Rest) api.Book) {
			keeps := func(was api.Rest, qty int, want api.Rest) {
				t.Helper()
				wantDo(t, put(was), behind(s, 0), qty, answer{book: put(want)})
				wantKeeps(t, put(was), mover, behind(s, 0), qty, true)
			}
			keeps(moves(9, 0, 0), 8, moves(8, 0, 0))
			keeps(moves(9, 0, 0), 1, moves(1, 0, 0))
			// Just so much as it had.
			keeps(moves(9, 0, 0), 9, moves(9, 0, 0))
			keeps(moves(1, 0, 0), 1, moves(1, 0, 0))
			// What is hidden is less first, Show stays as it was.
			keeps(moves(4, 6, 5), 10, moves(4, 6, 5))
			keeps(moves(4, 6, 5), 9, moves(4, 5, 5))
			keeps(moves(4, 6, 5), 5, moves(4, 1, 5))
			keeps(moves(4, 6, 5), 4, moves(4, 0, 5))
			keeps(moves(4, 6, 5), 3, moves(3, 0, 5))
			keeps(moves(4, 6, 5), 1, moves(1, 0, 5))
			keeps(moves(1, 9999, 1), 10000, moves(1, 9999, 1))
			keeps(moves(1, 9999, 1), 1, moves(1, 0, 1))
		})
	})
}

// Shown and hidden may be more together than an order may have: what it had counts, not what may be.
func TestLessOfTheGreatestRest(t *testing.T) {
	eachSide(func(s int) {
		was := sides(s, stairs(s, queue(moves(10000, 10000, 10000), open(1, 2))), nil)
		for _, c := range []struct{ qty, shown int }{{10000, 10000}, {9999, 9999}, {1, 1}} {
			want := sides(s, stairs(s, queue(moves(c.shown, 0, 10000), open(1, 2))), nil)
			wantDo(t, was, behind(s, 0), c.qty, answer{book: want})
		}
		was = sides(s, stairs(s, queue(moves(4000, 10000, 10000), open(1, 2))), nil)
		want := sides(s, stairs(s, queue(moves(4000, 6000, 10000), open(1, 2))), nil)
		wantDo(t, was, behind(s, 0), 10000, answer{book: want})
	})
}

func TestMoreAtTheSamePriceGoesBehind(t *testing.T) {
	x, y := open(1, 5), rest(2, 3, 2, 7, 4)
	eachSide(func(s int) {
		other := stairs(3-s, row(31, 2))
		among(s, func(put func(r ...api.Rest) api.Book) {
			own := put(moves(9, 0, 0))
			wantKeeps(t, own, mover, behind(s, 0), 10, false)
			wantKeeps(t, own, mover, behind(s, 0), 10000, false)
			wantKeeps(t, put(moves(4, 6, 5)), mover, behind(s, 0), 11, false)
		})
		goes := func(was api.Rest, qty int, want api.Rest) {
			t.Helper()
			b := sides(s, stairs(s, queue(was, x, y)), other)
			wantDo(t, b, behind(s, 0), qty, answer{book: sides(s, stairs(s, queue(x, y, want)), other)})
			alone := sides(s, stairs(s, nil, queue(was)), other)
			wantDo(t, alone, behind(s, 2), qty, answer{book: sides(s, stairs(s, nil, queue(want)), other)})
		}
		goes(moves(9, 0, 0), 10, moves(10, 0, 0))
		goes(moves(9, 0, 0), 10000, moves(10000, 0, 0))
		// As much is shown again as its Show says.
		goes(moves(2, 6, 5), 9, moves(5, 4, 5))
		goes(moves(2, 0, 5), 3, moves(3, 0, 3))
		goes(moves(2, 0, 5), 5, moves(5, 0, 5))
		goes(moves(2, 0, 5), 6, moves(5, 1, 5))
	})
}

// At another price it comes anew, be its Qty less, the same, or more.
func TestAnotherPriceGoesElsewhere(t *testing.T) {
	x, y := open(1, 5), rest(2, 3, 2, 7, 4)
	eachSide(func(s int) {
		other := stairs(3-s, row(31, 2))
		for _, qty := range []int{1, 8, 9, 10, 10000} {
			was, now := moves(9, 0, 0), moves(qty, 0, 0)
			goes := func(by int, want ...api.Level) {
				t.Helper()
				b := sides(s, stairs(s, queue(x, was, y), row(11, 2)), other)
				wantDo(t, b, behind(s, by), qty, answer{book: sides(s, want, other)})
				wantKeeps(t, b, mover, behind(s, by), qty, false)
			}
			goes(2, at(s, 0, x, y), at(s, 2, append(row(11, 2), now)...))
			goes(1, at(s, 0, x, y), at(s, 1, now), at(s, 2, row(11, 2)...))
			goes(3, at(s, 0, x, y), at(s, 2, row(11, 2)...), at(s, 3, now))
			goes(-1, at(s, -1, now), at(s, 0, x, y), at(s, 2, row(11, 2)...))
			goes(-3, at(s, -3, now), at(s, 0, x, y), at(s, 2, row(11, 2)...))
		}
	})
}

// A Level from which the only one goes is none any more.
func TestItsLevelGoesWithIt(t *testing.T) {
	eachSide(func(s int) {
		b := sides(s, stairs(s, row(1, 1), queue(moves(9, 0, 0)), row(2, 1)), nil)
		wantDo(t, b, behind(s, 0), 9, answer{book: sides(s, stairs(s, append(row(1, 1), moves(9, 0, 0)), nil, row(2, 1)), nil)})
		wantDo(t, b, behind(s, 4), 9, answer{book: sides(s, stairs(s, row(1, 1), nil, append(row(2, 1), moves(9, 0, 0))), nil)})
		wantDo(t, b, behind(s, 3), 9, answer{book: sides(s, []api.Level{at(s, 0, row(1, 1)...), at(s, 3, moves(9, 0, 0)), at(s, 4, row(2, 1)...)}, nil)})
	})
}

func TestShowGoesWithItAsMuchAsQtyAtMost(t *testing.T) {
	eachSide(func(s int) {
		for _, c := range []struct{ was, now api.Rest }{
			{moves(4, 6, 4), moves(4, 6, 4)},
			// What was shown in part is shown whole again.
			{moves(1, 9, 4), moves(4, 6, 4)},
			{moves(1, 0, 4), moves(4, 6, 4)},
			{moves(4, 9000, 4), moves(4, 0, 4)},
			{moves(4, 9000, 4), moves(3, 0, 3)},
			{moves(4, 9000, 4), moves(1, 0, 1)},
			{moves(4, 9000, 4), moves(4, 1, 4)},
			{moves(4, 0, 10000), moves(7, 0, 7)},
			{moves(1, 0, 1), moves(1, 9999, 1)},
			{moves(10000, 10000, 10000), moves(10000, 0, 10000)},
			{moves(4, 0, 0), moves(7, 0, 0)},
		} {
			b := sides(s, stairs(s, row(1, 2), queue(c.was)), stairs(3-s, row(31, 2)))
			want := sides(s, stairs(s, append(row(1, 2), c.now)), stairs(3-s, row(31, 2)))
			wantDo(t, b, behind(s, 0), c.now.Qty+c.now.Hidden, answer{book: want})
		}
	})
}

// At a price that others meet it trades, and what is left of it rests there.
func TestItTradesWithWhomItMeets(t *testing.T) {
	x, y, ice := open(31, 2), open(32, 3), rest(33, 4, 1, 3, 2)
	eachSide(func(s int) {
		own := func(l ...api.Level) []api.Level { return append(l, at(s, 0, open(1, 6))) }
		b := sides(s, stairs(s, queue(open(1, 6), moves(4, 6, 5))), stairs(3-s, queue(x, y), queue(ice)))
		goes := func(by, qty int, want api.Book, trades ...api.Trade) {
			t.Helper()
			wantDo(t, b, behind(3-s, by), qty, answer{book: want, trades: trades})
			wantKeeps(t, b, mover, behind(3-s, by), qty, false)
		}
		goes(0, 1, sides(s, own(), stairs(3-s, queue(open(31, 1), y), queue(ice))), traded(s, 0, x, 1))
		goes(0, 2, sides(s, own(), stairs(3-s, queue(y), queue(ice))), traded(s, 0, x, 2))
		first := []api.Trade{traded(s, 0, x, 2), traded(s, 0, y, 3)}
		goes(0, 5, sides(s, own(), stairs(3-s, nil, queue(ice))), first...)
		goes(1, 12, sides(s, own(at(s, -5, moves(5, 2, 5))), stairs(3-s, nil, queue(ice))), first...)
		// What of it traded counts against Qty, and its Show is held against Qty, not against what is left.
		goes(1, 9, sides(s, own(at(s, -5, moves(4, 0, 5))), stairs(3-s, nil, queue(ice))), first...)
		all := append(first, traded(s, 2, ice, 1), traded(s, 2, ice, 2), traded(s, 2, ice, 1))
		goes(2, 9, sides(s, own(), nil), all...)
		goes(2, 10, sides(s, own(at(s, -6, moves(1, 0, 5))), nil), all...)
		goes(4000, 10000, sides(s, own(at(s, -4004, moves(5, 9986, 5))), nil), all...)
		goes(1, 7, sides(s, own(at(s, -5, moves(2, 0, 5))), stairs(3-s, nil, queue(ice))), first...)
		goes(0, 3, sides(s, own(), stairs(3-s, queue(open(32, 2)), queue(ice))), first[0], traded(s, 0, y, 1))
	})
}

// It comes as Limit by chapter 7: who trades with oneself is not asked.
func TestItMayTradeWithItsOwnTrader(t *testing.T) {
	mine := rest(31, moverWho, 7, 0, 0)
	eachSide(func(s int) {
		b := sides(s, stairs(s, queue(moves(4, 0, 0))), stairs(3-s, queue(mine)))
		want := answer{book: sides(s, nil, stairs(3-s, queue(rest(31, moverWho, 3, 0, 0)))), trades: []api.Trade{traded(s, 0, mine, 4)}}
		wantDo(t, b, behind(3-s, 0), 4, want)
	})
}

// Who goes makes room: a book that is full stays so.
func TestOfAFullBook(t *testing.T) {
	eachSide(func(s int) {
		b := sides(s, stairs(s, append(queue(moves(4, 0, 0)), row(1, 28)...), row(29, 10)), stairs(3-s, row(39, 21)))
		left := func(l ...api.Level) api.Book {
			return sides(s, append(l, at(s, 2, row(29, 10)...)), stairs(3-s, row(39, 21)))
		}
		wantDo(t, b, behind(s, 0), 3, answer{book: left(at(s, 0, append(queue(moves(3, 0, 0)), row(1, 28)...)...))})
		wantDo(t, b, behind(s, 0), 5, answer{book: left(at(s, 0, append(row(1, 28), moves(5, 0, 0))...))})
		wantDo(t, b, behind(s, -1), 4, answer{book: left(at(s, -1, moves(4, 0, 0)), at(s, 0, row(1, 28)...))})
		alone := sides(s, stairs(s, append(queue(moves(4, 0, 0)), row(1, 59)...)), nil)
		wantDo(t, alone, behind(3-s, 0), 7, answer{book: sides(s, []api.Level{at(s, -4, moves(7, 0, 0)), at(s, 0, row(1, 59)...)}, nil)})
	})
}

// Any one of a book may have another price, wherever it stands; the others stay.
func TestEachOneOfABook(t *testing.T) {
	b := api.Book{Buys: stairs(api.Buy, row(1, 2), row(3, 3)), Sells: stairs(api.Sell, row(11, 3), row(14, 1))}
	eachSide(func(s int) {
		for i, level := range levels(b, s) {
			for k, r := range level.Rests {
				wantKeeps(t, b, r.Id, level.Price, 1, true)
				wantKeeps(t, b, r.Id, level.Price, 2, false)
				wantKeeps(t, b, r.Id, level.Price+1, 1, false)
				wantKeeps(t, b, r.Id, level.Price-1, 1, false)
				more := copied(b)
				levels(more, s)[i].Rests[k].Qty = 7
				want := copied(more)
				levels(want, s)[i].Rests[k].Qty = 5
				if got := did(more, r.Id, level.Price, 5); !equal(got, answer{book: want}) {
					t.Errorf("order %d of %v: got %v, want %v", r.Id, more, got, want)
				}
			}
		}
	})
}

func TestAtTheEndsOfPrices(t *testing.T) {
	eachSide(func(s int) {
		for _, price := range []int{1, 10000} {
			b := sides(s, []api.Level{{Price: price, Rests: queue(moves(4, 0, 0), open(1, 2))}}, nil)
			far := 10001 - price
			wantDo(t, b, price, 3, answer{book: sides(s, []api.Level{{Price: price, Rests: queue(moves(3, 0, 0), open(1, 2))}}, nil)})
			wantDo(t, b, price, 5, answer{book: sides(s, []api.Level{{Price: price, Rests: queue(open(1, 2), moves(5, 0, 0))}}, nil)})
			want := []api.Level{{Price: price, Rests: queue(open(1, 2))}, {Price: far, Rests: queue(moves(4, 0, 0))}}
			if (s == api.Buy) == (far > price) {
				want[0], want[1] = want[1], want[0]
			}
			wantDo(t, b, far, 4, answer{book: sides(s, want, nil)})
		}
	})
}

// Keeps tells no fault of a qty: it is held against what there was, however much or little it is.
func TestKeepsOfAnyQty(t *testing.T) {
	eachSide(func(s int) {
		b := sides(s, stairs(s, queue(moves(10000, 10000, 10000), open(1, 2))), stairs(3-s, row(31, 1)))
		for _, qty := range []int{-1 << 63, -20001, -1, 0, 1, 10000, 10001, 19999, 20000} {
			wantKeeps(t, b, mover, behind(s, 0), qty, true)
			wantKeeps(t, b, mover, behind(s, 1), qty, false)
		}
		for _, qty := range []int{20001, 1 << 32, 1<<63 - 1} {
			wantKeeps(t, b, mover, behind(s, 0), qty, false)
			wantKeeps(t, b, mover, behind(3-s, 0), qty, false)
		}
	})
}

func ExampleDo() {
	b := api.Book{
		Buys:  []api.Level{{Price: 98, Rests: []api.Rest{{Id: 7, Who: 3, Qty: 5, Hidden: 6, Show: 5}, {Id: 8, Who: 1, Qty: 2}}}},
		Sells: []api.Level{{Price: 101, Rests: []api.Rest{{Id: 9, Who: 2, Qty: 4}}}},
	}
	fmt.Println(swap.Do(b, 7, 98, 8))
	fmt.Println(swap.Do(b, 7, 98, 12))
	fmt.Println(swap.Do(b, 7, 101, 6))
	fmt.Println(swap.Do(b, 6, 101, 6))
	// Output:
	// {[{98 [{7 3 5 3 5} {8 1 2 0 0}]}] [{101 [{9 2 4 0 0}]}]} [] 0 <nil>
	// {[{98 [{8 1 2 0 0} {7 3 5 7 5}]}] [{101 [{9 2 4 0 0}]}]} [] 0 <nil>
	// {[{101 [{7 3 2 0 5}]} {98 [{8 1 2 0 0}]}] []} [{9 7 2 3 101 4}] 0 <nil>
	// {[] []} [] 0 ErrNone
}

func ExampleKeeps() {
	b := api.Book{Buys: []api.Level{{Price: 98, Rests: []api.Rest{{Id: 7, Who: 3, Qty: 5, Hidden: 6, Show: 5}}}}}
	fmt.Println(swap.Keeps(b, 7, 98, 11))
	fmt.Println(swap.Keeps(b, 7, 98, 12))
	fmt.Println(swap.Keeps(b, 7, 97, 11))
	fmt.Println(swap.Keeps(b, 8, 98, 11))
	// Output:
	// true <nil>
	// false <nil>
	// false <nil>
	// false ErrNone
}
