package swap_test

import (
	"math"
	"testing"

	"pitfloor/api"
)

// X1: which errors are told, and which first.

// fault of a book, and what is told of it.
type fault struct {
	of   api.Book
	want api.Errno
}

// badBooks have one thing wrong each, on either side; the order that moves rests in each of them.
func badBooks() (l []fault) {
	eachSide(func(s int) {
		eachSide(func(mine int) {
			first, other := queue(open(1, 2)), queue(open(8000, 2))
			if mine == s {
				first = append(first, moves(4, 6, 5))
			} else {
				other = append(other, moves(4, 6, 5))
			}
			wrong := func(want api.Errno, second api.Level) {
				l = append(l, fault{sides(s, []api.Level{at(s, 0, first...), second}, stairs(3-s, other)), want})
			}
			wrong(api.ErrRange, api.Level{Price: 0, Rests: row(2, 1)})
			wrong(api.ErrRange, api.Level{Price: 10001, Rests: row(2, 1)})
			wrong(api.ErrShape, at(s, 2))
			wrong(api.ErrRange, at(s, 2, rest(10000, 1, 1, 0, 0)))
			wrong(api.ErrRange, at(s, 2, rest(2, 10, 1, 0, 0)))
			wrong(api.ErrRange, at(s, 2, rest(2, 1, 0, 0, 0)))
			wrong(api.ErrRange, at(s, 2, rest(2, 1, 1, -1, 1)))
			wrong(api.ErrShape, at(s, 2, rest(2, 1, 1, 1, 0)))
			wrong(api.ErrShape, at(s, 2, rest(2, 1, 3, 1, 2)))
			wrong(api.ErrFull, at(s, 2, row(2, 61)...))
			wrong(api.ErrFull, at(s, 2, row(2, 60)...))
			wrong(api.ErrClash, at(s, 2, row(1, 1)...))
			wrong(api.ErrClash, at(s, 2, moves(4, 6, 5)))
			wrong(api.ErrClash, at(s, 0, row(2, 1)...))
			wrong(api.ErrClash, at(s, 2, row(8000, 1)...))
			// Each side by itself has no more than may be, but both have.
			wrong(api.ErrFull, at(s, 2, row(2, 58)...))
			crossed := []api.Level{{Price: behind(3-s, 0), Rests: first}}
			l = append(l, fault{sides(s, crossed, stairs(3-s, other)), api.ErrCross})
		})
	})
	return l
}

// Numbers that are no prices, and numbers that are no Qty.
var (
	badPrices = []int{math.MinInt, -1 << 32, -1, 0, 10001, 1 << 32, 1<<32 + 1, math.MaxInt}
	badQtys   = []int{math.MinInt, -1 << 32, -1, 0, 10001, 1 << 32, 1<<32 + 1, math.MaxInt}
)

func TestTheBooksFaultIsToldFirst(t *testing.T) {
	for _, f := range badBooks() {
		for _, id := range []int{mover, 1, 500, 0, -1, 10000} {
			for _, price := range append(badPrices, bid, ask, 1, 10000) {
				for _, qty := range []int{math.MinInt, 0, 1, 10, 11, 10001, math.MaxInt} {
					wantBoth(t, f.of, id, price, qty, f.want)
				}
			}
		}
	}
}

// moved are books in which the order that moves rests, or in which it does not.
func moved(s int, r ...api.Rest) []api.Book {
	full := append(r, row(1, 60)...)[:60]
	return []api.Book{
		sides(s, stairs(s, r), nil),
		sides(s, stairs(s, append(r, row(1, 2)...), row(11, 2)), stairs(3-s, row(31, 2))),
		sides(s, stairs(s, row(1, 2), append(row(11, 2), r...)), stairs(3-s, queue(melting(31, 9000)))),
		sides(s, stairs(s, full), nil),
	}
}

func TestWhatDoesNotRestIsToldNext(t *testing.T) {
	eachSide(func(s int) {
		for _, b := range append(moved(s), api.Book{}, api.Book{Buys: []api.Level{}, Sells: []api.Level{}}) {
			for _, id := range []int{mover, 500, 0, -1, 9999, 10000, math.MinInt, math.MaxInt, 1<<32 + 1} {
				for _, price := range append(badPrices, bid, ask, 1, 10000) {
					for _, qty := range append(badQtys, 1, 2, 10000) {
						wantBoth(t, b, id, price, qty, api.ErrNone)
					}
				}
			}
		}
	})
}

func TestThePriceIsToldThen(t *testing.T) {
	eachSide(func(s int) {
		for _, b := range moved(s, moves(4, 6, 5)) {
			for _, price := range badPrices {
				for _, qty := range append(badQtys, 1, 4, 10, 11, 10000) {
					wantBoth(t, b, mover, price, qty, api.ErrRange)
				}
			}
		}
	})
}

// Of a Qty that may not be Do tells, whether the order would keep its place or not; Keeps does not.
func TestTheQtyIsToldLast(t *testing.T) {
	eachSide(func(s int) {
		for _, r := range queue(moves(4, 0, 0), moves(4, 6, 5), moves(10000, 10000, 10000)) {
			for _, b := range moved(s, r) {
				for _, price := range []int{1, behind(s, 1), behind(s, 0), behind(s, 2), behind(3-s, 0), 10000} {
					for _, qty := range append(badQtys, 10002, 19999, 20000, 20001) {
						wantDoError(t, b, mover, price, qty, api.ErrRange)
					}
				}
			}
		}
	})
}

// Chapter 7's Do may tell of too many Trades: then nothing is done.
func TestSoManyTradesAndNoMore(t *testing.T) {
	eachSide(func(s int) {
		b := sides(s, stairs(s, queue(moves(4, 6, 5))), stairs(3-s, queue(melting(31, 300)), queue(melting(32, 9000))))
		for _, qty := range []int{401, 402, 10000} {
			wantDoError(t, b, mover, behind(3-s, 2), qty, api.ErrFull)
			// Keeps has no such error.
			wantKeeps(t, b, mover, behind(3-s, 2), qty, false)
		}
		got := did(b, mover, behind(3-s, 2), 400)
		want := sides(s, nil, stairs(3-s, nil, queue(melting(32, 8900))))
		if !same(got.book, want) || len(got.trades) != 400 || got.gone != 0 || got.err != api.OK {
			t.Errorf("got %v, %d Trades, %d %v, want %v", got.book, len(got.trades), got.gone, got.err, want)
		}
		got = did(b, mover, behind(3-s, 1), 10000)
		if len(got.trades) != 300 || got.gone != 0 || got.err != api.OK {
			t.Errorf("got %d Trades, %d %v", len(got.trades), got.gone, got.err)
		}
	})
}
