package kinds_test

import (
	"math"
	"testing"

	"pitfloor/api"
	"pitfloor/kinds"
	"pitfloor/plain"
)

// K1: which errors Do tells, and which first.

func wantDoError(t *testing.T, b api.Book, o api.Order, want api.Errno) {
	t.Helper()
	got, trades, gone, err := kinds.Do(b, o)
	if !same(got, api.Book{}) || len(trades) > 0 || gone != 0 || plain.Told(err) != want {
		t.Errorf("Do(%v, %v): got %v, %d Trades, %d %v, want %v", b, o, got, len(trades), gone, err, want)
	}
}

// fault of a book, or of an order, and what is told of it.
type fault[T any] struct {
	of   T
	want api.Errno
}

// badBooks have one thing wrong each, on either side of who comes.
func badBooks() (l []fault[api.Book]) {
	eachSide(func(s int) {
		good := facing(3-s, queue(open(1, 2)), queue(open(2, 3)))
		side := func(second api.Level) api.Book {
			return with(good, s, append(stairs(s, queue(open(1, 2))), second))
		}
		next := behind(s, 2)
		l = append(l,
			fault[api.Book]{side(api.Level{Price: 0, Rests: row(2, 1)}), api.ErrRange},
			fault[api.Book]{side(api.Level{Price: 10001, Rests: row(2, 1)}), api.ErrRange},
			fault[api.Book]{side(api.Level{Price: next}), api.ErrShape},
			fault[api.Book]{side(api.Level{Price: next, Rests: queue(rest(2, 10, 1, 0, 0))}), api.ErrRange},
			fault[api.Book]{side(api.Level{Price: next, Rests: queue(rest(2, 1, 0, 0, 0))}), api.ErrRange},
			fault[api.Book]{side(api.Level{Price: next, Rests: queue(rest(2, 1, 1, 1, 0))}), api.ErrShape},
			fault[api.Book]{side(api.Level{Price: next, Rests: row(2, 61)}), api.ErrFull},
			fault[api.Book]{side(api.Level{Price: next, Rests: row(2, 60)}), api.ErrFull},
			fault[api.Book]{side(api.Level{Price: next, Rests: row(1, 1)}), api.ErrClash},
			fault[api.Book]{side(api.Level{Price: behind(s, 0), Rests: row(2, 1)}), api.ErrClash},
			fault[api.Book]{side(api.Level{Price: next, Rests: row(resting, 1)}), api.ErrClash},
			fault[api.Book]{with(good, s, []api.Level{{Price: behind(3-s, 0), Rests: row(1, 1)}}), api.ErrCross},
			// Each side by itself has no more than may be, but both have.
			fault[api.Book]{with(good, s, stairs(s, row(1, 60))), api.ErrFull},
		)
	})
	return l
}

// badOrders have one thing wrong each, whatever else is so.
func badOrders(s int) (l []fault[api.Order]) {
	wrong := func(want api.Errno, change func(o *api.Order)) {
		o := comes(s, 2, 5)
		change(&o)
		l = append(l, fault[api.Order]{o, want})
	}
	for _, n := range []int{math.MinInt, -1, 0, math.MaxInt} {
		wrong(api.ErrRange, func(o *api.Order) { o.Id = n })
		wrong(api.ErrRange, func(o *api.Order) { o.Who = n })
		wrong(api.ErrRange, func(o *api.Order) { o.Side = n })
		wrong(api.ErrRange, func(o *api.Order) { o.Kind = n })
		wrong(api.ErrRange, func(o *api.Order) { o.Price = n })
		wrong(api.ErrRange, func(o *api.Order) { o.Qty = n })
	}
	wrong(api.ErrRange, func(o *api.Order) { o.Id = 10000 })
	wrong(api.ErrRange, func(o *api.Order) { o.Who = 10 })
	wrong(api.ErrRange, func(o *api.Order) { o.Side = 3 })
	wrong(api.ErrRange, func(o *api.Order) { o.Kind = 6 })
	wrong(api.ErrRange, func(o *api.Order) { o.Price = 10001 })
	wrong(api.ErrRange, func(o *api.Order) { o.Qty = 10001 })
	wrong(api.ErrRange, func(o *api.Order) { o.Kind = api.Market })
	wrong(api.ErrRange, func(o *api.Order) { o.Show = 6 })
	wrong(api.ErrRange, func(o *api.Order) { o.Show = -1 })
	wrong(api.ErrShape, func(o *api.Order) { o.Kind, o.Show = api.Now, 1 })
	wrong(api.ErrRange, func(o *api.Order) { o.Stop = 10001 })
	wrong(api.ErrRange, func(o *api.Order) { o.Stop = -1 })
	return l
}

// eachKind goes over an order in all its kinds.
func eachKind(o api.Order, do func(o api.Order)) {
	for kind := api.Limit; kind <= api.Post; kind++ {
		do(ofKind(o, kind))
	}
}

func TestTheBooksFaultIsToldFirst(t *testing.T) {
	for _, f := range badBooks() {
		eachSide(func(s int) {
			for _, by := range []int{-1, 0, 2} {
				eachKind(comes(s, by, 5), func(o api.Order) {
					wantDoError(t, f.of, o, f.want)
					wantDoError(t, f.of, withStop(o, 50), f.want)
					wantDoError(t, f.of, withId(o, 1), f.want)
				})
			}
			for _, o := range badOrders(s) {
				wantDoError(t, f.of, o.of, f.want)
			}
		})
	}
}

// books in which orders meet nobody, few, many, or find no room.
func books(s int) []api.Book {
	return []api.Book{
		{}, facing(s), facing(s, queue(open(1, 2)), queue(open(2, 9))), facing(s, queue(melting(1, 9000))), facing(s, row(1, 59)),
	}
}

func TestTheOrdersFaultIsToldNext(t *testing.T) {
	eachSide(func(s int) {
		for _, b := range books(s) {
			for _, f := range badOrders(s) {
				wantDoError(t, b, f.of, f.want)
			}
			// A Stop, and an Id that rests, are told only behind it.
			wantDoError(t, b, withStop(withId(comes(s, 2, 0), resting), 50), api.ErrRange)
			shape := withStop(withId(withShow(ofKind(comes(s, 2, 5), api.Whole), 1), resting), 50)
			wantDoError(t, b, shape, api.ErrShape)
		}
	})
}

// Whole that is too much, Post that would meet, and what finds no room, are told behind a Stop.
func TestAnOrderThatWaitsDoesNotCome(t *testing.T) {
	eachSide(func(s int) {
		for _, b := range books(s) {
			for _, stop := range []int{1, bid, ask, 10000} {
				for _, by := range []int{-1, 0, 2} {
					eachKind(withStop(comes(s, by, 500), stop), func(o api.Order) {
						wantDoError(t, b, o, api.ErrState)
						wantDoError(t, b, withId(o, resting), api.ErrState)
					})
				}
			}
		}
	})
}

func TestAnIdThatRestsDoesNotCome(t *testing.T) {
	eachSide(func(s int) {
		for _, b := range books(s)[1:] {
			for _, by := range []int{-1, 0, 2} {
				for _, qty := range []int{1, 500} {
					eachKind(withId(comes(s, by, qty), resting), func(o api.Order) { wantDoError(t, b, o, api.ErrClash) })
				}
			}
		}
		b := facing(s, queue(open(1, 9)))
		// It would all be taken, or be gone: even so it does not come.
		eachKind(withId(comes(s, 0, 9), 1), func(o api.Order) { wantDoError(t, b, o, api.ErrClash) })
	})
}

// Chapter 6's errors come first: of too many Trades ErrFull is told, be the kind as it may.
func TestTooManyTradesAreToldAheadOfWhatTheKindTells(t *testing.T) {
	eachSide(func(s int) {
		b := facing(s, queue(melting(1, 401)))
		for _, qty := range []int{401, 402, 10000} {
			eachKind(comes(s, 0, qty), func(o api.Order) { wantDoError(t, b, o, api.ErrFull) })
		}
		b = facing(s, queue(melting(1, 400)))
		for _, qty := range []int{401, 10000} {
			wantDoError(t, b, ofKind(comes(s, 0, qty), api.Whole), api.ErrPoor)
			wantDoError(t, b, ofKind(comes(s, 0, qty), api.Post), api.ErrCross)
		}
	})
}

func TestSoManyTradesAndNoMore(t *testing.T) {
	eachSide(func(s int) {
		b := facing(s, queue(melting(1, 300)), queue(melting(2, 9000)))
		for _, kind := range []int{api.Limit, api.Market, api.Now, api.Whole} {
			_, trades, gone, err := kinds.Do(b, ofKind(comes(s, 2, 400), kind))
			if len(trades) != 400 || gone != 0 || err != nil {
				t.Errorf("kind %d: got %d Trades, %d %v", kind, len(trades), gone, err)
			}
			wantDoError(t, b, ofKind(comes(s, 2, 401), kind), api.ErrFull)
		}
		// As many Trades as may be, and something left that rests.
		b = facing(s, queue(melting(1, 400)))
		got, trades, gone, err := kinds.Do(b, comes(s, 0, 407))
		want := joined(facing(s), s, behind(3-s, 0), rest(comer, comerWho, 7, 0, 0))
		if !same(got, want) || len(trades) != 400 || gone != 0 || err != nil {
			t.Errorf("got %v, %d Trades, %d %v, want %v", got, len(trades), gone, err, want)
		}
	})
}

func TestTheEmptyOrder(t *testing.T) {
	wantDoError(t, api.Book{}, api.Order{}, api.ErrRange)
	wantDoError(t, facing(api.Buy, row(1, 3)), api.Order{}, api.ErrRange)
	wantDoError(t, api.Book{Buys: []api.Level{{Price: 5}}}, api.Order{}, api.ErrShape)
}
