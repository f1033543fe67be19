package self_test

import (
	"math"
	"testing"

	"pitfloor/api"
)

// S1: which errors Do tells, and which first.

// fault of a book, or of an order, and what is told of it.
type fault[T any] struct {
	of   T
	want api.Errno
}

// badBooks have one thing wrong each, on either side of who comes.
func badBooks() (l []fault[api.Book]) {
	eachSide(func(s int) {
		good := facing(3-s, queue(open(1, 2)), queue(own(2, 3)))
		wrong := func(want api.Errno, levels ...api.Level) {
			l = append(l, fault[api.Book]{with(good, s, levels), want})
		}
		first, next := api.Level{Price: behind(s, 0), Rests: queue(own(1, 2))}, behind(s, 2)
		wrong(api.ErrRange, first, api.Level{Price: 0, Rests: row(2, 1)})
		wrong(api.ErrRange, first, api.Level{Price: 10001, Rests: row(2, 1)})
		wrong(api.ErrShape, first, api.Level{Price: next})
		wrong(api.ErrRange, first, api.Level{Price: next, Rests: queue(rest(2, 10, 1, 0, 0))})
		wrong(api.ErrRange, first, api.Level{Price: next, Rests: queue(rest(2, comerWho, 0, 0, 0))})
		wrong(api.ErrShape, first, api.Level{Price: next, Rests: queue(rest(2, comerWho, 1, 1, 0))})
		wrong(api.ErrFull, first, api.Level{Price: next, Rests: row(2, 61)})
		wrong(api.ErrFull, first, api.Level{Price: next, Rests: row(2, 60)})
		wrong(api.ErrClash, first, api.Level{Price: next, Rests: row(1, 1)})
		wrong(api.ErrClash, first, api.Level{Price: behind(s, 0), Rests: row(2, 1)})
		wrong(api.ErrClash, first, api.Level{Price: next, Rests: row(resting, 1)})
		wrong(api.ErrCross, api.Level{Price: behind(3-s, 0), Rests: row(1, 1)})
		// Each side by itself has no more than may be, but both have.
		wrong(api.ErrFull, api.Level{Price: behind(s, 0), Rests: row(100, 60)})
	})
	return l
}

// badOrders have one thing wrong each, whatever else is so.
func badOrders(s int) (l []fault[api.Order]) {
	wrong := func(want api.Errno, change func(o *api.Order)) {
		o := comes(s, 2, 5)
		change(&o)
		l = append(l, fault[api.Order]{o, want})
	}
	for _, n := range []int{math.MinInt, -1, 0, math.MaxInt} {
		wrong(api.ErrRange, func(o *api.Order) { o.Id = n })
		wrong(api.ErrRange, func(o *api.Order) { o.Who = n })
		wrong(api.ErrRange, func(o *api.Order) { o.Side = n })
		wrong(api.ErrRange, func(o *api.Order) { o.Kind = n })
		wrong(api.ErrRange, func(o *api.Order) { o.Price = n })
		wrong(api.ErrRange, func(o *api.Order) { o.Qty = n })
	}
	wrong(api.ErrRange, func(o *api.Order) { o.Id = 10000 })
	wrong(api.ErrRange, func(o *api.Order) { o.Who = 10 })
	wrong(api.ErrRange, func(o *api.Order) { o.Side = 3 })
	wrong(api.ErrRange, func(o *api.Order) { o.Kind = 6 })
	wrong(api.ErrRange, func(o *api.Order) { o.Price = 10001 })
	wrong(api.ErrRange, func(o *api.Order) { o.Qty = 10001 })
	wrong(api.ErrRange, func(o *api.Order) { o.Kind = api.Market })
	wrong(api.ErrRange, func(o *api.Order) { o.Show = 6 })
	wrong(api.ErrRange, func(o *api.Order) { o.Show = -1 })
	wrong(api.ErrShape, func(o *api.Order) { o.Kind, o.Show = api.Now, 1 })
	wrong(api.ErrShape, func(o *api.Order) { o.Kind, o.Show = api.Whole, 5 })
	wrong(api.ErrRange, func(o *api.Order) { o.Stop = 10001 })
	wrong(api.ErrRange, func(o *api.Order) { o.Stop = -1 })
	return l
}

// books in which orders meet nobody, others, one's own, many, or find no room.
func books(s int) []api.Book {
	return []api.Book{
		{}, facing(s), facing(s, queue(open(1, 2)), queue(own(2, 9))), facing(s, queue(own(1, 2)), queue(open(2, 9))),
		facing(s, queue(melting(1, 9000))), facing(s, queue(own(1, 1)), row(2, 58)),
	}
}

func TestTheModesFaultIsToldFirst(t *testing.T) {
	modes := []int{math.MinInt, -1 << 32, -2, -1, 4, 5, 1 << 32, 1<<32 + 1, math.MaxInt}
	eachSide(func(s int) {
		for _, mode := range modes {
			for _, b := range books(s) {
				for _, by := range []int{-1, 2} {
					eachKind(comes(s, by, 5), func(o api.Order) {
						wantError(t, b, o, mode, api.ErrRange)
						wantError(t, b, withStop(o, 50), mode, api.ErrRange)
						wantError(t, b, withId(o, resting), mode, api.ErrRange)
					})
				}
				for _, f := range badOrders(s) {
					wantError(t, b, f.of, mode, api.ErrRange)
				}
			}
			for _, f := range badBooks() {
				wantError(t, f.of, comes(s, 2, 5), mode, api.ErrRange)
			}
		}
	})
}

func TestTheBooksFaultIsToldNext(t *testing.T) {
	for _, f := range badBooks() {
		eachSide(func(s int) {
			for mode := api.Allow; mode <= api.DropBoth; mode++ {
				for _, by := range []int{-1, 0, 2} {
					eachKind(comes(s, by, 5), func(o api.Order) {
						wantError(t, f.of, o, mode, f.want)
						wantError(t, f.of, withStop(o, 50), mode, f.want)
						wantError(t, f.of, withId(o, 1), mode, f.want)
					})
				}
				for _, o := range badOrders(s) {
					wantError(t, f.of, o.of, mode, f.want)
				}
			}
		})
	}
}

func TestTheOrdersFaultIsToldThen(t *testing.T) {
	eachSide(func(s int) {
		for mode := api.Allow; mode <= api.DropBoth; mode++ {
			for _, b := range books(s) {
				for _, f := range badOrders(s) {
					wantError(t, b, f.of, mode, f.want)
				}
				// A Stop, and an Id that rests, are told only behind it.
				wantError(t, b, withStop(withId(comes(s, 2, 0), resting), 50), mode, api.ErrRange)
				shape := withStop(withId(withShow(ofKind(comes(s, 2, 5), api.Whole), 1), resting), 50)
				wantError(t, b, shape, mode, api.ErrShape)
			}
		}
	})
}

// Whole that is too much, Post that would meet, and what finds no room, are told behind a Stop and an Id that rests.
func TestWhatWaitsAndWhatRestsDoesNotCome(t *testing.T) {
	eachSide(func(s int) {
		for mode := api.Allow; mode <= api.DropBoth; mode++ {
			for i, b := range books(s) {
				for _, by := range []int{-1, 0, 2} {
					eachKind(comes(s, by, 500), func(o api.Order) {
						wantError(t, b, withStop(o, 1), mode, api.ErrState)
						wantError(t, b, withStop(withId(o, resting), 10000), mode, api.ErrState)
						if i > 0 {
							wantError(t, b, withId(o, resting), mode, api.ErrClash)
						}
						if i > 1 {
							wantError(t, b, withId(o, 1), mode, api.ErrClash)
						}
					})
				}
			}
		}
	})
}

// The Trades of all parts count, those ahead of one's own and those behind.
func TestSoManyTradesAndNoMore(t *testing.T) {
	eachSide(func(s int) {
		b := facing(s, queue(melting(1, 300)), queue(own(2, 5)), queue(melting(3, 9000)))
		for _, kind := range []int{api.Limit, api.Market, api.Now, api.Whole} {
			got := did(b, ofKind(comes(s, 4, 400), kind), api.DropMaker)
			if len(got.trades) != 400 || got.gone != 0 || len(got.ids) != 1 || got.err != api.OK {
				t.Errorf("kind %d: got %d Trades, %d %v %v", kind, len(got.trades), got.gone, got.ids, got.err)
			}
			wantError(t, b, ofKind(comes(s, 4, 401), kind), api.DropMaker, api.ErrFull)
			wantError(t, b, ofKind(comes(s, 4, 9000), kind), api.DropMaker, api.ErrFull)
		}
		// With the others it is stopped ahead of the many.
		wantError(t, b, ofKind(comes(s, 4, 401), api.Whole), api.DropTaker, api.ErrPoor)
		wantError(t, b, ofKind(comes(s, 4, 401), api.Whole), api.DropBoth, api.ErrPoor)
		for _, mode := range []int{api.DropTaker, api.DropBoth} {
			got := did(b, comes(s, 4, 401), mode)
			if len(got.trades) != 300 || got.gone != 101 || got.err != api.OK {
				t.Errorf("mode %d: got %d Trades, %d %v", mode, len(got.trades), got.gone, got.err)
			}
		}
	})
}

// What would be traded with oneself makes no Trade, so that it does not count.
func TestNoTradesWithOneselfCount(t *testing.T) {
	eachSide(func(s int) {
		mine := rest(1, comerWho, 1, 900, 1)
		b := facing(s, queue(mine, open(2, 3)))
		o := comes(s, 0, 500)
		trades := []api.Trade{traded(s, 0, open(2, 3), 3)}
		wantError(t, b, o, api.Allow, api.ErrFull)
		wantDo(t, b, o, api.DropTaker, answer{book: b, gone: 500})
		wantDo(t, b, o, api.DropMaker, answer{book: joined(facing(s), o, 497), trades: trades, ids: []int{1}})
		wantDo(t, b, o, api.DropBoth, answer{book: facing(s, queue(open(2, 3))), gone: 500, ids: []int{1}})
		eachMode(func(mode int) {
			wantError(t, b, ofKind(o, api.Whole), mode, api.ErrPoor)
			wantError(t, b, ofKind(o, api.Post), mode, api.ErrCross)
		})
	})
}

// Chapter 6's errors come first: of too many Trades ErrFull is told, be the kind as it may.
func TestTooManyTradesAreToldAheadOfWhatTheKindTells(t *testing.T) {
	eachSide(func(s int) {
		for mode := api.Allow; mode <= api.DropBoth; mode++ {
			b := facing(s, queue(melting(1, 401)), queue(own(2, 1)))
			for _, qty := range []int{401, 402, 10000} {
				eachKind(comes(s, 2, qty), func(o api.Order) { wantError(t, b, o, mode, api.ErrFull) })
			}
			b = facing(s, queue(melting(1, 400)))
			for _, qty := range []int{401, 10000} {
				wantError(t, b, ofKind(comes(s, 0, qty), api.Whole), mode, api.ErrPoor)
				wantError(t, b, ofKind(comes(s, 0, qty), api.Post), mode, api.ErrCross)
			}
		}
	})
}

func TestTheEmptyOrder(t *testing.T) {
	for mode := api.Allow; mode <= api.DropBoth; mode++ {
		wantError(t, api.Book{}, api.Order{}, mode, api.ErrRange)
		wantError(t, facing(api.Buy, row(1, 3)), api.Order{}, mode, api.ErrRange)
		wantError(t, api.Book{Buys: []api.Level{{Price: 5}}}, api.Order{}, mode, api.ErrShape)
	}
}
