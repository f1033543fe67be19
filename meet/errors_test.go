package meet_test

import (
	"math"
	"testing"

	"pitfloor/api"
	"pitfloor/meet"
	"pitfloor/plain"
)

// M1: which errors are told, and which first.

func wantDoError(t *testing.T, b api.Book, o api.Order, want api.Errno) {
	t.Helper()
	got, trades, left, err := meet.Do(b, o)
	if !same(got, api.Book{}) || len(trades) > 0 || left != 0 || plain.Told(err) != want {
		t.Errorf("Do(%v, %v): got %v, %d Trades, %d %v, want %v", b, o, got, len(trades), left, err, want)
	}
}

func wantTradesError(t *testing.T, b api.Book, o api.Order, want api.Errno) {
	t.Helper()
	if trades, err := meet.Trades(b, o); len(trades) > 0 || plain.Told(err) != want {
		t.Errorf("Trades(%v, %v): got %d Trades, %v, want %v", b, o, len(trades), err, want)
	}
}

// wantError of all calls.
func wantError(t *testing.T, b api.Book, o api.Order, want api.Errno) {
	t.Helper()
	if err := meet.Check(b, o); plain.Told(err) != want {
		t.Errorf("Check(%v, %v): got %v, want %v", b, o, err, want)
	}
	wantDoError(t, b, o, want)
	wantTradesError(t, b, o, want)
	if n, err := meet.Could(b, o); n != 0 || plain.Told(err) != want {
		t.Errorf("Could(%v, %v): got %d %v, want %v", b, o, n, err, want)
	}
}

// fault of a book, or of an order, and what is told of it.
type fault[T any] struct {
	of   T
	want api.Errno
}

// badBooks have one thing wrong each, on either side of who comes.
func badBooks() (l []fault[api.Book]) {
	eachSide(func(s int) {
		good := facing(3-s, queue(open(1, 2)), queue(open(2, 3)))
		side := func(second api.Level) api.Book {
			return with(good, s, append(stairs(s, queue(open(1, 2))), second))
		}
		next := behind(s, 2)
		l = append(l,
			fault[api.Book]{side(api.Level{Price: 0, Rests: row(2, 1)}), api.ErrRange},
			fault[api.Book]{side(api.Level{Price: 10001, Rests: row(2, 1)}), api.ErrRange},
			fault[api.Book]{side(api.Level{Price: next}), api.ErrShape},
			fault[api.Book]{side(api.Level{Price: next, Rests: queue(rest(2, 10, 1, 0, 0))}), api.ErrRange},
			fault[api.Book]{side(api.Level{Price: next, Rests: queue(rest(2, 1, 0, 0, 0))}), api.ErrRange},
			fault[api.Book]{side(api.Level{Price: next, Rests: queue(rest(2, 1, 1, 1, 0))}), api.ErrShape},
			fault[api.Book]{side(api.Level{Price: next, Rests: row(2, 61)}), api.ErrFull},
			fault[api.Book]{side(api.Level{Price: next, Rests: row(2, 60)}), api.ErrFull},
			fault[api.Book]{side(api.Level{Price: next, Rests: row(1, 1)}), api.ErrClash},
			fault[api.Book]{side(api.Level{Price: behind(s, 0), Rests: row(2, 1)}), api.ErrClash},
			fault[api.Book]{side(api.Level{Price: next, Rests: row(resting, 1)}), api.ErrClash},
			fault[api.Book]{with(good, s, []api.Level{{Price: behind(3-s, 0), Rests: row(1, 1)}}), api.ErrCross},
			// Each side by itself has no more than may be, but both have.
			fault[api.Book]{with(good, s, stairs(s, row(1, 60))), api.ErrFull},
		)
	})
	return l
}

// badOrders have one thing wrong each, whatever else is so.
func badOrders(s int) (l []fault[api.Order]) {
	wrong := func(want api.Errno, change func(o *api.Order)) {
		o := comes(s, 2, 5)
		change(&o)
		l = append(l, fault[api.Order]{o, want})
	}
	for _, n := range []int{math.MinInt, -1, 0, math.MaxInt} {
		wrong(api.ErrRange, func(o *api.Order) { o.Id = n })
		wrong(api.ErrRange, func(o *api.Order) { o.Who = n })
		wrong(api.ErrRange, func(o *api.Order) { o.Side = n })
		wrong(api.ErrRange, func(o *api.Order) { o.Kind = n })
		wrong(api.ErrRange, func(o *api.Order) { o.Price = n })
		wrong(api.ErrRange, func(o *api.Order) { o.Qty = n })
	}
	wrong(api.ErrRange, func(o *api.Order) { o.Id = 10000 })
	wrong(api.ErrRange, func(o *api.Order) { o.Who = 10 })
	wrong(api.ErrRange, func(o *api.Order) { o.Side = 3 })
	wrong(api.ErrRange, func(o *api.Order) { o.Kind = 6 })
	wrong(api.ErrRange, func(o *api.Order) { o.Price = 10001 })
	wrong(api.ErrRange, func(o *api.Order) { o.Qty = 10001 })
	wrong(api.ErrRange, func(o *api.Order) { o.Kind = api.Market })
	wrong(api.ErrRange, func(o *api.Order) { o.Show = 6 })
	wrong(api.ErrRange, func(o *api.Order) { o.Show = -1 })
	wrong(api.ErrShape, func(o *api.Order) { o.Kind, o.Show = api.Now, 1 })
	wrong(api.ErrRange, func(o *api.Order) { o.Stop = 10001 })
	wrong(api.ErrRange, func(o *api.Order) { o.Stop = -1 })
	return l
}

// What is wrong with a book is told first, be the order as it may: Could, too, tells that a book is too full.
func TestTheBooksFaultIsToldFirst(t *testing.T) {
	for _, f := range badBooks() {
		eachSide(func(s int) {
			wantError(t, f.of, comes(s, 2, 5), f.want)
			wantError(t, f.of, comes(s, -1, 5), f.want)
			wantError(t, f.of, withStop(comes(s, 2, 5), 50), f.want)
			wantError(t, f.of, withId(comes(s, 2, 5), 1), f.want)
			for _, o := range badOrders(s) {
				wantError(t, f.of, o.of, f.want)
			}
		})
	}
}

func TestTheOrdersFaultIsToldNext(t *testing.T) {
	eachSide(func(s int) {
		for _, b := range []api.Book{{}, facing(s, queue(open(1, 2)), queue(open(2, 9))), facing(s, queue(melting(1, 9000)))} {
			for _, f := range badOrders(s) {
				wantError(t, b, f.of, f.want)
			}
			// A Stop, and an Id that rests, are told only behind it.
			shape := withStop(withId(ofKind(comes(s, 2, 5), api.Whole), resting), 50)
			shape.Show = 1
			wantError(t, b, shape, api.ErrShape)
			ranged := withStop(withId(comes(s, 2, 0), resting), 50)
			wantError(t, b, ranged, api.ErrRange)
		}
	})
}

func TestAnOrderThatWaitsDoesNotCome(t *testing.T) {
	eachSide(func(s int) {
		for _, b := range []api.Book{{}, facing(s), facing(s, queue(open(1, 2))), facing(s, queue(melting(1, 9000)))} {
			for _, stop := range []int{1, 2, bid, ask, 9999, 10000} {
				for kind := api.Limit; kind <= api.Post; kind++ {
					o := withStop(ofKind(comes(s, 2, 500), kind), stop)
					wantError(t, b, o, api.ErrState)
					// An Id that rests is told only behind it.
					wantError(t, b, withId(o, resting), api.ErrState)
					wantError(t, b, withId(o, 1), api.ErrState)
				}
			}
		}
	})
}

func TestAnIdThatRestsDoesNotCome(t *testing.T) {
	eachSide(func(s int) {
		b := facing(s, queue(open(1, 2), melting(2, 900)), queue(open(3, 9), open(9999, 1)))
		for _, id := range []int{1, 2, 3, 9999, resting} {
			for kind := api.Limit; kind <= api.Post; kind++ {
				wantError(t, b, withId(ofKind(comes(s, 2, 5), kind), id), api.ErrClash)
				// Whether it meets anybody is not asked, nor how many Trades there would be.
				wantError(t, b, withId(ofKind(comes(s, -1, 5), kind), id), api.ErrClash)
				wantError(t, b, withId(ofKind(comes(s, 2, 900), kind), id), api.ErrClash)
			}
		}
		for _, id := range []int{4, 10, 9998, resting - 1, resting + 1} {
			wantCould(t, b, withId(comes(s, 2, 5), id), 5)
		}
	})
}

func TestTheEmptyOrder(t *testing.T) {
	wantError(t, api.Book{}, api.Order{}, api.ErrRange)
	wantError(t, facing(api.Buy, row(1, 3)), api.Order{}, api.ErrRange)
	wantError(t, api.Book{Buys: []api.Level{{Price: 5}}}, api.Order{}, api.ErrShape)
}
