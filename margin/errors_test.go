package margin_test

import (
	"math"
	"slices"
	"testing"

	"pitfloor/api"
	"pitfloor/order"
	"pitfloor/plain"
	"pitfloor/queue"
)

// M1 of chapter 13: which errors are told, and which first.

// outside is beyond what may be, from low to high.
func outside(low, high int) []int {
	return []int{math.MinInt, math.MinInt + 1, -high, low - 1, high + 1, 1<<32 + low, math.MaxInt - 1, math.MaxInt}
}

// badOrders have a fault that chapter 2's Check tells.
func badOrders() (l []api.Order) {
	eachComing(99, 9, func(o api.Order) {
		wrong := func(numbers []int, change func(o *api.Order, n int)) {
			for _, n := range numbers {
				odd := o
				change(&odd, n)
				l = append(l, odd)
			}
		}
		wrong(outside(1, 9999), func(o *api.Order, n int) { o.Id = n })
		wrong(outside(1, 9), func(o *api.Order, n int) { o.Who = n })
		wrong(outside(1, 2), func(o *api.Order, n int) { o.Side = n })
		wrong(outside(1, 5), func(o *api.Order, n int) { o.Kind = n })
		wrong(outside(1, 10000), func(o *api.Order, n int) { o.Qty = n })
		wrong(outside(0, 9), func(o *api.Order, n int) { o.Show = n })
		wrong([]int{math.MinInt, -1, 10001, math.MaxInt}, func(o *api.Order, n int) { o.Stop = n })
		if o.Kind == api.Market {
			wrong([]int{math.MinInt, -1, 1, 99, 10000, 10001, math.MaxInt}, func(o *api.Order, n int) { o.Price = n })
		} else {
			wrong(outside(1, 10000), func(o *api.Order, n int) { o.Price = n })
		}
		if o.Kind != api.Limit && o.Kind != api.Post {
			wrong([]int{1, 9}, func(o *api.Order, n int) { o.Show = n })
		}
	})
	return l
}

// badRests have a fault that chapter 3 tells.
func badRests() (l []api.Rest) {
	wrong := func(numbers []int, change func(r *api.Rest, n int)) {
		for _, n := range numbers {
			odd := rest(4, 5, 4)
			change(&odd, n)
			l = append(l, odd)
		}
	}
	wrong(outside(1, 9999), func(r *api.Rest, n int) { r.Id = n })
	wrong(outside(1, 9), func(r *api.Rest, n int) { r.Who = n })
	wrong(outside(1, 10000), func(r *api.Rest, n int) { r.Qty = n })
	wrong(outside(0, 10000), func(r *api.Rest, n int) { r.Hidden = n })
	wrong(outside(0, 10000), func(r *api.Rest, n int) { r.Show = n })
	return append(l, rest(4, 5, 0), rest(4, 5, 3), rest(4, 0, 3), rest(1, 1, 0))
}

func TestForTellsWhatIsWrongWithAnOrder(t *testing.T) {
	for _, o := range badOrders() {
		want := plain.Told(order.Check(o))
		if want == api.OK {
			t.Fatalf("nothing is wrong with %+v", o)
		}
		wantFor(t, o, refused(want))
	}
}

func TestForTellsBothErrors(t *testing.T) {
	shows := comes(api.Buy, api.Now, 99, 9)
	shows.Show = 1
	wantFor(t, shows, refused(api.ErrShape))
	shows.Qty = 0
	wantFor(t, shows, refused(api.ErrRange))
	wantFor(t, api.Order{}, refused(api.ErrRange))
}

// What is wrong with a Rest is told ahead of what is wrong with the side or the price.
func TestLeftTellsWhatIsWrongWithARest(t *testing.T) {
	for _, r := range badRests() {
		want := plain.Told(queue.Rest(r))
		if want == api.OK {
			t.Fatalf("nothing is wrong with %+v", r)
		}
		for _, side := range []int{math.MinInt, 0, 1, 2, 3, math.MaxInt} {
			for _, price := range []int{math.MinInt, 0, 1, 10000, 10001, math.MaxInt} {
				wantLeft(t, r, side, price, refused(want))
			}
		}
	}
	wantLeft(t, rest(4, 5, 0), 0, 0, refused(api.ErrShape))
	wantLeft(t, rest(4, 5, 3), 0, 0, refused(api.ErrShape))
}

func TestLeftWantsASideAndAPrice(t *testing.T) {
	for _, r := range []api.Rest{rest(4, 5, 4), rest(1, 0, 0), rest(10000, 10000, 10000)} {
		for _, side := range outside(1, 2) {
			for _, price := range []int{math.MinInt, 0, 1, 99, 10000, 10001, math.MaxInt} {
				wantLeft(t, r, side, price, refused(api.ErrRange))
			}
		}
		for _, price := range outside(1, 10000) {
			wantLeft(t, r, api.Buy, price, refused(api.ErrRange))
			wantLeft(t, r, api.Sell, price, refused(api.ErrRange))
		}
	}
}

// What is wrong with the order is told ahead of all else.
func TestBackTellsWhatIsWrongWithAnOrder(t *testing.T) {
	lists := [][]api.Trade{nil, trades(traded(api.Buy, 99, 1)), trades(traded(api.Buy, 0, 1)), trades(api.Trade{Taker: taker + 1, Price: 99, Qty: 1})}
	for _, o := range badOrders() {
		want := plain.Told(order.Check(o))
		for _, l := range lists {
			for _, gone := range []int{-1, 0, 1, 10} {
				wantBack(t, o, l, gone, refused(want))
			}
		}
	}
	shows := comes(api.Buy, api.Whole, 99, 9)
	shows.Show = 9
	wantBack(t, shows, trades(traded(api.Buy, 0, 1)), -1, refused(api.ErrShape))
}

// How much is gone is asked ahead of the Trades.
func TestBackWantsThatNoMoreIsGoneThanThereWas(t *testing.T) {
	for _, qty := range []int{1, 2, 9, 10000} {
		eachComing(99, qty, func(o api.Order) {
			other := traded(o.Side, 99, 1)
			other.Taker++
			for _, gone := range outside(0, qty) {
				wantBack(t, o, nil, gone, refused(api.ErrRange))
				wantBack(t, o, trades(traded(o.Side, 99, 1)), gone, refused(api.ErrRange))
				wantBack(t, o, trades(other), gone, refused(api.ErrRange))
			}
		})
	}
}

func TestBackWantsAPriceAndAQuantityOfATrade(t *testing.T) {
	eachComing(99, 9, func(o api.Order) {
		for _, bad := range outside(1, 10000) {
			wantBack(t, o, trades(traded(o.Side, bad, 1)), 0, refused(api.ErrRange))
			wantBack(t, o, trades(traded(o.Side, 99, bad)), 0, refused(api.ErrRange))
			wantBack(t, o, trades(traded(o.Side, bad, bad)), 9, refused(api.ErrRange))
		}
	})
}

func TestBackWantsTradesOfTheOrder(t *testing.T) {
	eachComing(99, 9, func(o api.Order) {
		for _, id := range []int{math.MinInt, -taker, 0, taker - 1, taker + 1, 4, takerWho, 1<<32 + taker, math.MaxInt} {
			v := traded(o.Side, 99, 1)
			v.Taker = id
			wantBack(t, o, trades(v), 0, refused(api.ErrShape))
			// That it rested there does not make it the one that came.
			v.Maker = taker
			wantBack(t, o, trades(v), 0, refused(api.ErrShape))
		}
	})
}

func TestBackWantsPricesThatAreMet(t *testing.T) {
	eachComing(99, 9, func(o api.Order) {
		for _, by := range []int{1, 2, 98} {
			met, unmet := traded(o.Side, better(o.Side, 99, by), 1), traded(o.Side, better(o.Side, 99, -by), 1)
			if got := answered(backOf(o, met)); got.err != api.OK {
				t.Errorf("Back(%+v, %v): got %v", o, met, got)
			}
			want := api.ErrShape
			if o.Kind == api.Market {
				want = api.OK
			}
			if got := answered(backOf(o, unmet)); got.err != want {
				t.Errorf("Back(%+v, %v): got %v, want %v", o, unmet, got, want)
			}
		}
	})
	for _, price := range []int{100, 10000} {
		wantBack(t, comes(api.Buy, api.Limit, 99, 9), trades(traded(api.Buy, price, 1)), 9, refused(api.ErrShape))
	}
	for _, price := range []int{1, 98} {
		wantBack(t, comes(api.Sell, api.Limit, 99, 9), trades(traded(api.Sell, price, 1)), 9, refused(api.ErrShape))
	}
}

// Of one Trade ErrRange is told ahead of ErrShape.
func TestBackTellsRangeAheadOfShape(t *testing.T) {
	eachComing(99, 9, func(o api.Order) {
		for _, bad := range outside(1, 10000) {
			noPrice, noQty, unmet := traded(o.Side, bad, 1), traded(o.Side, 99, bad), traded(o.Side, better(o.Side, 99, -1), bad)
			wantBack(t, o, trades(unmet), 0, refused(api.ErrRange))
			for _, v := range trades(noPrice, noQty, unmet) {
				v.Taker++
				wantBack(t, o, trades(v), 0, refused(api.ErrRange))
			}
		}
	})
}

// Of several Trades what is wrong with the first that has a fault is told.
func TestBackTellsTheFirstTradeWithAFault(t *testing.T) {
	eachComing(99, 9, func(o api.Order) {
		good, other, none := traded(o.Side, 99, 1), traded(o.Side, 99, 1), traded(o.Side, 99, 0)
		other.Taker++
		for count := range 4 {
			ahead := slices.Repeat(trades(good), count)
			wantBack(t, o, slices.Concat(ahead, trades(other, none)), 1, refused(api.ErrShape))
			wantBack(t, o, slices.Concat(ahead, trades(none, other)), 1, refused(api.ErrRange))
			wantBack(t, o, slices.Concat(ahead, trades(other, good, good)), 1, refused(api.ErrShape))
			wantBack(t, o, slices.Concat(ahead, trades(none, good, good)), 1, refused(api.ErrRange))
		}
		if o.Kind != api.Market {
			unmet := traded(o.Side, better(o.Side, 99, -1), 1)
			wantBack(t, o, trades(good, unmet, none), 1, refused(api.ErrShape))
			wantBack(t, o, trades(good, none, unmet), 1, refused(api.ErrRange))
		}
	})
}
