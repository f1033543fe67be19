package call_test

import (
	"math"
	"slices"
	"testing"

	"pitfloor/api"
)

// C1, C2: which errors are told, and which first.

// noPrices are numbers that are no price.
var noPrices = []int{math.MinInt, -1, 0, 10001, 1<<32 + 1, math.MaxInt}

// wantRefused: all three calls tell the error, Volume at any number that is asked for.
func wantRefused(t *testing.T, l []api.Order, want api.Errno) {
	t.Helper()
	wantEnd(t, l, refused(want))
	for _, price := range append([]int{1, 100, 10000}, noPrices...) {
		if got := volumeOf(l, price); got != (volume{err: want}) {
			t.Errorf("Volume(%v, %d): got %v, want %v", l, price, got, want)
		}
	}
}

// badOrders have one thing wrong each that chapter 2 names ErrRange.
func badOrders(good api.Order) (l []api.Order) {
	highs := []int{10000, 10, 3, 6, 10001, 10001, good.Qty + 1, 10001}
	for number, high := range highs {
		for _, n := range []int{math.MinInt, -1, high, 1<<32 + 1, math.MaxInt} {
			l = append(l, with(good, number, n))
		}
		if number < 6 {
			l = append(l, with(good, number, 0))
		}
	}
	return append(l, with(good, 3, api.Market))
}

// oddShapes are orders that may be elsewhere, but not in a call.
func oddShapes(good api.Order) (l []api.Order) {
	for _, kind := range []int{api.Now, api.Whole, api.Post} {
		l = append(l, with(good, 3, kind), with(with(good, 3, kind), 7, 100))
	}
	l = append(l, with(with(good, 3, api.Market), 4, 0), with(with(good, 3, api.Post), 6, 1))
	for _, show := range []int{1, good.Qty} {
		l = append(l, with(good, 6, show), with(with(good, 6, show), 7, 100))
	}
	for _, stop := range []int{1, good.Price, 10000} {
		l = append(l, with(good, 7, stop))
	}
	return l
}

// shapesOfCheck are orders of which chapter 2 itself tells ErrShape.
func shapesOfCheck(good api.Order) (l []api.Order) {
	for _, kind := range []int{api.Now, api.Whole} {
		l = append(l, with(with(good, 3, kind), 6, 1))
	}
	return append(l, with(with(with(good, 3, api.Market), 4, 0), 6, 1))
}

// among puts an order at each place among some others.
func among(o api.Order, do func(l []api.Order)) {
	others := of(buy(1, 102, 4), sell(2, 99, 3), buy(3, 100, 2))
	do(of(o))
	for at := range len(others) + 1 {
		do(slices.Insert(slices.Clone(others), at, o))
	}
	long := slices.Concat(row(101, 30, api.Buy, 101, 5), row(131, 29, api.Sell, 99, 5))
	for _, at := range []int{0, 30, 59} {
		do(slices.Insert(slices.Clone(long), at, o))
	}
}

func TestOrdersThatAreNone(t *testing.T) {
	for _, good := range of(buy(7, 100, 5), sell(7, 100, 5)) {
		for _, bad := range badOrders(good) {
			among(bad, func(l []api.Order) { wantRefused(t, l, api.ErrRange) })
		}
	}
	among(api.Order{}, func(l []api.Order) { wantRefused(t, l, api.ErrRange) })
}

func TestOrdersThatMayNotComeToACall(t *testing.T) {
	for _, good := range of(buy(7, 100, 5), sell(7, 100, 5)) {
		for _, odd := range slices.Concat(oddShapes(good), shapesOfCheck(good)) {
			among(odd, func(l []api.Order) { wantRefused(t, l, api.ErrShape) })
		}
	}
}

// Of one order chapter 2's errors are ahead of its shape.
func TestCheckIsAheadOfShape(t *testing.T) {
	for _, odd := range oddShapes(buy(7, 100, 5)) {
		for _, number := range []int{0, 1, 2, 5} {
			among(with(odd, number, 10001), func(l []api.Order) { wantRefused(t, l, api.ErrRange) })
		}
	}
	among(with(with(buy(7, 100, 5), 3, api.Now), 7, 10001), func(l []api.Order) { wantRefused(t, l, api.ErrRange) })
	among(with(with(buy(7, 100, 5), 6, 6), 7, 100), func(l []api.Order) { wantRefused(t, l, api.ErrRange) })
}

// An Id is in a call once, whatever else of the orders is another.
func TestIdsClash(t *testing.T) {
	l := of(buy(1, 102, 4), sell(2, 99, 3), buy(3, 90, 2), sell(4, 110, 7))
	for i, o := range l {
		for at := range len(l) + 1 {
			for _, again := range of(o, buy(o.Id, 55, 9), sell(o.Id, 155, 9)) {
				wantRefused(t, slices.Insert(slices.Clone(l), at, again), api.ErrClash)
			}
		}
		wantRefused(t, of(o, o), api.ErrClash)
		wantRefused(t, append(slices.Clone(l[i:]), l[i]), api.ErrClash)
	}
	full := row(1, 60, api.Buy, 100, 1)
	full[59].Id = 1
	wantRefused(t, full, api.ErrClash)
}

// Of one order its own faults are ahead of its clash.
func TestOwnFaultsAreAheadOfAClash(t *testing.T) {
	for _, first := range of(buy(7, 100, 5), sell(7, 90, 9)) {
		for _, odd := range oddShapes(buy(7, 100, 5)) {
			wantRefused(t, of(first, odd), api.ErrShape)
		}
		for _, bad := range badOrders(buy(7, 100, 5)) {
			wantRefused(t, of(first, bad), api.ErrRange)
		}
	}
}

// What is wrong with the first order that has a fault is told, whatever is wrong with later ones.
func TestTheFirstFaultIsTold(t *testing.T) {
	good := sell(2, 99, 3)
	none, odd, again := with(buy(3, 100, 5), 1, 0), with(buy(4, 100, 5), 3, api.Now), buy(2, 100, 5)
	wantRefused(t, of(good, none, odd, again), api.ErrRange)
	wantRefused(t, of(good, odd, none, again), api.ErrShape)
	wantRefused(t, of(good, odd, again, none), api.ErrShape)
	wantRefused(t, of(good, again, none, odd), api.ErrClash)
	wantRefused(t, of(good, again, odd, none), api.ErrClash)
	wantRefused(t, of(good, none, again, odd), api.ErrRange)
}

func TestSixtyOrdersAtMost(t *testing.T) {
	l := slices.Concat(row(1, 30, api.Buy, 100, 2), row(31, 32, api.Sell, 99, 3))
	wantVolume(t, l[:59], 100, 60, -27)
	wantVolume(t, l[:60], 100, 60, -30)
	wantPrice(t, l[:60], 99, 60)
	wantRefused(t, l[:61], api.ErrFull)
	wantRefused(t, l[:62], api.ErrFull)
}

// Too many orders are told ahead of all that is wrong with one of them.
func TestFullIsAheadOfAllElse(t *testing.T) {
	l := row(1, 61, api.Buy, 100, 2)
	for _, o := range of(api.Order{}, with(buy(99, 100, 5), 3, api.Now), buy(1, 100, 2), buy(61, 100, 2)) {
		for _, at := range []int{0, 1, 60} {
			odd := slices.Clone(l)
			odd[at] = o
			wantRefused(t, odd, api.ErrFull)
		}
	}
	wantRefused(t, make([]api.Order, 61), api.ErrFull)
	wantRefused(t, make([]api.Order, 100000), api.ErrFull)
	wantRefused(t, make([]api.Order, 60), api.ErrRange)
}

func TestVolumeWantsAPrice(t *testing.T) {
	for _, l := range [][]api.Order{nil, of(buy(1, 100, 5)), of(buy(1, 1, 5), sell(2, 10000, 5)), of(sell(1, 99, 5), buy(2, 100, 5))} {
		for _, price := range noPrices {
			if got := volumeOf(l, price); got != (volume{err: api.ErrRange}) {
				t.Errorf("Volume(%v, %d): got %v, want ErrRange", l, price, got)
			}
		}
	}
}
