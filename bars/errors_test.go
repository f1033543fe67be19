package bars_test

import (
	"math"
	"slices"
	"testing"

	"pitfloor/api"
)

// B1 of chapter 16: which errors are told, which first.

// outside is beyond what may be, from low to high.
func outside(low, high int) []int {
	return []int{math.MinInt, math.MinInt + 1, -high - 1, low - 1, high + 1, 1<<32 + low, math.MaxInt - 1, math.MaxInt}
}

func TestPricesAndQtysBeyondTheirBounds(t *testing.T) {
	for _, n := range outside(1, 10000) {
		wantRefused(t, trades(traded(n, 5)), 1, api.ErrRange)
		wantRefused(t, trades(traded(99, n)), 1, api.ErrRange)
		wantRefused(t, trades(traded(n, n)), 1, api.ErrRange)
	}
}

// Wherever the trade stands that has a fault, nothing is told of the others.
func TestAFaultAnywhere(t *testing.T) {
	for _, bad := range trades(traded(0, 1), traded(10001, 1), traded(99, 0), traded(99, 10001)) {
		for at := range len(day()) + 1 {
			wantRefused(t, slices.Insert(day(), at, bad), 2, api.ErrRange)
		}
	}
	l := slices.Repeat(trades(traded(99, 1)), 400)
	l[399].Qty = 0
	wantRefused(t, l, 400, api.ErrRange)
}

func TestMoreTradesThanMayBe(t *testing.T) {
	for _, count := range []int{401, 402, 1000} {
		wantRefused(t, slices.Repeat(trades(traded(99, 1)), count), 1, api.ErrFull)
	}
}

// That there are too many is told ahead of what is wrong with one of them.
func TestTooManyTradesIsToldFirst(t *testing.T) {
	wantRefused(t, make([]api.Trade, 401), 1, api.ErrFull)
	wantRefused(t, make([]api.Trade, 400), 1, api.ErrRange)
}

func TestBarsOfSoManyAsMayNotBe(t *testing.T) {
	for _, n := range outside(1, 400) {
		wantNoBars(t, day(), n, api.ErrRange)
		wantNoBars(t, nil, n, api.ErrRange)
	}
}

// What is wrong with the trades is told ahead of what is wrong with n.
func TestTradesAreAskedAheadOfN(t *testing.T) {
	for _, n := range outside(1, 400) {
		wantNoBars(t, slices.Repeat(trades(traded(99, 1)), 401), n, api.ErrFull)
	}
}

func TestNothingOfNoTrades(t *testing.T) {
	for _, l := range [][]api.Trade{nil, {}, day()[:0]} {
		none := told{errs: [3]api.Errno{api.OK, api.ErrNone, api.ErrNone}}
		if got := ask(l, 1); !same(got, none) {
			t.Errorf("got %v, want %v", got, none)
		}
	}
}

func TestJoinOfNoBars(t *testing.T) {
	for _, l := range [][]api.Bar{nil, {}, several(bar(1, 1, 1, 1, 1))[:0]} {
		wantNotJoined(t, l, api.ErrNone)
	}
}

// misshaped are Bars, each with one fault at least.
func misshaped() []api.Bar {
	l := several(
		bar(0, 9, 0, 4, 7), bar(0, 0, 0, 0, 7), bar(-1, -1, -1, -1, 7), // Low is below 1
		bar(5, 1, 2, 5, 7), bar(3, 3, 4, 3, 7), bar(4, 3, 4, 4, 7), // Low is above High
		bar(1, 9, 2, 4, 7), bar(10, 9, 2, 4, 7), // Open is not between
		bar(5, 9, 2, 1, 7), bar(5, 9, 2, 10, 7), // Close is not between
		bar(5, 9, 2, 4, 0), bar(5, 9, 2, 4, -1), bar(5, 9, 2, 4, 4000001), // Qty may not be
	)
	for _, n := range []int{math.MinInt, math.MaxInt} {
		l = append(l, bar(n, 9, 2, 4, 7), bar(5, 9, n, 4, 7), bar(5, 9, 2, n, 7), bar(5, 9, 2, 4, n), bar(n, n, n, n, n))
	}
	return append(l, bar(5, math.MinInt, 2, 4, 7), api.Bar{})
}

func TestBarsThatAreMisshaped(t *testing.T) {
	for _, b := range misshaped() {
		wantNotJoined(t, several(b), api.ErrShape)
	}
}

func TestAMisshapedBarAnywhere(t *testing.T) {
	good := several(bar(5, 9, 2, 4, 7), bar(3, 8, 3, 6, 2), bar(1, 1, 1, 1, 1))
	for _, bad := range misshaped() {
		for at := range len(good) + 1 {
			wantNotJoined(t, slices.Insert(slices.Clone(good), at, bad), api.ErrShape)
		}
	}
	l := slices.Repeat(good[:1], 400)
	l[399].Qty = 0
	wantNotJoined(t, l, api.ErrShape)
}

// One Bar has not what another one lacks: each is asked by its own Low and High.
func TestEachBarIsAskedByItself(t *testing.T) {
	wantNotJoined(t, several(bar(1, 9, 1, 9, 1), bar(8, 7, 6, 6, 1)), api.ErrShape)
	wantNotJoined(t, several(bar(6, 7, 6, 8, 1), bar(1, 9, 1, 9, 1)), api.ErrShape)
}

func TestMoreBarsThanMayBe(t *testing.T) {
	for _, count := range []int{401, 402, 1000} {
		wantNotJoined(t, slices.Repeat(several(bar(5, 9, 2, 4, 7)), count), api.ErrFull)
	}
}

// That there are too many is told ahead of what is wrong with one of them.
func TestTooManyBarsIsToldFirst(t *testing.T) {
	wantNotJoined(t, make([]api.Bar, 401), api.ErrFull)
	wantNotJoined(t, make([]api.Bar, 400), api.ErrShape)
}
