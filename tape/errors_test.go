package tape_test

import (
	"math"
	"slices"
	"testing"

	"pitfloor/api"
)

// T1 of chapter 15: which errors are told, which first; all calls tell those of Check.

// outside is beyond what may be, from low to high.
func outside(low, high int) []int {
	return []int{math.MinInt, math.MinInt + 1, -high - 1, low - 1, high + 1, 1<<32 + low, math.MaxInt - 1, math.MaxInt}
}

func TestWhatIsNone(t *testing.T) {
	for _, what := range outside(1, 5) {
		for _, e := range each() {
			e.Trade = traded(7, 4, 99, 5).Trade
			e.Id, e.Qty, e.Price, e.What = 7, 5, 99, what
			wantRefused(t, told(e), api.ErrRange)
		}
	}
	wantRefused(t, told(api.Event{}), api.ErrRange)
}

func TestFieldsBeyondTheirBounds(t *testing.T) {
	for _, e := range each() {
		for number, bound := range bounds {
			if (e.What == api.Traded) != ofTrade(number) {
				continue
			}
			for _, n := range outside(bound[0], bound[1]) {
				odd := e
				*field(&odd, number) = n
				wantRefused(t, told(odd), api.ErrRange)
			}
		}
	}
}

// Wherever the event stands that has a fault, nothing is told of the others.
func TestAFaultAnywhere(t *testing.T) {
	good := each()
	for _, bad := range told(api.Event{}, rested(0, 1, 1), traded(1, 2, 0, 1), gone(1, -1, 1), woken(1, 1, 10001), sleeping(10000, 1, 1)) {
		for at := range len(good) + 1 {
			wantRefused(t, slices.Insert(slices.Clone(good), at, bad), api.ErrRange)
		}
	}
	l := slices.Repeat(told(traded(1, 2, 99, 1)), 400)
	l[399].Trade.Qty = 0
	wantRefused(t, l, api.ErrRange)
}

// All events count, not Trades alone.
func TestMoreEventsThanMayBe(t *testing.T) {
	for _, e := range each() {
		for _, count := range []int{401, 402, 1000} {
			wantRefused(t, slices.Repeat(told(e), count), api.ErrFull)
		}
	}
	wantRefused(t, append(slices.Repeat(told(traded(1, 2, 99, 1)), 400), rested(2, 1, 99)), api.ErrFull)
}

// That there are too many is told ahead of what is wrong with one of them.
func TestTooManyIsToldFirst(t *testing.T) {
	wantRefused(t, make([]api.Event, 401), api.ErrFull)
	wantRefused(t, make([]api.Event, 400), api.ErrRange)
	l := slices.Repeat(told(rested(1, 1, 1)), 401)
	l[0].Id = 0
	wantRefused(t, l, api.ErrFull)
}
