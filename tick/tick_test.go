package tick_test

import (
	"math"
	"testing"

	"pitfloor/api"
	"pitfloor/plain"
	"pitfloor/tick"
)

// Numbers that are no price, no tick, no part, no side.
var (
	noPrices = []int{math.MinInt, math.MinInt + 1, -api.MaxPrice, -1, 0, api.MaxPrice + 1, math.MaxInt - 1, math.MaxInt}
	noTicks  = []int{math.MinInt, math.MinInt + 1, -100, -1, 0, 101, math.MaxInt - 1, math.MaxInt}
	noParts  = []int{math.MinInt, math.MinInt + 1, -100, -1, 101, math.MaxInt - 1, math.MaxInt}
	noSides  = []int{math.MinInt, math.MinInt + 1, -2, -1, 0, 3, math.MaxInt - 1, math.MaxInt}
)

func wantNumber(t *testing.T, call string, got int, err error, want int, told api.Errno) {
	t.Helper()
	if got != want || plain.Told(err) != told {
		t.Errorf("%s: got %d %v, want %d %v", call, got, plain.Told(err), want, told)
	}
}

func wantTruth(t *testing.T, call string, got bool, err error, want bool, told api.Errno) {
	t.Helper()
	if got != want || plain.Told(err) != told {
		t.Errorf("%s: got %v %v, want %v %v", call, got, plain.Told(err), want, told)
	}
}

func TestPriceTakesAllFromOneToMax(t *testing.T) {
	for p := 1; p <= api.MaxPrice; p++ {
		if err := tick.Price(p); err != nil {
			t.Fatalf("Price(%d): %v", p, err)
		}
	}
}

func TestPriceRefusesOthers(t *testing.T) {
	for _, p := range noPrices {
		if got := plain.Told(tick.Price(p)); got != api.ErrRange {
			t.Errorf("Price(%d): got %v", p, got)
		}
	}
}

func TestOn(t *testing.T) {
	for _, c := range []struct {
		p, tick int
		want    bool
	}{
		{1, 1, true}, {1, 2, false}, {1, 100, false},
		{api.MaxPrice, 1, true}, {api.MaxPrice, 100, true}, {api.MaxPrice, 3, false}, {api.MaxPrice - 1, 3, true},
		{99, 100, false}, {100, 100, true}, {101, 100, false}, {150, 100, false}, {200, 100, true},
		{35, 5, true}, {36, 5, false}, {34, 5, false},
	} {
		got, err := tick.On(c.p, c.tick)
		wantTruth(t, call("On", c.p, c.tick), got, err, c.want, api.OK)
	}
}

// Multiples are counted up here, not divided out, so that the two ways check each other.
func TestOnAtEveryPriceAndTick(t *testing.T) {
	for n := 1; n <= 100; n++ {
		next := n
		for p := 1; p <= api.MaxPrice; p++ {
			want := p == next
			if want {
				next += n
			}
			if got, err := tick.On(p, n); got != want || err != nil {
				t.Fatalf("On(%d, %d): got %v %v, want %v", p, n, got, err, want)
			}
		}
	}
}

func TestOnRefuses(t *testing.T) {
	for _, p := range noPrices {
		for _, n := range append([]int{1, 100}, noTicks...) {
			got, err := tick.On(p, n)
			wantTruth(t, call("On", p, n), got, err, false, api.ErrRange)
		}
	}
	for _, n := range noTicks {
		for _, p := range []int{1, 100, api.MaxPrice} {
			got, err := tick.On(p, n)
			wantTruth(t, call("On", p, n), got, err, false, api.ErrRange)
		}
	}
}

func TestRound(t *testing.T) {
	for _, c := range []struct {
		p, tick, side, want int
	}{
		{102, 8, api.Buy, 96}, {102, 8, api.Sell, 104},
		{104, 8, api.Buy, 104}, {104, 8, api.Sell, 104},
		{103, 8, api.Buy, 96}, {97, 8, api.Sell, 104},
		{1, 1, api.Buy, 1}, {1, 1, api.Sell, 1},
		{1, 2, api.Sell, 2}, {1, 100, api.Sell, 100},
		{api.MaxPrice, 1, api.Buy, api.MaxPrice}, {api.MaxPrice, 1, api.Sell, api.MaxPrice},
		{api.MaxPrice, 100, api.Buy, api.MaxPrice}, {api.MaxPrice, 100, api.Sell, api.MaxPrice},
		{api.MaxPrice - 1, 100, api.Buy, 9900}, {api.MaxPrice - 1, 100, api.Sell, api.MaxPrice},
		{api.MaxPrice, 3, api.Buy, 9999}, {9999, 3, api.Sell, 9999},
		{100, 100, api.Buy, 100}, {101, 100, api.Buy, 100}, {101, 100, api.Sell, 200},
	} {
		got, err := tick.Round(c.p, c.tick, c.side)
		wantNumber(t, call("Round", c.p, c.tick, c.side), got, err, c.want, api.OK)
	}
}

func TestRoundToNone(t *testing.T) {
	for _, c := range []struct {
		p, tick, side int
	}{
		{1, 2, api.Buy}, {1, 100, api.Buy}, {99, 100, api.Buy}, {4, 5, api.Buy},
		{api.MaxPrice, 3, api.Sell}, {api.MaxPrice, 99, api.Sell}, {9997, 98, api.Sell}, {9998, 7, api.Sell},
	} {
		got, err := tick.Round(c.p, c.tick, c.side)
		wantNumber(t, call("Round", c.p, c.tick, c.side), got, err, 0, api.ErrRange)
	}
}

// lastAndNext tells for each price the prices on a tick that are not above and not below it, 0 of none.
func lastAndNext(n int) (last, next [api.MaxPrice + 1]int) {
	for p := 1; p <= api.MaxPrice; p++ {
		last[p] = last[p-1]
		if last[p-1]+n == p {
			last[p] = p
		}
	}
	for p := api.MaxPrice; p >= 1; p-- {
		if last[p] == p {
			next[p] = p
		} else if p < api.MaxPrice {
			next[p] = next[p+1]
		}
	}
	return last, next
}

func TestRoundAtEveryPriceAndTick(t *testing.T) {
	for n := 1; n <= 100; n++ {
		last, next := lastAndNext(n)
		for p := 1; p <= api.MaxPrice; p++ {
			for _, side := range []int{api.Buy, api.Sell} {
				want := last[p]
				if side == api.Sell {
					want = next[p]
				}
				told := api.OK
				if want == 0 {
					told = api.ErrRange
				}
				if got, err := tick.Round(p, n, side); got != want || plain.Told(err) != told {
					t.Fatalf("Round(%d, %d, %d): got %d %v, want %d %v", p, n, side, got, err, want, told)
				}
			}
		}
	}
}

func TestRoundRefuses(t *testing.T) {
	prices := append([]int{1, 100, api.MaxPrice}, noPrices...)
	ticks := append([]int{1, 100}, noTicks...)
	sides := append([]int{api.Buy, api.Sell}, noSides...)
	for i, p := range prices {
		for j, n := range ticks {
			for k, side := range sides {
				if i < 3 && j < 2 && k < 2 {
					continue
				}
				got, err := tick.Round(p, n, side)
				wantNumber(t, call("Round", p, n, side), got, err, 0, api.ErrRange)
			}
		}
	}
}

func TestBand(t *testing.T) {
	for _, c := range []struct {
		p, ref, parts int
		want          bool
	}{
		{100, 100, 0, true}, {101, 100, 0, false}, {99, 100, 0, false},
		{105, 100, 5, true}, {106, 100, 5, false}, {95, 100, 5, true}, {94, 100, 5, false},
		// Hundredths are of ref, not of p.
		{100, 105, 4, false}, {105, 100, 4, false}, {96, 100, 4, true}, {100, 96, 4, false}, {104, 100, 4, true}, {100, 104, 4, true},
		// Nothing is rounded: 1 in 99 is more than one hundredth, 1 in 101 is less.
		{98, 99, 1, false}, {100, 99, 1, false}, {100, 101, 1, true}, {102, 101, 1, true}, {103, 101, 1, false},
		{1, 1, 0, true}, {1, 1, 100, true}, {2, 1, 100, true}, {2, 1, 99, false}, {3, 1, 100, false},
		{1, api.MaxPrice, 100, true}, {1, api.MaxPrice, 99, false}, {100, api.MaxPrice, 99, true}, {99, api.MaxPrice, 99, false},
		{api.MaxPrice, 1, 100, false}, {api.MaxPrice, 5000, 100, true}, {api.MaxPrice, 4999, 100, false},
		{api.MaxPrice, api.MaxPrice, 0, true}, {api.MaxPrice - 1, api.MaxPrice, 0, false},
	} {
		got, err := tick.Band(c.p, c.ref, c.parts)
		wantTruth(t, call("Band", c.p, c.ref, c.parts), got, err, c.want, api.OK)
	}
}

// The widest difference is counted up here till it is too wide; within it all is in the band, past it nothing.
func TestBandAtItsEdges(t *testing.T) {
	for ref := 1; ref <= api.MaxPrice; ref += 7 {
		wide := 0
		for parts := 0; parts <= 100; parts++ {
			for 100*(wide+1) <= parts*ref {
				wide++
			}
			for _, apart := range []int{0, wide - 1, wide, wide + 1, wide + 2} {
				for _, p := range []int{ref - apart, ref + apart} {
					if apart < 0 || p < 1 || p > api.MaxPrice {
						continue
					}
					if got, err := tick.Band(p, ref, parts); got != (apart <= wide) || err != nil {
						t.Fatalf("Band(%d, %d, %d): got %v %v", p, ref, parts, got, err)
					}
				}
			}
		}
	}
}

func TestBandRefuses(t *testing.T) {
	prices := append([]int{1, 100, api.MaxPrice}, noPrices...)
	parts := append([]int{0, 100}, noParts...)
	for i, p := range prices {
		for j, ref := range prices {
			for k, n := range parts {
				if i < 3 && j < 3 && k < 2 {
					continue
				}
				got, err := tick.Band(p, ref, n)
				wantTruth(t, call("Band", p, ref, n), got, err, false, api.ErrRange)
			}
		}
	}
}

func TestBetter(t *testing.T) {
	for _, c := range []struct {
		side, a, b int
		want       bool
	}{
		{api.Buy, 99, 100, true}, {api.Buy, 100, 99, false}, {api.Buy, 100, 100, false},
		{api.Sell, 99, 100, false}, {api.Sell, 100, 99, true}, {api.Sell, 100, 100, false},
		{api.Buy, 1, api.MaxPrice, true}, {api.Buy, api.MaxPrice, 1, false},
		{api.Sell, 1, api.MaxPrice, false}, {api.Sell, api.MaxPrice, 1, true},
		{api.Buy, 1, 1, false}, {api.Sell, 1, 1, false},
		{api.Buy, api.MaxPrice, api.MaxPrice, false}, {api.Sell, api.MaxPrice, api.MaxPrice, false},
		{api.Buy, 9, 10, true}, {api.Sell, 10, 9, true},
	} {
		got, err := tick.Better(c.side, c.a, c.b)
		wantTruth(t, call("Better", c.side, c.a, c.b), got, err, c.want, api.OK)
	}
}

func TestBetterRefuses(t *testing.T) {
	prices := append([]int{1, 100, api.MaxPrice}, noPrices...)
	sides := append([]int{api.Buy, api.Sell}, noSides...)
	for i, side := range sides {
		for j, a := range prices {
			for k, b := range prices {
				if i < 2 && j < 3 && k < 3 {
					continue
				}
				got, err := tick.Better(side, a, b)
				wantTruth(t, call("Better", side, a, b), got, err, false, api.ErrRange)
			}
		}
	}
}
