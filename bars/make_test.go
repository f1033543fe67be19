package bars_test

import (
	"slices"
	"testing"

	"pitfloor/api"
	"pitfloor/bars"
	"pitfloor/plain"
)

// What the tests of package bars are made of.

func traded(price, qty int) api.Trade {
	return api.Trade{Maker: 7, Taker: 4, From: 3, To: 8, Price: price, Qty: qty}
}

func trades(l ...api.Trade) []api.Trade { return l }

func bar(open, high, low, last, qty int) api.Bar {
	return api.Bar{Open: open, High: high, Low: low, Close: last, Qty: qty}
}

func several(l ...api.Bar) []api.Bar { return l }

// told of trades by all calls but Join.
type told struct {
	bars      []api.Bar
	mean      int
	low, high int
	errs      [3]api.Errno // of Bars, Mean, Range
}

func ask(l []api.Trade, n int) (a told) {
	var bad [3]error
	a.bars, bad[0] = bars.Bars(l, n)
	a.mean, bad[1] = bars.Mean(l)
	a.low, a.high, bad[2] = bars.Range(l)
	for i, err := range bad {
		a.errs[i] = plain.Told(err)
	}
	return a
}

func same(a, b told) bool {
	return slices.Equal(a.bars, b.bars) && a.mean == b.mean && a.low == b.low && a.high == b.high && a.errs == b.errs
}

func refused(e api.Errno) told { return told{errs: [3]api.Errno{e, e, e}} }

func wantRefused(t *testing.T, l []api.Trade, n int, want api.Errno) {
	t.Helper()
	if got := ask(l, n); !same(got, refused(want)) {
		t.Errorf("%v by %d: got %v, want %v", l, n, got, want)
	}
}

func wantGood(t *testing.T, l ...api.Trade) {
	t.Helper()
	for _, n := range []int{1, 2, 399, 400} {
		if got := ask(l, n); got.errs != [3]api.Errno{} {
			t.Errorf("%v by %d: got %v", l, n, got.errs)
		}
	}
}

func wantBars(t *testing.T, l []api.Trade, n int, want ...api.Bar) {
	t.Helper()
	if got, err := bars.Bars(l, n); err != nil || !slices.Equal(got, want) {
		t.Errorf("Bars(%v, %d): got %v %v, want %v", l, n, got, err, want)
	}
}

func wantNoBars(t *testing.T, l []api.Trade, n int, want api.Errno) {
	t.Helper()
	if got, err := bars.Bars(l, n); len(got) > 0 || plain.Told(err) != want {
		t.Errorf("Bars(%v, %d): got %v %v, want %v", l, n, got, err, want)
	}
}

func wantMean(t *testing.T, l []api.Trade, want int) {
	t.Helper()
	if got, err := bars.Mean(l); err != nil || got != want {
		t.Errorf("Mean(%v): got %d %v, want %d", l, got, err, want)
	}
}

func wantRange(t *testing.T, l []api.Trade, low, high int) {
	t.Helper()
	if least, most, err := bars.Range(l); err != nil || least != low || most != high {
		t.Errorf("Range(%v): got %d %d %v, want %d %d", l, least, most, err, low, high)
	}
}

func wantJoined(t *testing.T, l []api.Bar, want api.Bar) {
	t.Helper()
	if got, err := bars.Join(l); err != nil || got != want {
		t.Errorf("Join(%v): got %v %v, want %v", l, got, err, want)
	}
}

func wantNotJoined(t *testing.T, l []api.Bar, want api.Errno) {
	t.Helper()
	if got, err := bars.Join(l); got != (api.Bar{}) || plain.Told(err) != want {
		t.Errorf("Join(%v): got %v %v, want %v", l, got, err, want)
	}
}
