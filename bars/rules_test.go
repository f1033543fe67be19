package bars_test

import (
	"math"
	"slices"
	"testing"

	"pitfloor/api"
	"pitfloor/bars"
	"pitfloor/plain"
)

// The rules that hold everywhere (P1 to P4 of the document), asked of package bars.

// No list that is handed in is written into, nor read or written behind its length.
func TestTradesStayAsTheyWere(t *testing.T) {
	l := append(day(), traded(97, 3), traded(104, 1), api.Trade{}, traded(0, 0))
	was := slices.Clone(l)
	for length := range l {
		for n := range 5 {
			clipped := ask(slices.Clip(slices.Clone(l[:length])), n)
			if got := ask(l[:length], n); !same(got, clipped) {
				t.Errorf("%v by %d: got %v, want %v", l[:length], n, got, clipped)
			}
			if !slices.Equal(l, was) {
				t.Fatalf("%v is now %v", was, l)
			}
		}
	}
}

func TestBarsStayAsTheyWere(t *testing.T) {
	l := several(bar(5, 9, 2, 4, 7), bar(3, 8, 3, 6, 2), bar(11, 13, 1, 12, 1), api.Bar{}, bar(9, 8, 7, 6, 0))
	was := slices.Clone(l)
	for length := range l {
		want, bad := bars.Join(slices.Clip(slices.Clone(l[:length])))
		if got, err := bars.Join(l[:length]); got != want || plain.Told(err) != plain.Told(bad) {
			t.Errorf("%v: got %v %v, want %v %v", l[:length], got, err, want, bad)
		}
		if !slices.Equal(l, was) {
			t.Fatalf("%v is now %v", was, l)
		}
	}
}

// What comes out is the caller's: that it is written into is not seen by a later call.
func TestBarsAreFresh(t *testing.T) {
	first, err := bars.Bars(day(), 3)
	if err != nil {
		t.Fatal(err)
	}
	for i := range first[:cap(first)] {
		first[:cap(first)][i] = bar(-1, -1, -1, -1, -1)
	}
	wantBars(t, day(), 3, bar(100, 103, 99, 99, 10), bar(101, 101, 98, 98, 9))
}

// ends of numbers, next to all bounds.
var ends = []int{
	math.MinInt, math.MinInt + 1, -1 << 32, -1, 0, 1, 2, 3, 400, 401, 9999, 10000, 10001, 4000000, 4000001, 1<<32 + 1, math.MaxInt - 1, math.MaxInt,
}

// wellFormed is an answer in which nothing stands beside an error, and Mean and Range tell the same one.
func wellFormed(a told) bool {
	if e := a.errs[1]; e != api.OK {
		return (e == api.ErrRange || e == api.ErrFull) && same(a, refused(e))
	}
	if e := a.errs[0]; e != api.OK && (e != api.ErrRange || len(a.bars) > 0) {
		return false
	}
	return a.errs[2] == api.OK && 1 <= a.low && a.low <= a.mean && a.mean <= a.high && a.high <= api.MaxPrice
}

func TestNoCallOfTradesPanicsAndAnswersHangOnArgumentsAlone(t *testing.T) {
	for _, price := range ends {
		for _, qty := range ends {
			for _, n := range ends {
				l := append(day(), traded(price, qty), traded(99, 3))
				first := ask(l, n)
				ask(trades(traded(qty, price)), n)
				if again := ask(l, n); !same(again, first) || !wellFormed(first) {
					t.Errorf("%v by %d: first %v, then %v", l, n, first, again)
				}
			}
		}
	}
}

// eachOdd goes over Bars of which some numbers are of any kind.
func eachOdd(do func(b api.Bar)) {
	for _, x := range ends {
		for _, y := range ends {
			for _, b := range several(
				bar(x, y, 2, 4, 7), bar(x, 9, y, 4, 7), bar(x, 9, 2, y, 7), bar(x, 9, 2, 4, y), bar(5, x, y, 4, 7), bar(5, x, 2, y, 7),
				bar(5, x, 2, 4, y), bar(5, 9, x, y, 7), bar(5, 9, x, 4, y), bar(5, 9, 2, x, y), bar(x, x, y, y, 7), bar(x, y, x, y, 7),
			) {
				do(b)
			}
		}
	}
}

func TestJoinNeverPanicsAndHangsOnItsArgumentAlone(t *testing.T) {
	eachOdd(func(b api.Bar) {
		l := several(bar(5, 9, 2, 4, 7), b)
		first, bad := bars.Join(l)
		bars.Join(several(b, b))
		again, err := bars.Join(l)
		if again != first || plain.Told(err) != plain.Told(bad) {
			t.Errorf("%v: first %v %v, then %v %v", l, first, bad, again, err)
		}
		if bad != nil && (first != (api.Bar{}) || plain.Told(bad) != api.ErrShape) {
			t.Errorf("%v: got %v %v", l, first, bad)
		}
	})
}
