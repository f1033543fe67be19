package bars_test

import (
	"math"
	"slices"
	"testing"

	"pitfloor/api"
)

// B1 of chapter 16: what the calls tell of trades and of Bars with which nothing is wrong.

// day of some trades.
func day() []api.Trade {
	return trades(traded(100, 5), traded(103, 1), traded(99, 4), traded(101, 2), traded(98, 7))
}

func TestBars(t *testing.T) {
	wantBars(t, day(), 1, bar(100, 100, 100, 100, 5), bar(103, 103, 103, 103, 1), bar(99, 99, 99, 99, 4), bar(101, 101, 101, 101, 2), bar(98, 98, 98, 98, 7))
	wantBars(t, day(), 2, bar(100, 103, 100, 103, 6), bar(99, 101, 99, 101, 6), bar(98, 98, 98, 98, 7))
	wantBars(t, day(), 3, bar(100, 103, 99, 99, 10), bar(101, 101, 98, 98, 9))
	wantBars(t, day(), 4, bar(100, 103, 99, 101, 12), bar(98, 98, 98, 98, 7))
	for _, n := range []int{5, 6, 399, 400} {
		wantBars(t, day(), n, bar(100, 103, 98, 98, 19))
	}
}

func TestBarsOfNoTrades(t *testing.T) {
	for _, l := range [][]api.Trade{nil, {}, day()[:0]} {
		for _, n := range []int{1, 2, 400} {
			wantBars(t, l, n)
		}
	}
}

func TestBarsOfAsManyTradesAsMayBe(t *testing.T) {
	l := slices.Repeat(trades(traded(10000, 10000)), 400)
	wantBars(t, l, 400, bar(10000, 10000, 10000, 10000, 4000000))
	wantBars(t, l, 399, bar(10000, 10000, 10000, 10000, 3990000), bar(10000, 10000, 10000, 10000, 10000))
	wantBars(t, l, 200, slices.Repeat(several(bar(10000, 10000, 10000, 10000, 2000000)), 2)...)
	wantBars(t, l, 1, slices.Repeat(several(bar(10000, 10000, 10000, 10000, 10000)), 400)...)
	wantGood(t, l[1:]...)
}

func TestNumbersAtTheirBounds(t *testing.T) {
	for _, price := range []int{1, 10000} {
		for _, qty := range []int{1, 10000} {
			l := trades(traded(price, qty))
			wantBars(t, l, 1, bar(price, price, price, price, qty))
			wantMean(t, l, price)
			wantRange(t, l, price, price)
		}
	}
}

// Of a Trade its Price and its Qty alone are asked.
func TestOrdersAndTradersAreNotAsked(t *testing.T) {
	for _, n := range []int{math.MinInt, -1, 0, 10, 10000, math.MaxInt} {
		for _, odd := range trades(api.Trade{Maker: n}, api.Trade{Taker: n}, api.Trade{From: n}, api.Trade{To: n}, api.Trade{Maker: n, Taker: n, From: n, To: n}) {
			odd.Price, odd.Qty = 99, 5
			if got, want := ask(trades(odd, traded(98, 2)), 2), ask(trades(traded(99, 5), traded(98, 2)), 2); !same(got, want) || got.errs != [3]api.Errno{} {
				t.Errorf("%+v: got %v, want %v", odd, got, want)
			}
		}
	}
}

func TestMean(t *testing.T) {
	wantMean(t, trades(traded(100, 5)), 100)
	wantMean(t, day(), 99) // 1887 by 19
	wantMean(t, trades(traded(100, 1), traded(101, 1)), 100)
	wantMean(t, trades(traded(100, 1), traded(103, 2)), 102)
	wantMean(t, trades(traded(100, 1), traded(103, 2), traded(102, 1)), 102)
	wantMean(t, trades(traded(1, 10000), traded(10000, 1)), 1) // 20000 by 10001
	wantMean(t, trades(traded(1, 9998), traded(10000, 1)), 2)  // 19998 by 9999
	wantMean(t, trades(traded(1, 1), traded(10000, 10000)), 9999)
	wantMean(t, slices.Repeat(trades(traded(10000, 10000)), 400), 10000)
	wantMean(t, append(slices.Repeat(trades(traded(10000, 10000)), 399), traded(9999, 1)), 9999)
}

func TestRange(t *testing.T) {
	wantRange(t, day(), 98, 103)
	wantRange(t, trades(traded(5, 1), traded(5, 9)), 5, 5)
	wantRange(t, trades(traded(5, 1), traded(6, 1), traded(7, 1)), 5, 7)
	wantRange(t, trades(traded(7, 1), traded(6, 1), traded(5, 1)), 5, 7)
	wantRange(t, trades(traded(6, 1), traded(7, 1), traded(5, 1), traded(6, 1)), 5, 7)
	wantRange(t, trades(traded(10000, 1), traded(1, 1)), 1, 10000)
}

func TestJoin(t *testing.T) {
	one := bar(5, 9, 2, 4, 7)
	wantJoined(t, several(one), one)
	wantJoined(t, several(one, bar(3, 8, 3, 6, 2)), bar(5, 9, 2, 6, 9))
	wantJoined(t, several(bar(3, 8, 3, 6, 2), one), bar(3, 9, 2, 4, 9))
	wantJoined(t, several(one, bar(11, 13, 10, 12, 1), bar(1, 6, 1, 6, 3)), bar(5, 13, 1, 6, 11))
	wantJoined(t, several(one, one, one), bar(5, 9, 2, 4, 21))
}

// A Bar of one price, and those whose Open and Close are its Low or High.
func TestBarsAtTheirBounds(t *testing.T) {
	for _, b := range several(bar(1, 1, 1, 1, 1), bar(4, 9, 4, 9, 1), bar(9, 9, 4, 4, 1), bar(4, 9, 4, 4, 1), bar(9, 9, 4, 9, 1), bar(6, 9, 4, 7, 4000000)) {
		wantJoined(t, several(b), b)
	}
}

// No greatest price is named for a Bar.
func TestPricesOfABarHaveNoUpperBound(t *testing.T) {
	for _, price := range []int{10000, 10001, 1 << 32, math.MaxInt} {
		wantJoined(t, several(bar(1, price, 1, price, 1), bar(2, 2, 2, 2, 1)), bar(1, price, 1, 2, 2))
		wantJoined(t, several(bar(2, 2, 2, 2, 1), bar(price, price, price, price, 1)), bar(2, price, 2, price, 2))
	}
}

// What is joined may have more than one Bar may.
func TestAsManyBarsAsMayBe(t *testing.T) {
	full := bar(6, 9, 4, 7, 4000000)
	wantJoined(t, several(full, full), bar(6, 9, 4, 7, 8000000))
	wantJoined(t, slices.Repeat(several(full), 399), bar(6, 9, 4, 7, 1596000000))
	wantJoined(t, slices.Repeat(several(full), 400), bar(6, 9, 4, 7, 1600000000))
}
