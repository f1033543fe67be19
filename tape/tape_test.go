package tape_test

import (
	"slices"
	"testing"

	"pitfloor/api"
)

// T1 of chapter 15: what the calls tell of events with which nothing is wrong.

func TestNothingWasTold(t *testing.T) {
	for _, l := range [][]api.Event{nil, {}, told(traded(1, 2, 3, 4))[:0]} {
		wantGood(t, l...)
		wantBook(t, l)
		wantVolume(t, l, 0, 0)
		wantLast(t, l, 0)
		wantText(t, l, "")
	}
}

func TestEachEventMayBeTold(t *testing.T) {
	for _, e := range each() {
		wantGood(t, e)
	}
	wantGood(t, each()...)
}

// Of what a field asks the least and the greatest may be.
func TestFieldsAtTheirBounds(t *testing.T) {
	for _, e := range each() {
		for number, bound := range bounds {
			for _, n := range bound {
				odd := e
				*field(&odd, number) = n
				wantGood(t, odd)
				wantGood(t, rested(1, 1, 1), odd, traded(1, 2, 3, 4))
			}
		}
	}
	wantGood(t, rested(1, 0, 0), gone(9999, 10000, 10000), woken(1, 0, 0), sleeping(9999, 10000, 10000))
	wantGood(t, traded(1, 9999, 1, 10000), traded(9999, 1, 10000, 1))
}

// What an event does not tell is not asked: of Traded all but the Trade, of others the Trade.
func TestFieldsThatAreNotAsked(t *testing.T) {
	for _, e := range each() {
		for number, bound := range bounds {
			if (e.What == api.Traded) == ofTrade(number) {
				continue
			}
			for _, n := range outside(bound[0], bound[1]) {
				odd := e
				*field(&odd, number) = n
				if got, want := ask(told(rested(7, 9, 50), odd)), ask(told(rested(7, 9, 50), e)); !same(got, want) || got.errs != [5]api.Errno{} {
					t.Errorf("%+v: got %v, want %v", odd, got, want)
				}
			}
		}
	}
}

// Nothing more is asked of a Trade: not that it is of two orders, nor of two traders.
func TestATradeOfOneOrderAndOneTrader(t *testing.T) {
	e := traded(5, 5, 99, 2)
	e.Trade.From, e.Trade.To = 4, 4
	wantGood(t, e)
	wantBook(t, told(rested(5, 3, 99), e), [3]int{5, 1, 99})
}

func TestAsManyEventsAsMayBe(t *testing.T) {
	for _, e := range each() {
		wantGood(t, slices.Repeat(told(e), 399)...)
		wantGood(t, slices.Repeat(told(e), 400)...)
	}
	l := slices.Repeat(told(traded(1, 2, 99, 10000)), 400)
	wantVolume(t, l, 4000000, 400)
	wantBook(t, append(told(rested(1, 10000, 99)), l[1:]...))
}

func TestVolume(t *testing.T) {
	wantVolume(t, others(), 0, 0)
	wantVolume(t, told(traded(1, 2, 99, 7)), 7, 1)
	wantVolume(t, told(traded(1, 2, 99, 7), traded(1, 2, 99, 7)), 14, 2)
	wantVolume(t, told(rested(1, 3, 99), traded(1, 2, 99, 3), gone(2, 5, 99), woken(4, 6, 99), traded(3, 4, 98, 1), rested(4, 5, 98)), 4, 2)
}

func TestLast(t *testing.T) {
	wantLast(t, others(), 0)
	wantLast(t, told(traded(1, 2, 99, 7)), 99)
	wantLast(t, told(traded(1, 2, 99, 7), traded(1, 2, 98, 7)), 98)
	wantLast(t, told(traded(1, 2, 98, 1), traded(1, 2, 10000, 7)), 10000)
	wantLast(t, append(told(traded(1, 2, 99, 7), traded(3, 2, 42, 7)), others()...), 42)
	wantLast(t, append(others(), traded(1, 2, 1, 7)), 1)
}

func TestPrint(t *testing.T) {
	wantText(t, told(rested(7, 5, 99)), "rested 7 5 99\n")
	wantText(t, told(traded(7, 4, 99, 5)), "traded 7 4 5 99\n")
	wantText(t, told(gone(7, 5, 99)), "gone 7 5\n")
	wantText(t, told(woken(7, 5, 99)), "woken 7\n")
	wantText(t, told(sleeping(7, 5, 99)), "sleeping 7\n")
	l := told(sleeping(10, 2, 98), rested(9, 20, 100), traded(9, 11, 100, 3), gone(9, 17, 100), woken(10, 2, 100), rested(10, 2, 98))
	wantText(t, l, "sleeping 10\nrested 9 20 100\ntraded 9 11 3 100\ngone 9 17\nwoken 10\nrested 10 2 98\n")
}

func TestPrintAtTheBounds(t *testing.T) {
	wantText(t, told(rested(1, 0, 0), rested(9999, 10000, 10000)), "rested 1 0 0\nrested 9999 10000 10000\n")
	wantText(t, told(traded(1, 9999, 1, 10000), traded(9999, 1, 10000, 1)), "traded 1 9999 10000 1\ntraded 9999 1 1 10000\n")
	wantText(t, told(gone(1, 0, 0), gone(9999, 10000, 10000)), "gone 1 0\ngone 9999 10000\n")
	wantText(t, told(woken(1, 0, 0), sleeping(9999, 0, 0)), "woken 1\nsleeping 9999\n")
}
