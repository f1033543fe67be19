package call_test

import (
	"math"
	"slices"
	"testing"

	"pitfloor/api"
)

// The rules that hold everywhere (P1 to P4 of the document), asked of package call.

// eachCall goes over calls of some shapes: of which nothing, a part or all is traded, or that are refused.
func eachCall(do func(l []api.Order)) {
	do(nil)
	do([]api.Order{})
	do(of(buy(1, 100, 5)))
	do(of(buy(1, 100, 5), sell(2, 101, 5)))
	do(of(buy(1, 100, 5), sell(2, 100, 5)))
	do(of(sell(1, 97, 9), buy(2, 100, 5), buy(3, 101, 2)))
	do(of(sell(1, 99, 2), buy(2, 100, 5), sell(3, 98, 1), buy(4, 102, 9), sell(5, 97, 4), buy(6, 100, 1)))
	do(slices.Concat(row(1, 30, api.Buy, 100, 3), row(31, 29, api.Sell, 99, 4)))
	do(slices.Concat(row(1, 25, api.Sell, 100, 7), row(26, 35, api.Buy, 103, 5)))
	do(row(1, 61, api.Buy, 100, 5))
	do(of(buy(1, 100, 5), sell(1, 100, 5)))
	do(of(buy(1, 100, 5), with(sell(2, 100, 5), 3, api.Now)))
	do(of(buy(1, 100, 5), with(sell(2, 100, 5), 5, 0)))
}

// roomy orders have others behind their length.
func roomy(l []api.Order) []api.Order {
	return slices.Concat(l, row(5001, 70, api.Sell, 1, 9), row(6001, 70, api.Buy, 10000, 9))[:len(l)]
}

// whole is a list with all that lies behind its length.
func whole(l []api.Order) []api.Order { return slices.Clone(l[:cap(l)]) }

// scribble over a list, and all that lies behind its length.
func scribble(l []api.Order) {
	l = l[:cap(l)]
	for i := range l {
		l[i] = api.Order{Id: -1, Side: -1, Qty: -1}
	}
}

func scribbleTrades(l []api.Trade) {
	l = l[:cap(l)]
	for i := range l {
		l[i] = api.Trade{Maker: -1}
	}
}

func TestWhatIsHandedInStaysAsItWas(t *testing.T) {
	eachCall(func(l []api.Order) {
		l = roomy(l)
		was := whole(l)
		volumeOf(l, 100)
		got := endOf(l)
		scribble(got.left)
		scribbleTrades(got.trades)
		if !slices.Equal(whole(l), was) {
			t.Errorf("%v: what was handed in is another one", l)
		}
	})
}

// What is handed in may be written over later: nothing of it is kept. Nor do two answers share memory.
func TestAnswersStayAsTheyWere(t *testing.T) {
	eachCall(func(l []api.Order) {
		want := endOf(l)
		odd := roomy(l)
		got, again := endOf(odd), endOf(odd)
		scribble(odd)
		scribble(again.left)
		scribbleTrades(again.trades)
		if !got.equal(want) {
			t.Errorf("%v: the answer %v is another one, %v", l, want, got)
		}
	})
}

func TestWhatLiesBehindAListIsNotRead(t *testing.T) {
	eachCall(func(l []api.Order) {
		odd := roomy(l)
		if got, want := endOf(odd), endOf(l); !got.equal(want) {
			t.Errorf("%v: got %v, but %v with others behind", l, want, got)
		}
		scribble(odd[len(odd):])
		if got, want := endOf(odd), endOf(l); !got.equal(want) {
			t.Errorf("%v: got %v, but %v with nonsense behind", l, want, got)
		}
		for _, price := range []int{1, 99, 100, 101, 10000} {
			if got, want := volumeOf(odd, price), volumeOf(l, price); got != want {
				t.Errorf("%v: got %v, but %v with nonsense behind", l, want, got)
			}
		}
	})
}

// oddCalls are calls that an odd number stands in.
func oddCalls(n int) (calls [][]api.Order) {
	eachCall(func(l []api.Order) {
		calls = append(calls, l)
		for at := range min(len(l), 3) {
			for number := range 8 {
				odd := slices.Clone(l)
				odd[at] = with(odd[at], number, n)
				calls = append(calls, odd)
			}
			odd := slices.Clone(l)
			odd[at] = api.Order{Id: n, Who: n, Side: n, Kind: n, Price: n, Qty: n, Show: n, Stop: n}
			calls = append(calls, odd)
		}
	})
	return calls
}

func TestNoCallPanicsAndAnswersHangOnArgumentsAlone(t *testing.T) {
	for _, n := range []int{math.MinInt, math.MinInt + 1, -1, 0, 1, 2, 3, 100, math.MaxInt - 1, math.MaxInt} {
		for _, l := range oddCalls(n) {
			first, firstVolume := endOf(l), volumeOf(l, n)
			endOf(of(sell(1, 97, 9), buy(2, 100, 5)))
			again, againVolume := endOf(l), volumeOf(l, n)
			if !again.equal(first) || againVolume != firstVolume {
				t.Errorf("%v, %d: first %v %v, then %v %v", l, n, first, firstVolume, again, againVolume)
			}
			wantWellFormed(t, l, first)
		}
	}
}

// wantWellFormed: with an error there is nothing else, and both calls tell the same one.
func wantWellFormed(t *testing.T, l []api.Order, a end) {
	t.Helper()
	if a.err != a.priceErr || a.err < api.OK {
		t.Errorf("%v: Price tells %v, Uncross %v", l, a.priceErr, a.err)
	}
	if a.err != api.OK && !a.equal(refused(a.err)) {
		t.Errorf("%v: beside an error stands %v", l, a)
	}
}
