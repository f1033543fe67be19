package margin_test

import (
	"math"
	"slices"
	"testing"

	"pitfloor/api"
	"pitfloor/margin"
)

// The rules that hold everywhere (P1 to P4 of the document), asked of package margin.

// backOf one Trade alone.
func backOf(o api.Order, v api.Trade) (int, int, error) { return margin.Back(o, trades(v), 0) }

// No list that is handed in is written into, nor read or written behind its length.
func TestWhatIsHandedInStaysAsItWas(t *testing.T) {
	eachComing(99, 9, func(o api.Order) {
		l := trades(traded(o.Side, 99, 1), traded(o.Side, better(o.Side, 99, 2), 3), traded(o.Side, 0, 0), traded(o.Side, 99, 5))
		was := slices.Clone(l)
		for length := range l {
			clipped := answered(margin.Back(o, slices.Clip(slices.Clone(l[:length])), 2))
			if got := answered(margin.Back(o, l[:length], 2)); got != clipped {
				t.Errorf("%+v, %v: got %v, want %v", o, l[:length], got, clipped)
			}
			if !slices.Equal(l, was) {
				t.Fatalf("%+v: %v is now %v", o, was, l)
			}
		}
	})
}

// ends of numbers, next to all bounds.
var ends = []int{
	math.MinInt, math.MinInt + 1, -1 << 32, -1, 0, 1, 2, 3, 5, 6, 7, 8, 9, 10, 9999, 10000, 10001, 1<<32 + 1, math.MaxInt - 1, math.MaxInt,
}

// wellFormed is an answer in which nothing stands beside an error, and nothing is below 0.
func wellFormed(a answer) bool {
	if a.err != api.OK {
		return (a.err == api.ErrRange || a.err == api.ErrShape) && a.cash == 0 && a.stock == 0
	}
	return a.cash >= 0 && a.stock >= 0 && (a.cash == 0 || a.stock == 0)
}

// ask all calls with two numbers of any kind.
func ask(a, b int) (l []answer) {
	eachComing(99, 9, func(o api.Order) {
		for _, field := range []func(o *api.Order) *int{
			func(o *api.Order) *int { return &o.Id }, func(o *api.Order) *int { return &o.Who },
			func(o *api.Order) *int { return &o.Side }, func(o *api.Order) *int { return &o.Kind },
			func(o *api.Order) *int { return &o.Price }, func(o *api.Order) *int { return &o.Qty },
			func(o *api.Order) *int { return &o.Show }, func(o *api.Order) *int { return &o.Stop },
		} {
			odd := o
			*field(&odd) = a
			l = append(l, answered(margin.For(odd)), answered(margin.Back(odd, trades(traded(o.Side, b, 1)), 1)), answered(margin.Back(odd, nil, b)))
		}
		l = append(l, answered(margin.Back(o, trades(traded(o.Side, a, b)), 1)), answered(margin.Back(o, trades(api.Trade{Taker: a, Price: b, Qty: 1}), 1)))
	})
	return append(l, answered(margin.Left(rest(a, b, 4), 1, 99)), answered(margin.Left(rest(a, 2, b), 2, 99)), answered(margin.Left(rest(1, a, b), 1, 99)),
		answered(margin.Left(api.Rest{Id: a, Who: b, Qty: 1}, 1, 99)), answered(margin.Left(rest(1, 0, 0), a, b)))
}

func TestNoCallPanicsAndAnswersHangOnArgumentsAlone(t *testing.T) {
	for _, a := range ends {
		for _, b := range ends {
			first := ask(a, b)
			ask(b, a)
			if again := ask(a, b); !slices.Equal(again, first) {
				t.Errorf("%d, %d: first %v, then %v", a, b, first, again)
			}
			for i, got := range first {
				if !wellFormed(got) {
					t.Errorf("%d, %d: answer %d is %v", a, b, i, got)
				}
			}
		}
	}
}
