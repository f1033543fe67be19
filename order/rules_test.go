package order_test

import (
	"math"
	"testing"

	"pitfloor/api"
	"pitfloor/order"
)

// The rules that hold everywhere (P1 to P3 of the document), asked of package order.

// answer of all calls on an order, a price and a text.
type answer struct {
	meets                              bool
	text                               string
	read                               api.Order
	check, meetsErr, printErr, readErr error
}

func ask(o api.Order, price int, text string) (a answer) {
	a.check = order.Check(o)
	a.meets, a.meetsErr = order.Meets(o, price)
	a.text, a.printErr = order.Print(o)
	a.read, a.readErr = order.Parse(text)
	return a
}

func TestNoCallPanicsAndAnswersHangOnArgumentsAlone(t *testing.T) {
	ends := []int{math.MinInt, math.MinInt + 1, -1, 0, 1, math.MaxInt - 1, math.MaxInt}
	for _, o := range append([]api.Order{{}}, good...) {
		for field := id; field <= stop; field++ {
			for _, n := range ends {
				odd := with(o, field, n)
				first := ask(odd, n, written[field].text)
				ask(good[0], 99, "7 3 sell")
				if again := ask(odd, n, written[field].text); again != first {
					t.Errorf("%+v: first %+v, then %+v", odd, first, again)
				}
			}
		}
	}
}
