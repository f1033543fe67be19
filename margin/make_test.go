package margin_test

import (
	"testing"

	"pitfloor/api"
	"pitfloor/margin"
	"pitfloor/plain"
)

// What the tests of package margin are made of.

const (
	taker    = 7 // the order that came, and its trader
	takerWho = 3
)

// kinds of orders, all there are.
var kindsOf = []int{api.Limit, api.Market, api.Now, api.Whole, api.Post}

// comes is an order that came; of Market its price is left out.
func comes(side, kind, price, qty int) api.Order {
	if kind == api.Market {
		price = 0
	}
	return api.Order{Id: taker, Who: takerWho, Side: side, Kind: kind, Price: price, Qty: qty}
}

// traded is a Trade that the order which came has made, from a side.
func traded(side, price, qty int) api.Trade {
	t := api.Trade{Maker: 4, Taker: taker, From: 1, To: takerWho, Price: price, Qty: qty}
	if side == api.Sell {
		t.From, t.To = t.To, t.From
	}
	return t
}

func trades(l ...api.Trade) []api.Trade { return l }

func rest(qty, hidden, show int) api.Rest {
	return api.Rest{Id: 8, Who: 2, Qty: qty, Hidden: hidden, Show: show}
}

// better is a price by so much better than another one, for who comes from a side.
func better(side, price, by int) int {
	if side == api.Buy {
		return price - by
	}
	return price + by
}

func eachSide(do func(side int)) {
	do(api.Buy)
	do(api.Sell)
}

func eachComing(price, qty int, do func(o api.Order)) {
	eachSide(func(side int) {
		for _, kind := range kindsOf {
			do(comes(side, kind, price, qty))
		}
	})
}

// answer of any call.
type answer struct {
	cash, stock int
	err         api.Errno
}

func cash(n int) answer { return answer{cash: n} }

func stock(n int) answer { return answer{stock: n} }

func refused(e api.Errno) answer { return answer{err: e} }

func answered(cash, stock int, err error) answer { return answer{cash, stock, plain.Told(err)} }

func wantFor(t *testing.T, o api.Order, want answer) {
	t.Helper()
	if got := answered(margin.For(o)); got != want {
		t.Errorf("For(%+v): got %v, want %v", o, got, want)
	}
}

func wantLeft(t *testing.T, r api.Rest, side, price int, want answer) {
	t.Helper()
	if got := answered(margin.Left(r, side, price)); got != want {
		t.Errorf("Left(%+v, %d, %d): got %v, want %v", r, side, price, got, want)
	}
}

func wantBack(t *testing.T, o api.Order, l []api.Trade, gone int, want answer) {
	t.Helper()
	if got := answered(margin.Back(o, l, gone)); got != want {
		t.Errorf("Back(%+v, %v, %d): got %v, want %v", o, l, gone, got, want)
	}
}
