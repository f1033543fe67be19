package call_test

import (
	"slices"
	"testing"

	"pitfloor/api"
	"pitfloor/call"
	"pitfloor/plain"
)

// What the tests of package call are made of.

// wants is an order that may come to a call.
func wants(id, side, price, qty int) api.Order {
	return api.Order{Id: id, Who: id%9 + 1, Side: side, Kind: api.Limit, Price: price, Qty: qty}
}

func buy(id, price, qty int) api.Order { return wants(id, api.Buy, price, qty) }

func sell(id, price, qty int) api.Order { return wants(id, api.Sell, price, qty) }

func of(l ...api.Order) []api.Order { return l }

// row of so many orders alike, with Ids from one on.
func row(id, count, side, price, qty int) (l []api.Order) {
	for i := range count {
		l = append(l, wants(id+i, side, price, qty))
	}
	return l
}

// field of an order, by its number: Id, Who, Side, Kind, Price, Qty, Show, Stop.
func field(o *api.Order, number int) *int {
	return []*int{&o.Id, &o.Who, &o.Side, &o.Kind, &o.Price, &o.Qty, &o.Show, &o.Stop}[number]
}

// with another number in a field of an order.
func with(o api.Order, number, n int) api.Order {
	*field(&o, number) = n
	return o
}

// traded is a Trade between two orders.
func traded(buys, sells api.Order, price, qty int) api.Trade {
	return api.Trade{Maker: sells.Id, Taker: buys.Id, From: sells.Who, To: buys.Who, Price: price, Qty: qty}
}

// volume is what Volume answers.
type volume struct {
	qty, over int
	err       api.Errno
}

func volumeOf(l []api.Order, price int) (a volume) {
	qty, over, err := call.Volume(l, price)
	return volume{qty, over, plain.Told(err)}
}

func wantVolume(t *testing.T, l []api.Order, price, qty, over int) {
	t.Helper()
	if got, want := volumeOf(l, price), (volume{qty: qty, over: over}); got != want {
		t.Errorf("Volume(%v, %d): got %v, want %v", l, price, got, want)
	}
}

// end of a call: what Price, and what Uncross answers.
type end struct {
	price, qty int
	priceErr   api.Errno
	at         int
	trades     []api.Trade
	left       []api.Order
	err        api.Errno
}

func (a end) equal(b end) bool {
	return a.price == b.price && a.qty == b.qty && a.priceErr == b.priceErr && a.at == b.at && a.err == b.err &&
		slices.Equal(a.trades, b.trades) && slices.Equal(a.left, b.left)
}

func endOf(l []api.Order) (a end) {
	price, qty, err := call.Price(l)
	a.price, a.qty, a.priceErr = price, qty, plain.Told(err)
	a.at, a.trades, a.left, err = call.Uncross(l)
	a.err = plain.Told(err)
	return a
}

// refused is the end of a call that has none but an error.
func refused(err api.Errno) end { return end{priceErr: err, err: err} }

func wantEnd(t *testing.T, l []api.Order, want end) {
	t.Helper()
	if got := endOf(l); !got.equal(want) {
		t.Errorf("of %v: got %v, want %v", l, got, want)
	}
}

// wantPrice is what Price answers, and the price at which Uncross trades so much.
func wantPrice(t *testing.T, l []api.Order, price, qty int) {
	t.Helper()
	got, sum := endOf(l), 0
	for _, v := range got.trades {
		sum += v.Qty
	}
	if got.price != price || got.qty != qty || got.priceErr != api.OK || got.at != price || sum != qty || got.err != api.OK {
		t.Errorf("of %v: got %v, want %d of %d", l, got, price, qty)
	}
}

// wantUncross is what both answer where nothing is wrong.
func wantUncross(t *testing.T, l []api.Order, price int, trades []api.Trade, left ...api.Order) {
	t.Helper()
	sum := 0
	for _, v := range trades {
		sum += v.Qty
	}
	wantEnd(t, l, end{price: price, qty: sum, at: price, trades: trades, left: left})
}

// wantNone: nothing could be traded at any price.
func wantNone(t *testing.T, l []api.Order) {
	t.Helper()
	wantEnd(t, l, refused(api.ErrNone))
}
