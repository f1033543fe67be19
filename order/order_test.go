package order_test

import (
	"fmt"
	"math"
	"testing"

	"pitfloor/api"
	"pitfloor/order"
	"pitfloor/plain"
)

// O1: Check and Meets.

// The fields of an order, in the order in which Check asks for them.
const (
	id = iota
	who
	side
	kind
	price
	qty
	show
	stop
)

// with gives an order with another number in one of its fields.
func with(o api.Order, field, n int) api.Order {
	*[]*int{&o.Id, &o.Who, &o.Side, &o.Kind, &o.Price, &o.Qty, &o.Show, &o.Stop}[field] = n
	return o
}

// good orders, one of each kind: nothing is wrong with any of them.
var good = []api.Order{
	{Id: 7, Who: 3, Side: api.Sell, Kind: api.Limit, Price: 99, Qty: 9, Show: 4, Stop: 100},
	{Id: 7, Who: 3, Side: api.Buy, Kind: api.Market, Qty: 9, Stop: 100},
	{Id: 7, Who: 3, Side: api.Sell, Kind: api.Now, Price: 99, Qty: 9, Stop: 100},
	{Id: 7, Who: 3, Side: api.Buy, Kind: api.Whole, Price: 99, Qty: 9, Stop: 100},
	{Id: 7, Who: 3, Side: api.Buy, Kind: api.Post, Price: 99, Qty: 9, Show: 4, Stop: 100},
}

func wantCheck(t *testing.T, o api.Order, want api.Errno) {
	t.Helper()
	if got := plain.Told(order.Check(o)); got != want {
		t.Errorf("Check(%+v): got %v, want %v", o, got, want)
	}
}

func TestCheckTakesGoodOrders(t *testing.T) {
	for _, o := range good {
		wantCheck(t, o, api.OK)
	}
}

func TestCheckAtTheBounds(t *testing.T) {
	bounds := []struct{ field, low, high int }{
		{id, 1, 9999}, {who, 1, 9}, {side, 1, 2}, {kind, 1, 5}, {price, 1, 10000}, {qty, 1, 10000}, {stop, 0, 10000},
	}
	plainLimit := api.Order{Id: 7, Who: 3, Side: api.Buy, Kind: api.Limit, Price: 99, Qty: 9}
	for _, b := range bounds {
		// Market wants another price than the other kinds: it is asked by itself.
		for _, n := range []int{b.low, b.low + 1, b.high - 1, b.high} {
			if b.field != kind || n != api.Market {
				wantCheck(t, with(plainLimit, b.field, n), api.OK)
			}
		}
		for _, n := range []int{math.MinInt, -1, b.low - 1, b.high + 1, 1<<32 + b.low, math.MaxInt} {
			wantCheck(t, with(plainLimit, b.field, n), api.ErrRange)
		}
	}
}

func TestCheckAllKinds(t *testing.T) {
	for n := -2; n <= 8; n++ {
		want := api.OK
		if n < 1 || n > 5 {
			want = api.ErrRange
		}
		o := api.Order{Id: 1, Who: 1, Side: api.Sell, Kind: n, Price: 5, Qty: 1}
		if n == api.Market {
			o.Price = 0
		}
		wantCheck(t, o, want)
	}
}

func TestCheckPriceOfMarketIsZero(t *testing.T) {
	market := good[1]
	for _, p := range []int{math.MinInt, -1, 1, 99, 10000, 10001, math.MaxInt} {
		wantCheck(t, with(market, price, p), api.ErrRange)
	}
	wantCheck(t, with(market, price, 0), api.OK)
}

func TestCheckPriceOfOthersIsAPrice(t *testing.T) {
	for _, o := range good {
		if o.Kind == api.Market {
			continue
		}
		for _, p := range []int{math.MinInt, -1, 0, 10001, math.MaxInt} {
			wantCheck(t, with(o, price, p), api.ErrRange)
		}
		wantCheck(t, with(o, price, 1), api.OK)
		wantCheck(t, with(o, price, 10000), api.OK)
	}
}

func TestCheckShowIsNotBelowZeroNorAboveQty(t *testing.T) {
	for _, q := range []int{1, 2, 9, 10000} {
		for _, k := range []int{api.Limit, api.Post} {
			o := api.Order{Id: 7, Who: 3, Side: api.Buy, Kind: k, Price: 99, Qty: q}
			for _, n := range []int{0, 1, q - 1, q} {
				wantCheck(t, with(o, show, n), api.OK)
			}
			for _, n := range []int{math.MinInt, -1, q + 1, 10001, math.MaxInt} {
				wantCheck(t, with(o, show, n), api.ErrRange)
			}
		}
	}
}

func TestCheckShowIsOfLimitAndPostAlone(t *testing.T) {
	for _, o := range good {
		want := api.ErrShape
		if o.Kind == api.Limit || o.Kind == api.Post {
			want = api.OK
		}
		wantCheck(t, with(o, show, 0), api.OK)
		for _, n := range []int{1, o.Qty} {
			wantCheck(t, with(o, show, n), want)
		}
	}
}

func TestMayRestIsOfLimitAndPostAlone(t *testing.T) {
	for _, kind := range []int{math.MinInt, -1, 0, 1, 2, 3, 4, 5, 6, math.MaxInt} {
		want := kind == api.Limit || kind == api.Post
		if got := order.MayRest(kind); got != want {
			t.Errorf("MayRest(%d): got %v, want %v", kind, got, want)
		}
	}
}

func TestCheckStopIsZeroOrAPrice(t *testing.T) {
	for _, o := range good {
		for _, n := range []int{0, 1, 2, 9999, 10000} {
			wantCheck(t, with(o, stop, n), api.OK)
		}
		for _, n := range []int{math.MinInt, -1, 10001, math.MaxInt} {
			wantCheck(t, with(o, stop, n), api.ErrRange)
		}
	}
}

// ErrShape stands between errors that are ErrRange: whichever comes first is told.
func TestCheckOrderOfErrors(t *testing.T) {
	shape := api.Order{Id: 7, Who: 3, Side: api.Buy, Kind: api.Now, Price: 99, Qty: 9, Show: 9}
	wantCheck(t, shape, api.ErrShape)
	for _, f := range []struct{ field, wrong int }{{id, 0}, {who, 10}, {side, 3}, {price, 0}, {qty, 0}, {qty, 10001}, {qty, 8}, {show, 10}, {show, -1}} {
		wantCheck(t, with(shape, f.field, f.wrong), api.ErrRange)
	}
	for _, wrong := range []int{math.MinInt, -1, 10001, math.MaxInt} {
		wantCheck(t, with(shape, stop, wrong), api.ErrShape)
	}
	wantCheck(t, with(shape, kind, 0), api.ErrRange)
	wantCheck(t, with(shape, kind, api.Market), api.ErrRange)
	wantCheck(t, with(with(shape, kind, api.Market), price, 0), api.ErrShape)
	wantCheck(t, with(shape, kind, api.Whole), api.ErrShape)
	wantCheck(t, with(shape, kind, api.Limit), api.OK)
}

func wantMeets(t *testing.T, o api.Order, price int, want bool, wantErr api.Errno) {
	t.Helper()
	got, err := order.Meets(o, price)
	if got != want || plain.Told(err) != wantErr {
		t.Errorf("Meets(%+v, %d): got %v %v, want %v %v", o, price, got, err, want, wantErr)
	}
}

func TestMeetsAtEachKindAndSide(t *testing.T) {
	for _, o := range good {
		own := 0 // Market's; no price
		if o.Kind != api.Market {
			own = 500
		}
		o.Price = own
		for _, at := range []int{1, 2, 499, 500, 501, 9999, 10000} {
			always := o.Kind == api.Market
			wantMeets(t, with(o, side, api.Buy), at, always || at <= own, api.OK)
			wantMeets(t, with(o, side, api.Sell), at, always || at >= own, api.OK)
		}
	}
}

func TestMeetsAtTheEndsOfPrices(t *testing.T) {
	buy := api.Order{Id: 1, Who: 1, Side: api.Buy, Kind: api.Limit, Price: 10000, Qty: 1}
	wantMeets(t, buy, 10000, true, api.OK)
	wantMeets(t, with(buy, price, 1), 1, true, api.OK)
	wantMeets(t, with(buy, price, 1), 2, false, api.OK)
	sell := with(buy, side, api.Sell)
	wantMeets(t, sell, 10000, true, api.OK)
	wantMeets(t, sell, 9999, false, api.OK)
	wantMeets(t, with(sell, price, 1), 1, true, api.OK)
}

func TestMeetsAsksNeitherShowNorStop(t *testing.T) {
	for _, o := range good {
		bare := with(with(o, show, 0), stop, 0)
		for at := 97; at <= 101; at++ {
			a, _ := order.Meets(o, at)
			b, _ := order.Meets(bare, at)
			if a != b {
				t.Errorf("Meets(%+v, %d): %v, but %v without Show and Stop", o, at, a, b)
			}
		}
	}
}

func TestMeetsRefusesNoPrices(t *testing.T) {
	for _, o := range good {
		for _, at := range []int{math.MinInt, -1, 0, 10001, 1<<32 + 99, math.MaxInt} {
			wantMeets(t, o, at, false, api.ErrRange)
		}
	}
}

func TestMeetsTellsCheckFirst(t *testing.T) {
	shape := with(good[2], show, 1)
	wantMeets(t, shape, 99, false, api.ErrShape)
	wantMeets(t, shape, 0, false, api.ErrShape)
	wantMeets(t, shape, math.MaxInt, false, api.ErrShape)
	wantMeets(t, with(good[1], price, 99), 99, false, api.ErrRange)
	wantMeets(t, with(good[0], qty, 0), 99, false, api.ErrRange)
	wantMeets(t, api.Order{}, 99, false, api.ErrRange)
}

// TestCheckEverywhere holds Check against the promise's words, one by one, at all edges of all fields.
func TestCheckEverywhere(t *testing.T) {
	eachOrder(func(o api.Order) {
		if got, want := plain.Told(order.Check(o)), spoken(o); got != want {
			t.Errorf("Check(%+v): got %v, want %v", o, got, want)
		}
	})
}

// spoken is O1's Check, word by word.
func spoken(o api.Order) api.Errno {
	isPrice := func(p int) bool { return 1 <= p && p <= 10000 }
	switch {
	case o.Id < 1, o.Id > 9999, o.Who < 1, o.Who > 9, o.Side != 1 && o.Side != 2, o.Kind < 1, o.Kind > 5:
		return api.ErrRange
	case o.Kind == 2 && o.Price != 0, o.Kind != 2 && !isPrice(o.Price):
		return api.ErrRange
	case o.Qty < 1, o.Qty > 10000, o.Show < 0, o.Show > o.Qty:
		return api.ErrRange
	case o.Show != 0 && o.Kind != 1 && o.Kind != 5:
		return api.ErrShape
	case o.Stop != 0 && !isPrice(o.Stop):
		return api.ErrRange
	}
	return api.OK
}

// eachOrder goes over orders of the numbers next to the bounds.
func eachOrder(do func(o api.Order)) {
	fields := [][]int{
		id:    {math.MinInt, 0, 1, 9999, 10000},
		who:   {0, 1, 9, 10, math.MaxInt},
		side:  {0, 1, 2, 3},
		kind:  {0, 1, 2, 3, 4, 5, 6},
		price: {-1, 0, 1, 10000, 10001},
		qty:   {0, 1, 10000, 10001},
		show:  {math.MinInt, 0, 1, 2, 10000, math.MaxInt},
		stop:  {math.MinInt, 0, 1, 10000, 10001},
	}
	var fill func(o api.Order, field int)
	fill = func(o api.Order, field int) {
		if field == len(fields) {
			do(o)
			return
		}
		for _, n := range fields[field] {
			fill(with(o, field, n), field+1)
		}
	}
	fill(api.Order{}, id)
}

func ExampleMeets() {
	o := api.Order{Id: 7, Who: 3, Side: api.Sell, Kind: api.Limit, Price: 99, Qty: 9}
	fmt.Println(order.Meets(o, 102))
	fmt.Println(order.Meets(o, 98))
	// Output:
	// true <nil>
	// false <nil>
}
