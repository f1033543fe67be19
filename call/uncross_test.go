package call_test

import (
	"fmt"
	"slices"
	"testing"

	"pitfloor/api"
	"pitfloor/call"
)

// C2: Uncross where nothing is wrong.

func TestUncrossOfTwo(t *testing.T) {
	for _, c := range []struct{ bought, sold int }{{5, 5}, {1, 1}, {10000, 10000}, {5, 3}, {3, 5}, {1, 10000}, {10000, 1}} {
		b, s := buy(7, 102, c.bought), sell(3, 99, c.sold)
		qty := min(c.bought, c.sold)
		var left []api.Order
		if c.bought > qty {
			left = of(with(b, 5, c.bought-qty))
		}
		if c.sold > qty {
			left = of(with(s, 5, c.sold-qty))
		}
		wantUncross(t, of(b, s), 99, []api.Trade{traded(b, s, 99, qty)}, left...)
		wantUncross(t, of(s, b), 99, []api.Trade{traded(b, s, 99, qty)}, left...)
	}
}

// Maker is the Sell and Taker the Buy, whoever of them came first.
func TestWhoSellsIsMaker(t *testing.T) {
	b := api.Order{Id: 20, Who: 4, Side: api.Buy, Kind: api.Limit, Price: 100, Qty: 2}
	s := api.Order{Id: 10, Who: 6, Side: api.Sell, Kind: api.Limit, Price: 100, Qty: 2}
	want := []api.Trade{{Maker: 10, Taker: 20, From: 6, To: 4, Price: 100, Qty: 2}}
	wantUncross(t, of(b, s), 100, want)
	wantUncross(t, of(s, b), 100, want)
}

// Nothing is said of trading with oneself, so that one may.
func TestOneMayTradeWithOneself(t *testing.T) {
	b := api.Order{Id: 20, Who: 4, Side: api.Buy, Kind: api.Limit, Price: 100, Qty: 2}
	s := api.Order{Id: 10, Who: 4, Side: api.Sell, Kind: api.Limit, Price: 100, Qty: 2}
	wantUncross(t, of(b, s), 100, []api.Trade{{Maker: 10, Taker: 20, From: 4, To: 4, Price: 100, Qty: 2}})
}

func TestTheHighestBuysAreFirst(t *testing.T) {
	a, b, c, s := buy(1, 101, 2), buy(2, 103, 3), buy(3, 102, 4), sell(4, 99, 9)
	want := []api.Trade{traded(b, s, 99, 3), traded(c, s, 99, 4), traded(a, s, 99, 2)}
	wantUncross(t, of(a, b, c, s), 99, want)
	wantUncross(t, of(s, c, b, a), 99, want)
	// Less is sold, and then the lowest Buy has less or nothing. The price is the one that leaves the least over.
	less := with(s, 5, 8)
	wantUncross(t, of(a, b, c, less), 99, []api.Trade{traded(b, s, 99, 3), traded(c, s, 99, 4), traded(a, s, 99, 1)}, with(a, 5, 1))
	least := with(s, 5, 2)
	wantUncross(t, of(a, b, c, least), 103, []api.Trade{traded(b, s, 103, 2)}, a, with(b, 5, 1), c)
}

func TestTheLowestSellsAreFirst(t *testing.T) {
	a, b, c, o := sell(1, 99, 2), sell(2, 97, 3), sell(3, 98, 4), buy(4, 101, 9)
	want := []api.Trade{traded(o, b, 99, 3), traded(o, c, 99, 4), traded(o, a, 99, 2)}
	wantUncross(t, of(a, b, c, o), 99, want)
	wantUncross(t, of(o, c, b, a), 99, want)
	less := with(o, 5, 8)
	wantUncross(t, of(a, b, c, less), 99, []api.Trade{traded(o, b, 99, 3), traded(o, c, 99, 4), traded(o, a, 99, 1)}, with(a, 5, 1))
	least := with(o, 5, 2)
	wantUncross(t, of(a, b, c, least), 97, []api.Trade{traded(o, b, 97, 2)}, a, with(b, 5, 1), c)
}

// Of equal Prices who came first is ahead: neither Id, trader nor Qty counts.
func TestEqualOnesAsTheyCame(t *testing.T) {
	a, b, c := buy(9, 100, 1), buy(3, 100, 5), buy(6, 100, 2)
	d, e, f := sell(8, 100, 3), sell(2, 100, 1), sell(5, 100, 4)
	want := []api.Trade{
		traded(a, d, 100, 1), traded(b, d, 100, 2), traded(b, e, 100, 1), traded(b, f, 100, 2), traded(c, f, 100, 2),
	}
	wantUncross(t, of(a, b, c, d, e, f), 100, want)
	wantUncross(t, of(d, a, e, b, f, c), 100, want)
	wantUncross(t, of(d, e, f, a, b, c), 100, want)
}

// Many equal ones stay as they came, of whichever side.
func TestManyEqualOnesAsTheyCame(t *testing.T) {
	buys, sells := row(1, 30, api.Buy, 100, 2), row(31, 30, api.Sell, 100, 2)
	slices.Reverse(buys)
	var want []api.Trade
	for i := range buys {
		want = append(want, traded(buys[i], sells[i], 100, 2))
	}
	wantUncross(t, slices.Concat(buys, sells), 100, want)
	wantUncross(t, slices.Concat(sells, buys), 100, want)
	one := sell(61, 100, 21)
	want = nil
	for _, b := range buys[:10] {
		want = append(want, traded(b, one, 100, 2))
	}
	want = append(want, traded(buys[10], one, 100, 1))
	left := append(of(with(buys[10], 5, 1)), buys[11:]...)
	wantUncross(t, append(of(one), buys...), 100, want, left...)
}

// Who may not trade at the price stays whole, where it stood; who does in part stays where it stood, too.
func TestWhatIsLeftStandsAsItCame(t *testing.T) {
	high, low := sell(5, 120, 3), buy(6, 80, 4)
	b, s := buy(1, 100, 9), sell(2, 100, 5)
	trades := []api.Trade{traded(b, s, 100, 5)}
	rest := with(b, 5, 4)
	wantUncross(t, of(high, b, low, s), 100, trades, high, rest, low)
	wantUncross(t, of(s, low, b, high), 100, trades, low, rest, high)
	wantUncross(t, of(b, s, high, low), 100, trades, rest, high, low)
	wantUncross(t, of(low, high, s, b), 100, trades, low, high, rest)
}

// When the Volume is traded it ends, though there are others that would have that price.
func TestItEndsWithTheVolume(t *testing.T) {
	a, b, c := buy(1, 100, 2), buy(2, 100, 3), buy(3, 100, 4)
	s := sell(4, 100, 2)
	wantUncross(t, of(a, b, c, s), 100, []api.Trade{traded(a, s, 100, 2)}, b, c)
	d, e, f := sell(1, 100, 2), sell(2, 100, 3), sell(3, 100, 4)
	o := buy(4, 100, 5)
	wantUncross(t, of(d, e, f, o), 100, []api.Trade{traded(o, d, 100, 2), traded(o, e, 100, 3)}, f)
}

// A Buy that is ahead of others may not trade with Sells above the price, however much it wants.
func TestNobodyTradesBeyondThePrice(t *testing.T) {
	b, low, high := buy(1, 110, 9), sell(2, 90, 4), sell(3, 120, 9)
	// As much is left over at 90 and 110: the lower one is taken.
	wantUncross(t, of(high, b, low), 90, []api.Trade{traded(b, low, 90, 4)}, high, with(b, 5, 5))
	s, top, bottom := sell(1, 90, 9), buy(2, 110, 4), buy(3, 80, 9)
	wantUncross(t, of(bottom, s, top), 90, []api.Trade{traded(top, s, 90, 4)}, bottom, with(s, 5, 5))
}

// Of 60 orders no more than 59 Trades come: all but the last one end an order.
func TestTheMostTrades(t *testing.T) {
	buys, sells := row(1, 30, api.Buy, 100, 10), row(31, 30, api.Sell, 100, 10)
	buys[0].Qty, buys[29].Qty = 5, 15
	var want []api.Trade
	for i := range 29 {
		want = append(want, traded(buys[i], sells[i], 100, 5), traded(buys[i+1], sells[i], 100, 5))
	}
	want = append(want, traded(buys[29], sells[29], 100, 10))
	wantUncross(t, slices.Concat(buys, sells), 100, want)
}

// What is left could not be traded at any price.
func TestWhatIsLeftTradesNoMore(t *testing.T) {
	l := of(buy(1, 105, 3), sell(2, 95, 4), buy(3, 101, 6), sell(4, 99, 2), buy(5, 97, 5), sell(6, 103, 7))
	_, _, left, err := call.Uncross(l)
	if err != nil || len(left) == 0 {
		t.Fatalf("got %v %v", left, err)
	}
	wantNone(t, left)
}

func ExampleUncross() {
	l := []api.Order{
		{Id: 1, Who: 3, Side: api.Buy, Kind: api.Limit, Price: 101, Qty: 7},
		{Id: 2, Who: 1, Side: api.Sell, Kind: api.Limit, Price: 101, Qty: 5},
		{Id: 3, Who: 2, Side: api.Sell, Kind: api.Limit, Price: 99, Qty: 4},
	}
	fmt.Println(call.Uncross(l))
	fmt.Println(call.Uncross(l[:1]))
	// Output:
	// 101 [{3 1 2 3 101 4} {2 1 1 3 101 3}] [{2 1 2 1 101 2 0 0}] <nil>
	// 0 [] [] ErrNone
}
