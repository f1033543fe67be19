package call_test

import (
	"fmt"
	"slices"
	"testing"

	"pitfloor/api"
	"pitfloor/call"
)

// C1: Volume and Price where nothing is wrong.

func TestVolumeOfNothing(t *testing.T) {
	for _, price := range []int{1, 2, 100, 9999, 10000} {
		wantVolume(t, nil, price, 0, 0)
		wantVolume(t, []api.Order{}, price, 0, 0)
	}
}

// A Buy counts at its Price and below, a Sell at its Price and above.
func TestVolumeOfOne(t *testing.T) {
	for _, own := range []int{1, 2, 100, 9999, 10000} {
		for _, price := range []int{1, 2, 99, 100, 101, 9998, 9999, 10000} {
			bought, sold := 0, 0
			if price <= own {
				bought = 7
			}
			if price >= own {
				sold = -7
			}
			wantVolume(t, of(buy(1, own, 7)), price, 0, bought)
			wantVolume(t, of(sell(1, own, 7)), price, 0, sold)
		}
	}
}

func TestVolumeOfBothSides(t *testing.T) {
	l := of(sell(4, 99, 3), buy(1, 102, 5), sell(5, 101, 6), buy(2, 100, 4), buy(3, 98, 9))
	for _, c := range []struct{ price, qty, over int }{
		{1, 0, 18}, {97, 0, 18}, {98, 0, 18}, {99, 3, 6}, {100, 3, 6}, {101, 5, -4}, {102, 5, -4}, {103, 0, -9}, {10000, 0, -9},
	} {
		wantVolume(t, l, c.price, c.qty, c.over)
	}
}

func TestVolumeWithNothingLeftOver(t *testing.T) {
	l := of(buy(1, 100, 5), sell(2, 100, 2), sell(3, 99, 3))
	wantVolume(t, l, 100, 5, 0)
	wantVolume(t, l, 99, 3, 2)
	wantVolume(t, l, 101, 0, -5)
	wantVolume(t, l, 98, 0, 5)
}

// More is wanted together than one order may want.
func TestGreatestVolumes(t *testing.T) {
	buys, sells := row(1, 30, api.Buy, 100, 10000), row(31, 30, api.Sell, 100, 10000)
	wantVolume(t, slices.Concat(buys, sells), 100, 300000, 0)
	wantPrice(t, slices.Concat(buys, sells), 100, 300000)
	wantVolume(t, slices.Concat(row(1, 59, api.Buy, 100, 10000), of(sell(60, 90, 1))), 95, 1, 589999)
	wantVolume(t, slices.Concat(row(1, 59, api.Sell, 100, 10000), of(buy(60, 110, 1))), 105, 1, -589999)
	wantVolume(t, row(1, 60, api.Buy, 1, 10000), 1, 0, 600000)
	wantVolume(t, row(1, 60, api.Sell, 10000, 10000), 10000, 0, -600000)
}

// Ids and traders at their bounds come to a call like others.
func TestOrdersAtTheBounds(t *testing.T) {
	a := api.Order{Id: 1, Who: 9, Side: api.Buy, Kind: api.Limit, Price: 10000, Qty: 10000}
	b := api.Order{Id: 9999, Who: 1, Side: api.Sell, Kind: api.Limit, Price: 1, Qty: 1}
	wantVolume(t, of(a, b), 10000, 1, 9999)
	wantVolume(t, of(a, b), 1, 1, 9999)
	wantUncross(t, of(a, b), 1, []api.Trade{traded(a, b, 1, 1)}, with(a, 5, 9999))
}

func TestPriceOfNoVolume(t *testing.T) {
	wantNone(t, nil)
	wantNone(t, []api.Order{})
	wantNone(t, of(buy(1, 100, 5)))
	wantNone(t, of(sell(1, 100, 5)))
	wantNone(t, of(buy(1, 99, 5), sell(2, 100, 5)))
	wantNone(t, of(sell(2, 100, 5), buy(1, 99, 5)))
	wantNone(t, of(buy(1, 1, 5), sell(2, 10000, 5)))
	wantNone(t, row(1, 60, api.Buy, 100, 10000))
	wantNone(t, row(1, 60, api.Sell, 100, 10000))
	wantNone(t, slices.Concat(row(1, 30, api.Buy, 99, 10000), row(31, 30, api.Sell, 100, 10000)))
}

// The greatest Volume is ahead of all else: what is left over, and the lower price.
func TestPriceOfTheGreatestVolume(t *testing.T) {
	// At 100 nothing is left over of 3; at 101 one more is traded, and many are left over.
	wantPrice(t, of(buy(1, 101, 4), sell(2, 100, 3), sell(3, 101, 900), buy(4, 90, 1)), 101, 4)
	// So at a lower price, too.
	wantPrice(t, of(sell(1, 99, 4), buy(2, 100, 3), buy(3, 99, 900), sell(4, 110, 1)), 99, 4)
	// And at one between others.
	l := of(buy(1, 104, 2), sell(2, 96, 2), buy(3, 100, 5), sell(4, 100, 5), buy(5, 98, 50), sell(6, 102, 50))
	wantPrice(t, l, 100, 7)
}

// Of equal Volumes what is left over counts, whichever side it is of.
func TestPriceOfTheLeastLeftOver(t *testing.T) {
	// 4 at each price; left over are 5 of Buys at 96 to 98, 1 of them at 99, 2 of Sells at 100.
	l := of(sell(1, 96, 4), buy(2, 98, 4), buy(3, 99, 1), buy(4, 100, 4), sell(5, 100, 2))
	wantVolume(t, l, 96, 4, 5)
	wantVolume(t, l, 98, 4, 5)
	wantVolume(t, l, 99, 4, 1)
	wantVolume(t, l, 100, 4, -2)
	wantPrice(t, l, 99, 4)
	// Without order 3 nothing is left over at 99, but no order names that price.
	wantPrice(t, slices.Concat(l[:2], l[3:]), 100, 4)
	// One more to sell at 99 makes the Volume greater there.
	wantPrice(t, append(slices.Clone(l), sell(6, 99, 1)), 99, 5)
	// More is left over at the lower price.
	down := of(buy(1, 104, 4), sell(2, 96, 4), buy(3, 96, 9), sell(4, 104, 3))
	wantVolume(t, down, 96, 4, 9)
	wantVolume(t, down, 104, 4, -3)
	wantPrice(t, down, 104, 4)
}

// Less is left over, not more below 0.
func TestLeftOverIsTakenEitherWay(t *testing.T) {
	l := of(buy(1, 104, 4), sell(2, 96, 4), buy(3, 96, 2), sell(4, 104, 3))
	wantVolume(t, l, 96, 4, 2)
	wantVolume(t, l, 104, 4, -3)
	wantPrice(t, l, 96, 4)
}

func TestPriceIsTheLowestOfThoseAsGood(t *testing.T) {
	// As much is left over at both prices, of the one side or of the other.
	l := of(buy(1, 104, 4), sell(2, 96, 4), buy(3, 96, 2), sell(4, 104, 2))
	for _, order := range [][]int{{0, 1, 2, 3}, {3, 2, 1, 0}, {1, 0, 3, 2}, {2, 0, 3, 1}} {
		var turned []api.Order
		for _, i := range order {
			turned = append(turned, l[i])
		}
		wantPrice(t, turned, 96, 4)
	}
	wantPrice(t, of(buy(1, 104, 4), sell(2, 96, 4)), 96, 4)
	wantPrice(t, of(buy(1, 104, 4), sell(2, 96, 9)), 96, 4)
	wantPrice(t, of(sell(2, 1, 4), buy(1, 10000, 4)), 1, 4)
	wantPrice(t, of(sell(2, 7, 4), buy(1, 7, 4)), 7, 4)
}

// Any order's Price may be that of the call, even of one that does not trade.
func TestPriceOfAnOrderThatDoesNotTrade(t *testing.T) {
	// 4 could be traded at each price from 96 on; at 98, the Price of order 3, the least is left over, but order 1 sells all.
	l := of(sell(1, 96, 4), buy(2, 97, 3), sell(3, 98, 1), buy(4, 100, 4))
	wantVolume(t, l, 96, 4, 3)
	wantVolume(t, l, 97, 4, 3)
	wantVolume(t, l, 98, 4, -1)
	wantVolume(t, l, 100, 4, -1)
	wantUncross(t, l, 98, []api.Trade{traded(l[3], l[0], 98, 4)}, l[1], l[2])
}

func ExampleVolume() {
	l := []api.Order{
		{Id: 1, Who: 3, Side: api.Buy, Kind: api.Limit, Price: 101, Qty: 7},
		{Id: 2, Who: 1, Side: api.Sell, Kind: api.Limit, Price: 99, Qty: 4},
		{Id: 3, Who: 2, Side: api.Sell, Kind: api.Limit, Price: 101, Qty: 5},
	}
	fmt.Println(call.Volume(l, 100))
	fmt.Println(call.Volume(l, 101))
	fmt.Println(call.Volume(l, 102))
	fmt.Println(call.Volume(l, 0))
	// Output:
	// 4 3 <nil>
	// 7 -2 <nil>
	// 0 -9 <nil>
	// 0 0 ErrRange
}

func ExamplePrice() {
	l := []api.Order{
		{Id: 1, Who: 3, Side: api.Buy, Kind: api.Limit, Price: 101, Qty: 7},
		{Id: 2, Who: 1, Side: api.Sell, Kind: api.Limit, Price: 99, Qty: 4},
		{Id: 3, Who: 2, Side: api.Sell, Kind: api.Limit, Price: 101, Qty: 5},
	}
	fmt.Println(call.Price(l))
	fmt.Println(call.Price(l[:2]))
	fmt.Println(call.Price(l[:1]))
	// Output:
	// 101 7 <nil>
	// 99 4 <nil>
	// 0 0 ErrNone
}
