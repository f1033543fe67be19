package margin_test

import (
	"fmt"
	"testing"

	"pitfloor/api"
	"pitfloor/margin"
)

// M1 of chapter 13: what is put by, and what no more, where nothing is wrong.

func TestForOfBuyIsCash(t *testing.T) {
	for _, kind := range []int{api.Limit, api.Now, api.Whole, api.Post} {
		wantFor(t, comes(api.Buy, kind, 99, 9), cash(891))
		wantFor(t, comes(api.Buy, kind, 1, 1), cash(1))
		wantFor(t, comes(api.Buy, kind, 1, 10000), cash(10000))
		wantFor(t, comes(api.Buy, kind, 10000, 1), cash(10000))
		wantFor(t, comes(api.Buy, kind, 10000, 10000), cash(100000000))
	}
}

func TestForOfMarketIsTheHighestPrice(t *testing.T) {
	wantFor(t, comes(api.Buy, api.Market, 0, 1), cash(10000))
	wantFor(t, comes(api.Buy, api.Market, 0, 4), cash(40000))
	wantFor(t, comes(api.Buy, api.Market, 0, 10000), cash(100000000))
}

func TestForOfSellIsStock(t *testing.T) {
	for _, kind := range kindsOf {
		for _, price := range []int{1, 99, 10000} {
			for _, qty := range []int{1, 9, 10000} {
				wantFor(t, comes(api.Sell, kind, price, qty), stock(qty))
			}
		}
	}
}

// How much is shown at a time, and whether it sleeps, is nothing to what is put by.
func TestForAsksNeitherShowNorStop(t *testing.T) {
	for _, kind := range []int{api.Limit, api.Post} {
		for _, show := range []int{0, 1, 4, 9} {
			for _, stop := range []int{0, 1, 50, 10000} {
				buys, sells := comes(api.Buy, kind, 99, 9), comes(api.Sell, kind, 99, 9)
				buys.Show, buys.Stop, sells.Show, sells.Stop = show, stop, show, stop
				wantFor(t, buys, cash(891))
				wantFor(t, sells, stock(9))
			}
		}
	}
	sleeps := comes(api.Buy, api.Market, 0, 2)
	sleeps.Stop = 50
	wantFor(t, sleeps, cash(20000))
}

func TestForIsTheSameOfAllTradersAndIds(t *testing.T) {
	for who := 1; who <= 9; who++ {
		for _, id := range []int{1, 2, 9998, 9999} {
			o := comes(api.Buy, api.Limit, 99, 9)
			o.Id, o.Who = id, who
			wantFor(t, o, cash(891))
		}
	}
}

func TestLeftIsOfShownAndHidden(t *testing.T) {
	for _, c := range []struct{ qty, hidden, show, all int }{
		{1, 0, 0, 1}, {9, 0, 0, 9}, {3, 0, 5, 3}, {3, 15, 4, 18}, {1, 2, 1, 3}, {1, 10000, 1, 10001},
		{10000, 0, 0, 10000}, {10000, 10000, 10000, 20000},
	} {
		for _, price := range []int{1, 2, 98, 9999, 10000} {
			wantLeft(t, rest(c.qty, c.hidden, c.show), api.Buy, price, cash(c.all*price))
			wantLeft(t, rest(c.qty, c.hidden, c.show), api.Sell, price, stock(c.all))
		}
	}
}

func TestBackOfNothing(t *testing.T) {
	eachComing(99, 9, func(o api.Order) {
		wantBack(t, o, nil, 0, answer{})
		wantBack(t, o, []api.Trade{}, 0, answer{})
	})
}

func TestBackOfWhatIsGone(t *testing.T) {
	for _, kind := range kindsOf {
		price := 99
		if kind == api.Market {
			price = 10000
		}
		for _, gone := range []int{0, 1, 2, 8, 9} {
			wantBack(t, comes(api.Buy, kind, 99, 9), nil, gone, cash(gone*price))
			wantBack(t, comes(api.Sell, kind, 99, 9), nil, gone, stock(gone))
		}
	}
}

func TestBackOfWhatWasCheaper(t *testing.T) {
	for _, kind := range []int{api.Limit, api.Now, api.Whole, api.Post} {
		o := comes(api.Buy, kind, 99, 9)
		wantBack(t, o, trades(traded(api.Buy, 99, 9)), 0, answer{})
		wantBack(t, o, trades(traded(api.Buy, 98, 1)), 0, cash(1))
		wantBack(t, o, trades(traded(api.Buy, 98, 5)), 0, cash(5))
		wantBack(t, o, trades(traded(api.Buy, 1, 9)), 0, cash(98*9))
		wantBack(t, o, trades(traded(api.Buy, 90, 2), traded(api.Buy, 99, 3), traded(api.Buy, 95, 4)), 0, cash(9*2+4*4))
		wantBack(t, o, trades(traded(api.Buy, 90, 2), traded(api.Buy, 95, 4)), 3, cash(9*2+4*4+3*99))
	}
}

func TestBackOfMarketThatBuys(t *testing.T) {
	o := comes(api.Buy, api.Market, 0, 4)
	wantBack(t, o, trades(traded(api.Buy, 10000, 4)), 0, answer{})
	wantBack(t, o, trades(traded(api.Buy, 9999, 4)), 0, cash(4))
	wantBack(t, o, trades(traded(api.Buy, 1, 1)), 0, cash(9999))
	wantBack(t, o, trades(traded(api.Buy, 100, 1), traded(api.Buy, 104, 2)), 1, cash(9900+2*9896+10000))
}

// Who sells put by stock, and whatever it is sold for, none of that comes back.
func TestBackOfSellIsNothingOfTrades(t *testing.T) {
	for _, kind := range kindsOf {
		o := comes(api.Sell, kind, 99, 9)
		wantBack(t, o, trades(traded(api.Sell, 99, 9)), 0, answer{})
		wantBack(t, o, trades(traded(api.Sell, 10000, 4), traded(api.Sell, 100, 2)), 0, answer{})
		wantBack(t, o, trades(traded(api.Sell, 10000, 4), traded(api.Sell, 100, 2)), 3, stock(3))
	}
	wantBack(t, comes(api.Sell, api.Market, 0, 9), trades(traded(api.Sell, 1, 4)), 5, stock(5))
}

func TestBackAtTheBounds(t *testing.T) {
	for _, kind := range []int{api.Limit, api.Market} {
		o := comes(api.Buy, kind, 10000, 10000)
		wantBack(t, o, trades(traded(api.Buy, 1, 10000)), 0, cash(99990000))
		wantBack(t, o, trades(traded(api.Buy, 10000, 10000)), 10000, cash(100000000))
		wantBack(t, o, trades(traded(api.Buy, 1, 1)), 9999, cash(9999+99990000))
	}
	low := comes(api.Buy, api.Limit, 1, 1)
	wantBack(t, low, trades(traded(api.Buy, 1, 1)), 0, answer{})
	wantBack(t, low, trades(traded(api.Buy, 1, 10000)), 1, cash(1))
	wantBack(t, comes(api.Sell, api.Limit, 1, 10000), trades(traded(api.Sell, 1, 10000)), 10000, stock(10000))
	wantBack(t, comes(api.Sell, api.Limit, 10000, 1), trades(traded(api.Sell, 10000, 1)), 1, stock(1))
}

// The promise bounds each Trade, not what they come to: they may be more than the order, with what is gone.
func TestBackDoesNotAddUpTheTrades(t *testing.T) {
	o := comes(api.Buy, api.Limit, 97, 3)
	wantBack(t, o, trades(traded(api.Buy, 97, 7)), 2, cash(194))
	wantBack(t, o, trades(traded(api.Buy, 96, 10000), traded(api.Buy, 96, 10000)), 3, cash(20000+291))
	wantBack(t, comes(api.Sell, api.Limit, 97, 3), trades(traded(api.Sell, 98, 7), traded(api.Sell, 97, 9)), 3, stock(3))
}

// Long lists are added up to the last one, and beyond what a purse may have.
func TestBackOfManyTrades(t *testing.T) {
	var l []api.Trade
	for range 100000 {
		l = append(l, traded(api.Buy, 1, 10000))
	}
	o := comes(api.Buy, api.Market, 0, 10000)
	wantBack(t, o, l, 0, cash(100000*99990000))
	wantBack(t, o, l, 10000, cash(100000*99990000+100000000))
}

// Who the other one was, and who is named as a trader, is nothing to what comes back.
func TestBackAsksNeitherMakerNorTraders(t *testing.T) {
	for _, n := range []int{-1 << 63, -1, 0, 1, 7, 9, 10, 9999, 10000, 1<<63 - 1} {
		for _, v := range []api.Trade{
			{Maker: n, Taker: taker, From: 1, To: 2, Price: 98, Qty: 5},
			{Maker: 4, Taker: taker, From: n, To: 2, Price: 98, Qty: 5},
			{Maker: 4, Taker: taker, From: 1, To: n, Price: 98, Qty: 5},
			{Maker: n, Taker: taker, From: n, To: n, Price: 98, Qty: 5},
		} {
			wantBack(t, comes(api.Buy, api.Limit, 99, 9), trades(v), 1, cash(5+99))
			wantBack(t, comes(api.Sell, api.Limit, 98, 9), trades(v), 1, stock(1))
		}
	}
}

func TestBackAsksNeitherShowNorStop(t *testing.T) {
	for _, show := range []int{0, 1, 9} {
		for _, stop := range []int{0, 1, 10000} {
			buys, sells := comes(api.Buy, api.Limit, 99, 9), comes(api.Sell, api.Post, 98, 9)
			buys.Show, buys.Stop, sells.Show, sells.Stop = show, stop, show, stop
			wantBack(t, buys, trades(traded(api.Buy, 98, 5)), 2, cash(5+198))
			wantBack(t, sells, trades(traded(api.Sell, 98, 5)), 2, stock(2))
		}
	}
}

func ExampleBack() {
	o := api.Order{Id: 7, Who: 3, Side: api.Buy, Kind: api.Now, Price: 101, Qty: 9}
	fmt.Println(margin.For(o))
	fmt.Println(margin.Back(o, []api.Trade{{Maker: 4, Taker: 7, From: 1, To: 3, Price: 99, Qty: 5}}, 4))
	fmt.Println(margin.Back(o, []api.Trade{{Maker: 4, Taker: 7, From: 1, To: 3, Price: 102, Qty: 5}}, 4))
	fmt.Println(margin.Left(api.Rest{Id: 8, Who: 2, Qty: 3, Hidden: 15, Show: 4}, api.Sell, 98))
	// Output:
	// 909 0 <nil>
	// 414 0 <nil>
	// 0 0 ErrShape
	// 0 18 <nil>
}
