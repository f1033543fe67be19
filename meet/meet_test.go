package meet_test

import (
	"fmt"
	"slices"
	"testing"

	"pitfloor/api"
	"pitfloor/meet"
)

// M1: what Do, Trades and Could answer where nothing is wrong.

// wantMeet asks all three calls: Trades and Could tell of what Do does.
func wantMeet(t *testing.T, b api.Book, o api.Order, want api.Book, wantTrades []api.Trade, wantLeft int) {
	t.Helper()
	got, trades, left, err := meet.Do(b, o)
	if !same(got, want) || !slices.Equal(trades, wantTrades) || left != wantLeft || err != nil {
		t.Errorf("Do(%v, %v): got %v %v %d %v, want %v %v %d", b, o, got, trades, left, err, want, wantTrades, wantLeft)
	}
	if trades, err := meet.Trades(b, o); !slices.Equal(trades, wantTrades) || err != nil {
		t.Errorf("Trades(%v, %v): got %v %v, want %v", b, o, trades, err, wantTrades)
	}
	wantCould(t, b, o, o.Qty-wantLeft)
}

func wantCould(t *testing.T, b api.Book, o api.Order, want int) {
	t.Helper()
	if got, err := meet.Could(b, o); got != want || err != nil {
		t.Errorf("Could(%v, %v): got %d %v, want %d", b, o, got, err, want)
	}
}

func TestWhoBuysTakesFromSells(t *testing.T) {
	b := api.Book{
		Buys:  []api.Level{{Price: 97, Rests: queue(rest(1, 1, 5, 0, 0))}},
		Sells: []api.Level{{Price: 100, Rests: queue(rest(2, 2, 3, 0, 0))}, {Price: 102, Rests: queue(rest(3, 4, 8, 0, 0))}},
	}
	o := api.Order{Id: 7, Who: 6, Side: api.Buy, Kind: api.Now, Price: 102, Qty: 5}
	want := api.Book{Buys: b.Buys, Sells: []api.Level{{Price: 102, Rests: queue(rest(3, 4, 6, 0, 0))}}}
	wantMeet(t, b, o, want, []api.Trade{
		{Maker: 2, Taker: 7, From: 2, To: 6, Price: 100, Qty: 3},
		{Maker: 3, Taker: 7, From: 4, To: 6, Price: 102, Qty: 2},
	}, 0)
}

func TestWhoSellsTakesFromBuys(t *testing.T) {
	b := api.Book{
		Buys:  []api.Level{{Price: 97, Rests: queue(rest(1, 1, 5, 0, 0))}, {Price: 95, Rests: queue(rest(4, 3, 2, 0, 0))}},
		Sells: []api.Level{{Price: 100, Rests: queue(rest(2, 2, 3, 0, 0))}},
	}
	o := api.Order{Id: 7, Who: 6, Side: api.Sell, Kind: api.Now, Price: 95, Qty: 6}
	want := api.Book{Buys: []api.Level{{Price: 95, Rests: queue(rest(4, 3, 1, 0, 0))}}, Sells: b.Sells}
	wantMeet(t, b, o, want, []api.Trade{
		{Maker: 1, Taker: 7, From: 6, To: 1, Price: 97, Qty: 5},
		{Maker: 4, Taker: 7, From: 6, To: 3, Price: 95, Qty: 1},
	}, 0)
}

// Level by Level, who came first ahead, till all of the order is taken.
func TestLevelByLevelTillAllIsTaken(t *testing.T) {
	x, y, z := open(9, 2), open(4, 3), open(6, 4)
	eachSide(func(s int) {
		b := facing(s, queue(x, y), queue(z))
		all := []api.Trade{traded(s, 0, x, 2), traded(s, 0, y, 3), traded(s, 2, z, 4)}
		o := func(qty int) api.Order { return comes(s, 2, qty) }
		wantMeet(t, b, o(1), facing(s, queue(open(9, 1), y), queue(z)), []api.Trade{traded(s, 0, x, 1)}, 0)
		wantMeet(t, b, o(2), facing(s, queue(y), queue(z)), all[:1], 0)
		wantMeet(t, b, o(3), facing(s, queue(open(4, 2)), queue(z)), []api.Trade{all[0], traded(s, 0, y, 1)}, 0)
		wantMeet(t, b, o(5), facing(s, nil, queue(z)), all[:2], 0)
		wantMeet(t, b, o(6), facing(s, nil, queue(open(6, 3))), []api.Trade{all[0], all[1], traded(s, 2, z, 1)}, 0)
		wantMeet(t, b, o(9), facing(s), all, 0)
		wantMeet(t, b, o(10), facing(s), all, 1)
		wantMeet(t, b, o(10000), facing(s), all, 9991)
	})
}

func TestOnlyAsLongAsItMeetsThePrice(t *testing.T) {
	x, y, z := open(1, 2), open(2, 3), open(3, 4)
	eachSide(func(s int) {
		b := facing(s, queue(x), queue(y), queue(z))
		all := []api.Trade{traded(s, 0, x, 2), traded(s, 2, y, 3), traded(s, 4, z, 4)}
		// One off the price of a Level is not enough, one beyond it is no more.
		for _, by := range []int{-4000, -2, -1} {
			wantMeet(t, b, comes(s, by, 20), b, nil, 20)
		}
		for _, by := range []int{0, 1} {
			wantMeet(t, b, comes(s, by, 20), facing(s, nil, queue(y), queue(z)), all[:1], 18)
		}
		for _, by := range []int{2, 3} {
			wantMeet(t, b, comes(s, by, 20), facing(s, nil, nil, queue(z)), all[:2], 15)
		}
		for _, by := range []int{4, 5, 4000} {
			wantMeet(t, b, comes(s, by, 20), facing(s), all, 11)
		}
	})
}

func TestAtTheEndsOfPrices(t *testing.T) {
	low, high := []api.Level{{Price: 1, Rests: queue(open(1, 2))}}, []api.Level{{Price: 10000, Rests: queue(open(1, 2))}}
	for _, at := range []struct{ side, price int }{{api.Buy, 1}, {api.Buy, 10000}, {api.Sell, 1}, {api.Sell, 10000}} {
		l := low
		if at.price == 10000 {
			l = high
		}
		o := api.Order{Id: 7, Who: 1, Side: at.side, Kind: api.Limit, Price: at.price, Qty: 3}
		want := api.Trade{Maker: 1, Taker: 7, From: 2, To: 1, Price: at.price, Qty: 2}
		if at.side == api.Sell {
			want.From, want.To = want.To, want.From
		}
		wantMeet(t, with(api.Book{}, 3-at.side, l), o, api.Book{}, []api.Trade{want}, 1)
	}
}

// Whatever is to become of what is left, chapter 6 does not ask.
func TestEveryKindTakesAlike(t *testing.T) {
	x, y := open(1, 2), open(2, 3)
	eachSide(func(s int) {
		b := facing(s, queue(x), queue(y))
		for _, kind := range []int{api.Limit, api.Now, api.Whole, api.Post} {
			wantMeet(t, b, ofKind(comes(s, -1, 7), kind), b, nil, 7)
			wantMeet(t, b, ofKind(comes(s, 0, 7), kind), facing(s, nil, queue(y)), []api.Trade{traded(s, 0, x, 2)}, 5)
			wantMeet(t, b, ofKind(comes(s, 2, 7), kind), facing(s), []api.Trade{traded(s, 0, x, 2), traded(s, 2, y, 3)}, 2)
		}
	})
}

func TestMarketTakesAtAnyPrice(t *testing.T) {
	eachSide(func(s int) {
		far := behind(3-s, 4000)
		b := facing(s, queue(open(1, 2)))
		b = with(b, 3-s, append(levels(b, 3-s), api.Level{Price: far, Rests: queue(open(2, 3))}))
		all := []api.Trade{traded(s, 0, open(1, 2), 2), traded(s, 4000, open(2, 3), 3)}
		wantMeet(t, b, ofKind(comes(s, 0, 7), api.Market), facing(s), all, 2)
	})
}

func TestNobodyIsThere(t *testing.T) {
	eachSide(func(s int) {
		for _, o := range []api.Order{comes(s, 0, 7), ofKind(comes(s, 0, 7), api.Market)} {
			wantMeet(t, api.Book{}, o, api.Book{}, nil, 7)
			wantMeet(t, api.Book{Buys: []api.Level{}, Sells: []api.Level{}}, o, api.Book{}, nil, 7)
			// Of its own side nothing is taken, and to it nothing comes.
			wantMeet(t, facing(s), o, facing(s), nil, 7)
		}
	})
}

// What is hidden trades ahead of the next Level, and each time that something is taken is a Trade of its own.
func TestWhatIsHiddenIsTakenToo(t *testing.T) {
	ice, y, z := rest(7, 3, 2, 5, 4), open(8, 3), open(9, 4)
	eachSide(func(s int) {
		b := facing(s, queue(ice, y), queue(z))
		all := []api.Trade{traded(s, 0, ice, 2), traded(s, 0, y, 3), traded(s, 0, ice, 4), traded(s, 0, ice, 1), traded(s, 2, z, 4)}
		o := func(qty int) api.Order { return comes(s, 2, qty) }
		wantMeet(t, b, o(1), facing(s, queue(rest(7, 3, 1, 5, 4), y), queue(z)), []api.Trade{traded(s, 0, ice, 1)}, 0)
		wantMeet(t, b, o(2), facing(s, queue(y, rest(7, 3, 4, 1, 4)), queue(z)), all[:1], 0)
		wantMeet(t, b, o(5), facing(s, queue(rest(7, 3, 4, 1, 4)), queue(z)), all[:2], 0)
		wantMeet(t, b, o(9), facing(s, queue(rest(7, 3, 1, 0, 4)), queue(z)), all[:3], 0)
		wantMeet(t, b, o(10), facing(s, nil, queue(z)), all[:4], 0)
		wantMeet(t, b, o(14), facing(s), all, 0)
		wantMeet(t, b, o(15), facing(s), all, 1)
	})
}

// What an order would show is asked only of what rests.
func TestShowOfWhoComesIsNotAsked(t *testing.T) {
	eachSide(func(s int) {
		for _, show := range []int{0, 1, 4, 7} {
			o := comes(s, 0, 7)
			o.Show = show
			wantMeet(t, facing(s, queue(open(1, 9))), o, facing(s, queue(open(1, 2))), []api.Trade{traded(s, 0, open(1, 9), 7)}, 0)
			wantMeet(t, facing(s, queue(open(1, 6))), o, facing(s), []api.Trade{traded(s, 0, open(1, 6), 6)}, 1)
		}
	})
}

// Chapter 8 is who keeps one from trading with oneself.
func TestOneMayTradeWithOneself(t *testing.T) {
	own := rest(1, comerWho, 4, 0, 0)
	eachSide(func(s int) {
		want := []api.Trade{{Maker: 1, Taker: comer, From: comerWho, To: comerWho, Price: behind(3-s, 0), Qty: 3}}
		wantMeet(t, facing(s, queue(own)), comes(s, 0, 3), facing(s, queue(rest(1, comerWho, 1, 0, 0))), want, 0)
	})
}

func TestOfAFullBook(t *testing.T) {
	eachSide(func(s int) {
		b := facing(s, row(1, 20), row(21, 39))
		var all []api.Trade
		for _, r := range row(1, 20) {
			all = append(all, traded(s, 0, r, 1))
		}
		for _, r := range row(21, 39) {
			all = append(all, traded(s, 2, r, 1))
		}
		wantMeet(t, b, comes(s, 2, 59), facing(s), all, 0)
		wantMeet(t, b, comes(s, 2, 10000), facing(s), all, 9941)
		wantMeet(t, b, comes(s, 2, 30), facing(s, nil, row(31, 29)), all[:30], 0)
		alone := with(api.Book{}, 3-s, stairs(3-s, row(1, 60)))
		if got, trades, left, err := meet.Do(alone, comes(s, 0, 60)); !same(got, api.Book{}) || len(trades) != 60 || left != 0 || err != nil {
			t.Errorf("got %v, %d Trades, %d %v", got, len(trades), left, err)
		}
	})
}

// melting is a Rest that trades one at a time, so many times in all.
func melting(id, times int) api.Rest { return rest(id, 1, 1, times-1, 1) }

func TestSoManyTradesAndNoMore(t *testing.T) {
	eachSide(func(s int) {
		books := []api.Book{
			facing(s, queue(melting(1, 10000))),
			facing(s, queue(melting(1, 399)), queue(melting(2, 9601))),
			facing(s, queue(melting(1, 400)), queue(melting(2, 9600))),
			facing(s, queue(melting(1, 200), melting(2, 9000)), queue(melting(3, 800))),
		}
		for _, b := range books {
			for _, qty := range []int{1, 399, 400} {
				_, trades, left, err := meet.Do(b, comes(s, 2, qty))
				told, bad := meet.Trades(b, comes(s, 2, qty))
				if len(trades) != qty || left != 0 || err != nil || !slices.Equal(told, trades) || bad != nil {
					t.Errorf("%v, %d: got %d Trades, %d %v; %d %v", b, qty, len(trades), left, err, len(told), bad)
				}
				wantCould(t, b, comes(s, 2, qty), qty)
			}
			for _, qty := range []int{401, 402, 10000} {
				wantTooMany(t, b, comes(s, 2, qty))
				wantCould(t, b, comes(s, 2, qty), qty)
			}
		}
	})
}

func wantTooMany(t *testing.T, b api.Book, o api.Order) {
	t.Helper()
	wantDoError(t, b, o, api.ErrFull)
	wantTradesError(t, b, o, api.ErrFull)
}

// As many Trades as may be, whatever of the order is left, or of the book.
func TestSoManyTradesWithSomethingLeft(t *testing.T) {
	eachSide(func(s int) {
		b := facing(s, queue(melting(1, 400)))
		if got, trades, left, err := meet.Do(b, comes(s, 0, 500)); !same(got, facing(s)) || len(trades) != 400 || left != 100 || err != nil {
			t.Errorf("got %v, %d Trades, %d %v", got, len(trades), left, err)
		}
		b = facing(s, queue(melting(1, 401)))
		wantTooMany(t, b, comes(s, 0, 500))
		wantCould(t, b, comes(s, 0, 500), 401)
		// What it does not meet does not count.
		b = facing(s, queue(melting(1, 400)), queue(melting(2, 400)))
		if _, trades, left, err := meet.Do(b, comes(s, 1, 500)); len(trades) != 400 || left != 100 || err != nil {
			t.Errorf("got %d Trades, %d %v", len(trades), left, err)
		}
		wantTooMany(t, b, comes(s, 2, 500))
		wantCould(t, b, comes(s, 2, 500), 500)
	})
}

func ExampleDo() {
	b := api.Book{Sells: []api.Level{
		{Price: 101, Rests: []api.Rest{{Id: 8, Who: 1, Qty: 2, Hidden: 3, Show: 2}}},
		{Price: 103, Rests: []api.Rest{{Id: 5, Who: 4, Qty: 6}}},
	}}
	o := api.Order{Id: 9, Who: 2, Side: api.Buy, Kind: api.Limit, Price: 102, Qty: 9}
	fmt.Println(meet.Do(b, o))
	fmt.Println(meet.Could(b, o))
	// Output:
	// {[] [{103 [{5 4 6 0 0}]}]} [{8 9 1 2 101 2} {8 9 1 2 101 2} {8 9 1 2 101 1}] 4 <nil>
	// 5 <nil>
}
