package margin_test

import (
	"testing"

	"pitfloor/api"
	"pitfloor/book"
	"pitfloor/margin"
	"pitfloor/purse"
	"pitfloor/self"
)

// What is put by is just what is needed: held against purses and books, through which orders go.

// cost of so much, added up piece by piece.
func cost(side, price, qty int) (a answer) {
	for range qty {
		if side == api.Buy {
			a.cash += price
		} else {
			a.stock++
		}
	}
	return a
}

// highest price that an order may come to pay.
func highest(o api.Order) int {
	if o.Kind == api.Market {
		return 10000
	}
	return o.Price
}

// spoken is M1's Back of Trades with which nothing is wrong, piece by piece.
func spoken(o api.Order, l []api.Trade, gone int) answer {
	a := cost(o.Side, highest(o), gone)
	for _, v := range l {
		for range v.Qty {
			if o.Side == api.Buy {
				a.cash += highest(o) - v.Price
			}
		}
	}
	return a
}

// TestEverywhere holds all calls on small numbers against the promise's words.
func TestEverywhere(t *testing.T) {
	for _, price := range []int{3, 4, 7} {
		for qty := 1; qty <= 4; qty++ {
			eachComing(price, qty, func(o api.Order) {
				wantFor(t, o, cost(o.Side, highest(o), qty))
				for hidden := range 4 {
					wantLeft(t, rest(qty, hidden, 4), o.Side, price, cost(o.Side, price, qty+hidden))
				}
				for gone := 0; gone <= qty; gone++ {
					eachTrades(o, 3, func(l []api.Trade) { wantBack(t, o, l, gone, spoken(o, l, gone)) })
				}
			})
		}
	}
}

// eachTrades goes over lists of up to so many small Trades that an order may have made.
func eachTrades(o api.Order, most int, do func(l []api.Trade)) {
	var further func(l []api.Trade)
	further = func(l []api.Trade) {
		do(l)
		if len(l) == most {
			return
		}
		for by := range 3 {
			for qty := 1; qty <= 3; qty++ {
				price := better(o.Side, max(o.Price, 3), by)
				further(append(l[:len(l):len(l)], traded(o.Side, price, qty)))
			}
		}
	}
	further(nil)
}

// facing has Rests of others, and of the one that comes, on the side that an order from a side meets.
func facing(side int) api.Book {
	l := []api.Level{
		{Price: better(side, 50, 2), Rests: []api.Rest{{Id: 11, Who: 1, Qty: 2}, {Id: 12, Who: takerWho, Qty: 1, Hidden: 2, Show: 1}}},
		{Price: 50, Rests: []api.Rest{{Id: 13, Who: 2, Qty: 1, Hidden: 3, Show: 2}, {Id: 14, Who: takerWho, Qty: 2}}},
		{Price: better(side, 50, -2), Rests: []api.Rest{{Id: 15, Who: 1, Qty: 3}}},
	}
	if side == api.Buy {
		return api.Book{Sells: l}
	}
	return api.Book{Buys: l}
}

// left for all Rests of a side, by trader: what Left tells of each.
func left(t *testing.T, side int, l []api.Level) (all [10]answer) {
	t.Helper()
	for _, level := range l {
		for _, r := range level.Rests {
			a := answered(margin.Left(r, side, level.Price))
			if a.err != api.OK {
				t.Errorf("Left(%+v, %d, %d): %v", r, side, level.Price, a.err)
			}
			all[r.Who].cash += a.cash
			all[r.Who].stock += a.stock
		}
	}
	return all
}

// needed by trader, for all that rests in a book.
func needed(t *testing.T, b api.Book) [10]answer {
	t.Helper()
	buys, sells := left(t, api.Buy, b.Buys), left(t, api.Sell, b.Sells)
	for who := range buys {
		buys[who].stock = sells[who].stock
	}
	return buys
}

// wealthy purses, in which is put by just what is needed for a book.
func wealthy(t *testing.T, b api.Book) *purse.Purses {
	t.Helper()
	p := purse.New()
	for who, a := range needed(t, b) {
		if who > 0 {
			wantNil(t, p.Pay(who, 500000000), p.Give(who, 500000000), p.Hold(who, a.cash, a.stock))
		}
	}
	return p
}

func wantNil(t *testing.T, errs ...error) {
	t.Helper()
	for _, err := range errs {
		if err != nil {
			t.Errorf("got %v", err)
		}
	}
}

// wantHeld: just what is needed for a book is put by, no more and no less.
func wantHeld(t *testing.T, p *purse.Purses, b api.Book, o api.Order, mode int) {
	t.Helper()
	for who, want := range needed(t, b) {
		if who == 0 {
			continue
		}
		has, err := p.Get(who)
		if got := answered(has.Held, has.HeldStock, err); got != want {
			t.Errorf("%+v, mode %d: trader %d has put by %v, needed are %v", o, mode, who, got, want)
		}
	}
}

// eachDone goes over orders that come to a book in all modes, and are not refused.
func eachDone(do func(b api.Book, o api.Order, mode int)) {
	for by := -3; by <= 3; by++ {
		for qty := 1; qty <= 16; qty++ {
			eachComing(50+by, qty, func(o api.Order) {
				for mode := api.Allow; mode <= api.DropBoth; mode++ {
					if _, _, _, _, err := self.Do(facing(o.Side), o, mode); err == nil {
						do(facing(o.Side), o, mode)
					}
				}
			})
		}
	}
}

// freeDropped frees all that was Left for Rests of the trader who came: they went, and nothing of them was traded.
func freeDropped(t *testing.T, p *purse.Purses, b api.Book, ids []int) {
	t.Helper()
	for _, id := range ids {
		side, price, r, err := book.Find(b, id)
		cash, stock, bad := margin.Left(r, side, price)
		wantNil(t, err, bad, p.Free(r.Who, cash, stock))
	}
}

// What is put by For an order, less what its Trades took, and what comes Back, is what is Left for what rests of it.
func TestWhatIsPutByIsJustWhatIsNeeded(t *testing.T) {
	count := 0
	eachDone(func(b api.Book, o api.Order, mode int) {
		count++
		p := wealthy(t, b)
		cash, stock, err := margin.For(o)
		wantNil(t, err, p.Hold(o.Who, cash, stock))
		done, l, gone, ids, err := self.Do(b, o, mode)
		wantNil(t, err)
		for _, v := range l {
			wantNil(t, p.Trade(v))
		}
		cash, stock, err = margin.Back(o, l, gone)
		wantNil(t, err, p.Free(o.Who, cash, stock))
		freeDropped(t, p, b, ids)
		wantHeld(t, p, done, o, mode)
	})
	if count < 2000 {
		t.Errorf("only %d orders were done", count)
	}
}
