package kinds_test

import (
	"fmt"
	"slices"
	"testing"

	"pitfloor/api"
	"pitfloor/kinds"
)

// K1: what Do answers where nothing is wrong.

func wantDo(t *testing.T, b api.Book, o api.Order, want api.Book, wantTrades []api.Trade, wantGone int) {
	t.Helper()
	got, trades, gone, err := kinds.Do(b, o)
	if !same(got, want) || !slices.Equal(trades, wantTrades) || gone != wantGone || err != nil {
		t.Errorf("Do(%v, %v): got %v %v %d %v, want %v %v %d", b, o, got, trades, gone, err, want, wantTrades, wantGone)
	}
}

// What is left of Limit rests at its Price, and nothing of it is gone.
func TestWhatIsLeftOfLimitRests(t *testing.T) {
	x, y := open(1, 2), open(2, 3)
	eachSide(func(s int) {
		b := facing(s, queue(x), queue(y))
		o := func(by int) api.Order { return comes(s, by, 7) }
		wantDo(t, b, o(-1), joined(b, s, behind(3-s, -1), rest(comer, comerWho, 7, 0, 0)), nil, 0)
		left := joined(facing(s, nil, queue(y)), s, behind(3-s, 1), rest(comer, comerWho, 5, 0, 0))
		wantDo(t, b, o(1), left, []api.Trade{traded(s, 0, x, 2)}, 0)
		all := []api.Trade{traded(s, 0, x, 2), traded(s, 2, y, 3)}
		wantDo(t, b, o(2), joined(facing(s), s, behind(3-s, 2), rest(comer, comerWho, 2, 0, 0)), all, 0)
		// The Price is the order's own, not the one at which it traded last.
		wantDo(t, b, o(4000), joined(facing(s), s, behind(3-s, 4000), rest(comer, comerWho, 2, 0, 0)), all, 0)
	})
}

func TestNothingOfLimitRestsIfAllIsTraded(t *testing.T) {
	x := open(1, 7)
	eachSide(func(s int) {
		wantDo(t, facing(s, queue(x)), comes(s, 0, 7), facing(s), []api.Trade{traded(s, 0, x, 7)}, 0)
		wantDo(t, facing(s, queue(x)), comes(s, 0, 5), facing(s, queue(open(1, 2))), []api.Trade{traded(s, 0, x, 5)}, 0)
		wantDo(t, facing(s, queue(x)), withShow(comes(s, 0, 7), 3), facing(s), []api.Trade{traded(s, 0, x, 7)}, 0)
	})
}

// Who comes to a Level that is there stands behind all who rest there; a Level of its own stands in its place.
func TestWhoComesRestsBehindTheOthers(t *testing.T) {
	own := rest(comer, comerWho, 7, 0, 0)
	eachSide(func(s int) {
		for _, kind := range []int{api.Limit, api.Post} {
			b := with(facing(s, queue(open(1, 2))), s, stairs(s, row(11, 2), row(13, 1)))
			at := func(by int) api.Order {
				o := ofKind(comes(s, 0, 7), kind)
				o.Price = behind(s, by)
				return o
			}
			wantDo(t, b, at(0), with(b, s, stairs(s, append(row(11, 2), own), row(13, 1))), nil, 0)
			wantDo(t, b, at(2), with(b, s, stairs(s, row(11, 2), append(row(13, 1), own))), nil, 0)
			wantDo(t, b, at(4), with(b, s, stairs(s, row(11, 2), row(13, 1), queue(own))), nil, 0)
			wantDo(t, b, at(-1), joined(b, s, behind(s, -1), own), nil, 0)
			between := slices.Insert(stairs(s, row(11, 2), row(13, 1)), 1, api.Level{Price: behind(s, 1), Rests: queue(own)})
			wantDo(t, b, at(1), with(b, s, between), nil, 0)
		}
	})
}

func TestWhatRestsHidesWhatShowDoesNotSay(t *testing.T) {
	x := open(1, 2)
	eachSide(func(s int) {
		b := facing(s, queue(x))
		for _, c := range []struct{ show, qty, hidden int }{{0, 5, 0}, {1, 1, 4}, {2, 2, 3}, {4, 4, 1}, {5, 5, 0}, {6, 5, 0}, {7, 5, 0}} {
			// Two of the seven are traded: Show is held against what is left.
			left := joined(facing(s), s, behind(3-s, 0), rest(comer, comerWho, c.qty, c.hidden, c.show))
			wantDo(t, b, withShow(comes(s, 0, 7), c.show), left, []api.Trade{traded(s, 0, x, 2)}, 0)
		}
		for _, kind := range []int{api.Limit, api.Post} {
			o := ofKind(withShow(comes(s, -1, 7), 3), kind)
			wantDo(t, b, o, joined(b, s, behind(3-s, -1), rest(comer, comerWho, 3, 4, 3)), nil, 0)
		}
	})
}

func TestWhatIsLeftOfNowIsGone(t *testing.T) {
	x, y := open(1, 2), open(2, 3)
	eachSide(func(s int) {
		b := facing(s, queue(x), queue(y))
		o := func(by, qty int) api.Order { return ofKind(comes(s, by, qty), api.Now) }
		all := []api.Trade{traded(s, 0, x, 2), traded(s, 2, y, 3)}
		wantDo(t, b, o(-1, 7), b, nil, 7)
		wantDo(t, b, o(1, 7), facing(s, nil, queue(y)), all[:1], 5)
		wantDo(t, b, o(2, 7), facing(s), all, 2)
		wantDo(t, b, o(2, 10000), facing(s), all, 9995)
		wantDo(t, b, o(2, 5), facing(s), all, 0)
		wantDo(t, b, o(2, 1), facing(s, queue(open(1, 1)), queue(y)), []api.Trade{traded(s, 0, x, 1)}, 0)
	})
}

func TestWhatIsLeftOfMarketIsGone(t *testing.T) {
	x, y := open(1, 2), open(2, 3)
	eachSide(func(s int) {
		b := facing(s, queue(x), queue(y))
		o := func(qty int) api.Order { return ofKind(comes(s, 0, qty), api.Market) }
		all := []api.Trade{traded(s, 0, x, 2), traded(s, 2, y, 3)}
		wantDo(t, b, o(7), facing(s), all, 2)
		wantDo(t, b, o(10000), facing(s), all, 9995)
		wantDo(t, b, o(5), facing(s), all, 0)
		wantDo(t, b, o(2), facing(s, nil, queue(y)), all[:1], 0)
	})
}

func TestWholeIsTradedWhole(t *testing.T) {
	x, ice := open(1, 2), rest(2, 3, 2, 5, 4)
	eachSide(func(s int) {
		b := facing(s, queue(x), queue(ice))
		o := func(by, qty int) api.Order { return ofKind(comes(s, by, qty), api.Whole) }
		all := []api.Trade{traded(s, 0, x, 2), traded(s, 2, ice, 2), traded(s, 2, ice, 4), traded(s, 2, ice, 1)}
		wantDo(t, b, o(0, 1), facing(s, queue(open(1, 1)), queue(ice)), []api.Trade{traded(s, 0, x, 1)}, 0)
		wantDo(t, b, o(0, 2), facing(s, nil, queue(ice)), all[:1], 0)
		wantDo(t, b, o(2, 8), facing(s, nil, queue(rest(2, 3, 1, 0, 4))), all[:3], 0)
		// What is hidden counts: there are nine in all.
		wantDo(t, b, o(2, 9), facing(s), all, 0)
		wantDoError(t, b, o(2, 10), api.ErrPoor)
		wantDoError(t, b, o(2, 10000), api.ErrPoor)
		// What it does not meet does not count.
		wantDoError(t, b, o(0, 3), api.ErrPoor)
		wantDoError(t, b, o(1, 9), api.ErrPoor)
		wantDoError(t, b, o(-1, 1), api.ErrPoor)
		// What rests on its own side does not count.
		wantDoError(t, facing(s), o(0, 1), api.ErrPoor)
		wantDoError(t, api.Book{}, o(0, 1), api.ErrPoor)
	})
}

func TestPostRestsOrIsRefused(t *testing.T) {
	eachSide(func(s int) {
		b := facing(s, queue(open(1, 2)), queue(open(2, 3)))
		o := func(by, qty int) api.Order { return ofKind(comes(s, by, qty), api.Post) }
		for _, by := range []int{-3, -2, -1} {
			for _, qty := range []int{1, 7, 10000} {
				wantDo(t, b, o(by, qty), joined(b, s, behind(3-s, by), rest(comer, comerWho, qty, 0, 0)), nil, 0)
			}
		}
		for _, by := range []int{0, 1, 2, 3, 4000} {
			for _, qty := range []int{1, 2, 5, 7, 10000} {
				wantDoError(t, b, o(by, qty), api.ErrCross)
				wantDoError(t, b, withShow(o(by, qty), 1), api.ErrCross)
			}
		}
	})
}

func TestNobodyIsThere(t *testing.T) {
	eachSide(func(s int) {
		for _, empty := range []api.Book{{}, {Buys: []api.Level{}, Sells: []api.Level{}}} {
			for _, kind := range []int{api.Limit, api.Post} {
				o := ofKind(comes(s, 0, 7), kind)
				wantDo(t, empty, o, joined(api.Book{}, s, o.Price, rest(comer, comerWho, 7, 0, 0)), nil, 0)
			}
			wantDo(t, empty, ofKind(comes(s, 0, 7), api.Market), api.Book{}, nil, 7)
			wantDo(t, empty, ofKind(comes(s, 0, 7), api.Now), api.Book{}, nil, 7)
		}
	})
}

func TestAtTheEndsOfPrices(t *testing.T) {
	for _, price := range []int{1, 10000} {
		eachSide(func(s int) {
			level := func(r api.Rest) []api.Level { return []api.Level{{Price: price, Rests: queue(r)}} }
			own := rest(7, 1, 1, 0, 0)
			o := api.Order{Id: 7, Who: 1, Side: s, Kind: api.Limit, Price: price, Qty: 3}
			trade := api.Trade{Maker: 1, Taker: 7, From: 2, To: 1, Price: price, Qty: 2}
			if s == api.Sell {
				trade.From, trade.To = 1, 2
			}
			b := with(api.Book{}, 3-s, level(open(1, 2)))
			wantDo(t, b, o, with(api.Book{}, s, level(own)), []api.Trade{trade}, 0)
			wantDo(t, b, ofKind(o, api.Now), api.Book{}, []api.Trade{trade}, 1)
			wantDoError(t, b, ofKind(o, api.Whole), api.ErrPoor)
			wantDoError(t, b, ofKind(o, api.Post), api.ErrCross)
		})
	}
}

// Chapter 8 is who keeps one from trading with oneself.
func TestOneMayTradeWithOneself(t *testing.T) {
	own := rest(1, comerWho, 4, 0, 0)
	eachSide(func(s int) {
		want := api.Trade{Maker: 1, Taker: comer, From: comerWho, To: comerWho, Price: behind(3-s, 0), Qty: 4}
		left := joined(facing(s), s, behind(3-s, 0), rest(comer, comerWho, 3, 0, 0))
		wantDo(t, facing(s, queue(own)), comes(s, 0, 7), left, []api.Trade{want}, 0)
		wantDo(t, facing(s, queue(own)), ofKind(comes(s, 0, 4), api.Whole), facing(s), []api.Trade{want}, 0)
		wantDoError(t, facing(s, queue(own)), ofKind(comes(s, 0, 4), api.Post), api.ErrCross)
	})
}

// In a full book nothing more rests; what trades, or is gone, does not ask for room.
func TestOfAFullBook(t *testing.T) {
	eachSide(func(s int) {
		b := facing(s, row(1, 20), row(21, 39))
		for _, qty := range []int{1, 7, 10000} {
			wantDoError(t, b, comes(s, -1, qty), api.ErrFull)
			wantDoError(t, b, withShow(comes(s, -1, qty), 1), api.ErrFull)
			wantDoError(t, b, ofKind(comes(s, -1, qty), api.Post), api.ErrFull)
			wantDoError(t, b, ofKind(comes(s, 0, qty), api.Post), api.ErrCross)
			wantDoError(t, b, ofKind(comes(s, -1, qty), api.Whole), api.ErrPoor)
			wantDo(t, b, ofKind(comes(s, -1, qty), api.Now), b, nil, qty)
		}
		first := []api.Trade{traded(s, 0, open(1, 1), 1)}
		wantDo(t, b, comes(s, 0, 1), facing(s, row(2, 19), row(21, 39)), first, 0)
		// What was taken leaves room for what is left.
		var all []api.Trade
		for _, r := range row(1, 20) {
			all = append(all, traded(s, 0, r, 1))
		}
		own := rest(comer, comerWho, 1, 0, 0)
		wantDo(t, b, comes(s, 0, 21), joined(facing(s, nil, row(21, 39)), s, behind(3-s, 0), own), all, 0)
	})
}

// Just as many as may rest do so, on whichever side they are.
func TestTheLastPlaceOfABook(t *testing.T) {
	own := rest(comer, comerWho, 7, 0, 0)
	eachSide(func(s int) {
		for _, kind := range []int{api.Limit, api.Post} {
			o := ofKind(comes(s, -1, 7), kind)
			b := facing(s, row(1, 58))
			wantDo(t, b, o, joined(b, s, o.Price, own), nil, 0)
			wantDoError(t, facing(s, row(1, 59)), o, api.ErrFull)
			alone := with(api.Book{}, s, stairs(s, row(1, 59)))
			wantDo(t, alone, o, joined(alone, s, o.Price, own), nil, 0)
			wantDoError(t, with(api.Book{}, s, stairs(s, row(1, 60))), o, api.ErrFull)
			wantDoError(t, with(api.Book{}, 3-s, stairs(3-s, row(1, 60))), o, api.ErrFull)
		}
		// One goes, and one comes in its place.
		b := with(api.Book{}, 3-s, stairs(3-s, row(1, 1), row(2, 59)))
		left := joined(with(api.Book{}, 3-s, stairs(3-s, nil, row(2, 59))), s, behind(3-s, 0), own)
		wantDo(t, b, comes(s, 0, 8), left, []api.Trade{traded(s, 0, open(1, 1), 1)}, 0)
	})
}

func ExampleDo() {
	b := api.Book{Sells: []api.Level{
		{Price: 101, Rests: []api.Rest{{Id: 8, Who: 1, Qty: 2, Hidden: 3, Show: 2}}},
		{Price: 103, Rests: []api.Rest{{Id: 5, Who: 4, Qty: 6}}},
	}}
	o := api.Order{Id: 9, Who: 2, Side: api.Buy, Price: 102, Qty: 7}
	for _, o.Kind = range []int{api.Limit, api.Now, api.Whole, api.Post} {
		fmt.Println(kinds.Do(b, o))
	}
	// Output:
	// {[{102 [{9 2 2 0 0}]}] [{103 [{5 4 6 0 0}]}]} [{8 9 1 2 101 2} {8 9 1 2 101 2} {8 9 1 2 101 1}] 0 <nil>
	// {[] [{103 [{5 4 6 0 0}]}]} [{8 9 1 2 101 2} {8 9 1 2 101 2} {8 9 1 2 101 1}] 2 <nil>
	// {[] []} [] 0 ErrPoor
	// {[] []} [] 0 ErrCross
}
