package self_test

import (
	"fmt"
	"testing"

	"pitfloor/api"
	"pitfloor/self"
)

// S1: what Do answers where nothing is wrong.

func TestAllowLetsOneTradeWithOneself(t *testing.T) {
	x, y := own(1, 2), open(2, 3)
	eachSide(func(s int) {
		b := facing(s, queue(x, y))
		all := []api.Trade{traded(s, 0, x, 2), traded(s, 0, y, 3)}
		o := comes(s, 0, 7)
		wantDo(t, b, o, api.Allow, answer{book: joined(facing(s), o, 2), trades: all})
		wantDo(t, b, ofKind(o, api.Now), api.Allow, answer{book: facing(s), trades: all, gone: 2})
		wantDo(t, b, ofKind(comes(s, 0, 5), api.Whole), api.Allow, answer{book: facing(s), trades: all})
		wantError(t, b, ofKind(o, api.Whole), api.Allow, api.ErrPoor)
		wantError(t, b, ofKind(o, api.Post), api.Allow, api.ErrCross)
	})
}

// The first one that the order would take is its own trader's.
func TestOnesOwnIsFirst(t *testing.T) {
	x, y := own(1, 2), open(2, 3)
	eachSide(func(s int) {
		b := facing(s, queue(x, y))
		for _, kind := range []int{api.Limit, api.Market, api.Now} {
			o := ofKind(comes(s, 0, 3), kind)
			wantDo(t, b, o, api.DropTaker, answer{book: b, gone: 3})
			wantDo(t, b, o, api.DropMaker, answer{book: facing(s), trades: []api.Trade{traded(s, 0, y, 3)}, ids: []int{1}})
			wantDo(t, b, o, api.DropBoth, answer{book: facing(s, queue(y)), gone: 3, ids: []int{1}})
		}
	})
}

// What stands ahead of one's own is traded in all modes.
func TestOnesOwnStandsBehindOthers(t *testing.T) {
	x, y, z := open(1, 2), own(2, 4), open(3, 3)
	eachSide(func(s int) {
		b := facing(s, queue(x, y, z))
		first, both := []api.Trade{traded(s, 0, x, 2)}, []api.Trade{traded(s, 0, x, 2), traded(s, 0, z, 3)}
		o := comes(s, 0, 7)
		wantDo(t, b, o, api.DropTaker, answer{book: facing(s, queue(y, z)), trades: first, gone: 5})
		wantDo(t, b, o, api.DropMaker, answer{book: joined(facing(s), o, 2), trades: both, ids: []int{2}})
		wantDo(t, b, o, api.DropBoth, answer{book: facing(s, queue(z)), trades: first, gone: 5, ids: []int{2}})
	})
}

// One's own at a further price is come upon as well, and its Level goes with it.
func TestOnesOwnStandsAtAnotherPrice(t *testing.T) {
	x, y, z := rest(1, 1, 2, 3, 4), own(2, 4), open(3, 3)
	eachSide(func(s int) {
		b := facing(s, queue(x), queue(y), queue(z))
		trades := []api.Trade{traded(s, 0, x, 2), traded(s, 0, x, 3), traded(s, 4, z, 3)}
		o := comes(s, 4, 10)
		wantDo(t, b, o, api.DropTaker, answer{book: facing(s, nil, queue(y), queue(z)), trades: trades[:2], gone: 5})
		wantDo(t, b, o, api.DropMaker, answer{book: joined(facing(s), o, 2), trades: trades, ids: []int{2}})
		wantDo(t, b, o, api.DropBoth, answer{book: facing(s, nil, nil, queue(z)), trades: trades[:2], gone: 5, ids: []int{2}})
	})
}

// An order that is all taken looks at nobody any more.
func TestOnesOwnStaysIfNothingIsLeft(t *testing.T) {
	x, y, z := open(1, 2), own(2, 4), own(3, 3)
	eachSide(func(s int) {
		eachMode(func(mode int) {
			b := facing(s, queue(x, y), queue(z))
			for _, kind := range []int{api.Limit, api.Market, api.Now, api.Whole} {
				all := answer{book: facing(s, queue(y), queue(z)), trades: []api.Trade{traded(s, 0, x, 2)}}
				wantDo(t, b, ofKind(comes(s, 2, 2), kind), mode, all)
				some := answer{book: facing(s, queue(open(1, 1), y), queue(z)), trades: []api.Trade{traded(s, 0, x, 1)}}
				wantDo(t, b, ofKind(comes(s, 2, 1), kind), mode, some)
			}
			next := answer{book: facing(s, nil, queue(z)), trades: []api.Trade{traded(s, 0, x, 2)}}
			wantDo(t, facing(s, queue(x), queue(z)), comes(s, 2, 2), mode, next)
		})
	})
}

// One's own that the order does not meet, or that rests on its own side, is not looked at.
func TestOnesOwnStaysIfItIsNotMet(t *testing.T) {
	x, y := open(1, 2), own(2, 4)
	eachSide(func(s int) {
		eachMode(func(mode int) {
			b := facing(s, queue(x), queue(y))
			o := comes(s, 1, 7)
			met := facing(s, nil, queue(y))
			trades := []api.Trade{traded(s, 0, x, 2)}
			wantDo(t, b, o, mode, answer{book: joined(met, o, 5), trades: trades})
			wantDo(t, b, ofKind(o, api.Now), mode, answer{book: met, trades: trades, gone: 5})
			far := comes(s, -1, 7)
			wantDo(t, b, far, mode, answer{book: joined(b, far, 7)})
			wantDo(t, b, ofKind(far, api.Now), mode, answer{book: b, gone: 7})
		})
	})
}

// All that are come upon go with DropMaker, as they are come upon; the first alone with DropBoth.
func TestManyOfOnesOwn(t *testing.T) {
	x, y := open(2, 2), open(5, 3)
	eachSide(func(s int) {
		b := facing(s, queue(own(9, 1), own(4, 9), x, own(1, 2)), queue(own(7, 1), y, own(3, 6)), queue(own(6, 1)))
		all := []api.Trade{traded(s, 0, x, 2), traded(s, 2, y, 3)}
		o := comes(s, 2, 6)
		maker := answer{book: joined(facing(s, nil, nil, queue(own(6, 1))), o, 1), trades: all, ids: []int{9, 4, 1, 7, 3}}
		wantDo(t, b, o, api.DropMaker, maker)
		// Just as much as others have: what stands behind is not come upon.
		stays := answer{book: facing(s, nil, queue(own(3, 6)), queue(own(6, 1))), trades: all, ids: []int{9, 4, 1, 7}}
		wantDo(t, b, comes(s, 2, 5), api.DropMaker, stays)
		market := answer{book: facing(s), trades: all, gone: 4, ids: []int{9, 4, 1, 7, 3, 6}}
		wantDo(t, b, ofKind(comes(s, 0, 9), api.Market), api.DropMaker, market)
		left := facing(s, queue(own(4, 9), x, own(1, 2)), levels(b, 3-s)[1].Rests, queue(own(6, 1)))
		wantDo(t, b, o, api.DropBoth, answer{book: left, gone: 6, ids: []int{9}})
		wantDo(t, b, o, api.DropTaker, answer{book: b, gone: 6})
	})
}

// With a Rest goes what it hides; it is come upon once.
func TestWhatOnesOwnHidesIsGoneToo(t *testing.T) {
	ice, x := rest(1, comerWho, 2, 9, 3), open(2, 1)
	eachSide(func(s int) {
		b := facing(s, queue(ice, x))
		o := comes(s, 0, 7)
		wantDo(t, b, o, api.DropTaker, answer{book: b, gone: 7})
		wantDo(t, b, o, api.DropMaker, answer{book: joined(facing(s), o, 6), trades: []api.Trade{traded(s, 0, x, 1)}, ids: []int{1}})
		wantDo(t, b, o, api.DropBoth, answer{book: facing(s, queue(x)), gone: 7, ids: []int{1}})
	})
}

// What others hide comes behind one's own: there one's own is come upon ahead of it.
func TestWhatOthersHideComesBehindOnesOwn(t *testing.T) {
	ice, mine := rest(1, 1, 2, 5, 3), own(2, 4)
	eachSide(func(s int) {
		b := facing(s, queue(ice, mine))
		o := ofKind(comes(s, 0, 9), api.Now)
		trades := []api.Trade{traded(s, 0, ice, 2), traded(s, 0, ice, 3), traded(s, 0, ice, 2)}
		melted := rest(1, 1, 3, 2, 3)
		wantDo(t, b, o, api.DropTaker, answer{book: facing(s, queue(mine, melted)), trades: trades[:1], gone: 7})
		wantDo(t, b, o, api.DropMaker, answer{book: facing(s), trades: trades, gone: 2, ids: []int{2}})
		wantDo(t, b, o, api.DropBoth, answer{book: facing(s, queue(melted)), trades: trades[:1], gone: 7, ids: []int{2}})
		// Of what is shown ahead of it just so much is taken: it is not come upon.
		eachMode(func(mode int) {
			wantDo(t, b, comes(s, 0, 2), mode, answer{book: facing(s, queue(mine, melted)), trades: trades[:1]})
		})
	})
}

// What rests keeps the order's Show, however little of it was left for each part of what was taken.
func TestWhatIsLeftHidesWhatShowDoesNotSay(t *testing.T) {
	x, mine, y := open(1, 1), own(2, 4), open(3, 2)
	eachSide(func(s int) {
		b := facing(s, queue(x, mine, y))
		trades := []api.Trade{traded(s, 0, x, 1), traded(s, 0, y, 2)}
		for _, c := range []struct{ show, qty, hidden int }{{1, 1, 3}, {3, 3, 1}, {4, 4, 0}, {5, 4, 0}, {7, 4, 0}} {
			o := withShow(comes(s, 0, 7), c.show)
			left := joined(facing(s), o, 4)
			levels(left, s)[0].Rests[0] = rest(comer, comerWho, c.qty, c.hidden, c.show)
			wantDo(t, b, o, api.DropMaker, answer{book: left, trades: trades, ids: []int{2}})
			wantDo(t, b, o, api.DropTaker, answer{book: facing(s, queue(mine, y)), trades: trades[:1], gone: 6})
		}
	})
}

func TestWholeIsTradedWholeOrRefused(t *testing.T) {
	x, mine, y := open(1, 2), own(2, 4), open(3, 3)
	eachSide(func(s int) {
		b := facing(s, queue(x, mine), queue(y))
		o := func(by, qty int) api.Order { return ofKind(comes(s, by, qty), api.Whole) }
		trades := []api.Trade{traded(s, 0, x, 2), traded(s, 2, y, 3)}
		wantDo(t, b, o(2, 5), api.DropMaker, answer{book: facing(s), trades: trades, ids: []int{2}})
		for _, qty := range []int{3, 4, 5, 6, 9} {
			wantError(t, b, o(2, qty), api.DropTaker, api.ErrPoor)
			wantError(t, b, o(2, qty), api.DropBoth, api.ErrPoor)
		}
		// What is one's own does not count, in whichever mode.
		wantError(t, b, o(2, 6), api.DropMaker, api.ErrPoor)
		wantError(t, b, o(2, 9), api.DropMaker, api.ErrPoor)
		wantError(t, b, o(0, 3), api.DropMaker, api.ErrPoor)
		eachMode(func(mode int) {
			wantDo(t, b, o(2, 2), mode, answer{book: facing(s, queue(mine), queue(y)), trades: trades[:1]})
			wantError(t, facing(s, queue(mine)), o(0, 4), mode, api.ErrPoor)
			wantError(t, b, o(-1, 1), mode, api.ErrPoor)
			wantError(t, api.Book{}, o(0, 1), mode, api.ErrPoor)
		})
		// What another one hides behind one's own counts with DropMaker alone.
		ice := rest(1, 1, 1, 4, 2)
		hides := facing(s, queue(ice, mine))
		wantError(t, hides, o(0, 5), api.DropTaker, api.ErrPoor)
		wantError(t, hides, o(0, 5), api.DropBoth, api.ErrPoor)
		melted := []api.Trade{traded(s, 0, ice, 1), traded(s, 0, ice, 2), traded(s, 0, ice, 2)}
		wantDo(t, hides, o(0, 5), api.DropMaker, answer{book: facing(s), trades: melted, ids: []int{2}})
	})
}

// Post is refused whoever it is that it meets, one's own too; nobody is dropped then.
func TestPostRestsOrIsRefused(t *testing.T) {
	x, mine := open(1, 2), own(2, 4)
	eachSide(func(s int) {
		eachMode(func(mode int) {
			for _, b := range []api.Book{facing(s, queue(mine)), facing(s, queue(x)), facing(s, queue(x, mine)), facing(s, queue(mine, x)), facing(s, queue(mine), queue(x))} {
				for _, qty := range []int{1, 2, 4, 7, 10000} {
					for _, by := range []int{0, 1, 2, 4000} {
						wantError(t, b, ofKind(comes(s, by, qty), api.Post), mode, api.ErrCross)
						wantError(t, b, ofKind(withShow(comes(s, by, qty), 1), api.Post), mode, api.ErrCross)
					}
					o := ofKind(comes(s, -1, qty), api.Post)
					wantDo(t, b, o, mode, answer{book: joined(b, o, qty)})
				}
			}
		})
	})
}

func TestNobodyIsThere(t *testing.T) {
	eachSide(func(s int) {
		eachMode(func(mode int) {
			for _, empty := range []api.Book{{}, {Buys: []api.Level{}, Sells: []api.Level{}}} {
				o := comes(s, 0, 7)
				wantDo(t, empty, o, mode, answer{book: joined(api.Book{}, o, 7)})
				wantDo(t, empty, ofKind(o, api.Post), mode, answer{book: joined(api.Book{}, o, 7)})
				wantDo(t, empty, ofKind(o, api.Market), mode, answer{gone: 7})
				wantDo(t, empty, ofKind(o, api.Now), mode, answer{gone: 7})
			}
		})
	})
}

// Who is one's own is told by the trader alone, whichever one comes.
func TestEachTraderIsOneself(t *testing.T) {
	for who := 1; who <= api.MaxWho; who++ {
		for other := 1; other <= api.MaxWho; other++ {
			b := api.Book{Sells: []api.Level{{Price: ask, Rests: queue(rest(1, other, 5, 0, 0))}}}
			o := api.Order{Id: 2, Who: who, Side: api.Buy, Kind: api.Now, Price: ask, Qty: 5}
			want := answer{trades: []api.Trade{{Maker: 1, Taker: 2, From: other, To: who, Price: ask, Qty: 5}}}
			if who == other {
				want = answer{gone: 5, ids: []int{1}}
			}
			wantDo(t, b, o, api.DropBoth, want)
		}
	}
}

// In a full book nothing more rests, but who is dropped makes room, and what is gone does not ask for it.
func TestOfAFullBook(t *testing.T) {
	eachSide(func(s int) {
		b := facing(s, queue(own(1, 4)), row(2, 58))
		o := comes(s, 0, 7)
		wantDo(t, b, o, api.DropMaker, answer{book: joined(facing(s, nil, row(2, 58)), o, 7), ids: []int{1}})
		wantDo(t, b, o, api.DropTaker, answer{book: b, gone: 7})
		wantDo(t, b, o, api.DropBoth, answer{book: facing(s, nil, row(2, 58)), gone: 7, ids: []int{1}})
		eachMode(func(mode int) {
			wantError(t, b, comes(s, -1, 7), mode, api.ErrFull)
			wantError(t, b, ofKind(comes(s, -1, 7), api.Post), mode, api.ErrFull)
			wantError(t, b, ofKind(comes(s, 0, 7), api.Post), mode, api.ErrCross)
			wantError(t, b, ofKind(comes(s, -1, 7), api.Whole), mode, api.ErrPoor)
			wantDo(t, b, ofKind(comes(s, -1, 7), api.Now), mode, answer{book: b, gone: 7})
		})
	})
}

// All that a book may have may be one's own.
func TestABookOfOnesOwn(t *testing.T) {
	eachSide(func(s int) {
		var mine []api.Rest
		var ids []int
		for id := 60; id > 0; id-- {
			mine, ids = append(mine, rest(id, comerWho, 10000, 10000, 10000)), append(ids, id)
		}
		b := with(api.Book{}, 3-s, stairs(3-s, mine[:20], mine[20:59], mine[59:]))
		o := comes(s, 4, 10000)
		wantDo(t, b, o, api.DropMaker, answer{book: joined(api.Book{}, o, 10000), ids: ids})
		wantDo(t, b, ofKind(o, api.Market), api.DropMaker, answer{gone: 10000, ids: ids})
		wantDo(t, b, o, api.DropBoth, answer{book: with(b, 3-s, stairs(3-s, mine[1:20], mine[20:59], mine[59:])), gone: 10000, ids: ids[:1]})
		wantDo(t, b, o, api.DropTaker, answer{book: b, gone: 10000})
	})
}

func TestAtTheEndsOfPrices(t *testing.T) {
	for _, price := range []int{1, 10000} {
		eachSide(func(s int) {
			mine, x := own(1, 2), open(2, 3)
			b := with(api.Book{}, 3-s, []api.Level{{Price: price, Rests: queue(mine, x)}})
			o := comes(s, 0, 4)
			o.Price = price
			trade := traded(s, 0, x, 3)
			trade.Price = price
			wantDo(t, b, o, api.DropMaker, answer{book: joined(api.Book{}, o, 1), trades: []api.Trade{trade}, ids: []int{1}})
			wantDo(t, b, o, api.DropTaker, answer{book: b, gone: 4})
			wantDo(t, b, o, api.DropBoth, answer{book: with(api.Book{}, 3-s, []api.Level{{Price: price, Rests: queue(x)}}), gone: 4, ids: []int{1}})
		})
	}
}

func ExampleDo() {
	b := api.Book{Sells: []api.Level{
		{Price: 101, Rests: []api.Rest{{Id: 8, Who: 1, Qty: 2}, {Id: 6, Who: 2, Qty: 4}}},
		{Price: 102, Rests: []api.Rest{{Id: 5, Who: 4, Qty: 6}}},
	}}
	o := api.Order{Id: 9, Who: 2, Side: api.Buy, Kind: api.Limit, Price: 102, Qty: 9}
	for _, mode := range []int{api.Allow, api.DropTaker, api.DropMaker, api.DropBoth, 4} {
		fmt.Println(self.Do(b, o, mode))
	}
	// Output:
	// {[] [{102 [{5 4 3 0 0}]}]} [{8 9 1 2 101 2} {6 9 2 2 101 4} {5 9 4 2 102 3}] 0 [] <nil>
	// {[] [{101 [{6 2 4 0 0}]} {102 [{5 4 6 0 0}]}]} [{8 9 1 2 101 2}] 7 [] <nil>
	// {[{102 [{9 2 1 0 0}]}] []} [{8 9 1 2 101 2} {5 9 4 2 102 6}] 0 [6] <nil>
	// {[] [{102 [{5 4 6 0 0}]}]} [{8 9 1 2 101 2}] 7 [6] <nil>
	// {[] []} [] 0 [] ErrRange
}
