package meet_test

import (
	"math"
	"slices"
	"testing"

	"pitfloor/api"
	"pitfloor/meet"
)

// The rules that hold everywhere (P1 to P4 of the document), asked of package meet.

// lists that all three calls answer.
func lists(b api.Book, o api.Order) (left api.Book, trades, told []api.Trade) {
	left, trades, _, _ = meet.Do(b, o)
	told, _ = meet.Trades(b, o)
	meet.Could(b, o)
	return left, trades, told
}

// eachMeeting goes over books of some shapes, and orders that take nothing, a part or all of them, or are refused.
func eachMeeting(do func(b api.Book, o api.Order)) {
	eachSide(func(s int) {
		books := []api.Book{
			{}, facing(s), facing(s, row(1, 3)), facing(s, row(1, 2), row(3, 4), row(7, 1)), facing(s, row(1, 30), row(31, 29)),
			facing(s, queue(rest(1, 1, 1, 9, 2), open(2, 3)), queue(rest(3, 1, 2, 9, 3), open(4, 1))),
			facing(s, queue(melting(1, 9000)), row(2, 3)), facing(s, row(1, 61)),
		}
		for _, b := range books {
			for _, qty := range []int{0, 1, 2, 3, 4, 6, 20, 500, 10000} {
				do(b, comes(s, -1, qty))
				do(b, comes(s, 0, qty))
				do(b, comes(s, 4, qty))
				do(b, ofKind(comes(s, 0, qty), api.Market))
			}
			do(b, withStop(comes(s, 0, 3), 50))
			do(b, withId(comes(s, 0, 3), 1))
		}
	})
}

// roomyLevels have other Levels behind their length, and other Rests behind that of each.
func roomyLevels(l []api.Level) []api.Level {
	l = copiedLevels(l)
	for i := range l {
		count := len(l[i].Rests)
		l[i].Rests = append(l[i].Rests, row(500, 70)...)[:count]
	}
	more := []api.Level{{Price: 300, Rests: row(8001, 1)}, {Price: 200, Rests: row(8002, 2)}, {Price: 100}}
	return append(l, more...)[:len(l)]
}

func roomy(b api.Book) api.Book {
	return api.Book{Buys: roomyLevels(b.Buys), Sells: roomyLevels(b.Sells)}
}

// whole gives a book with all that lies behind its lengths.
func whole(b api.Book) api.Book {
	b = api.Book{Buys: slices.Clone(b.Buys[:cap(b.Buys)]), Sells: slices.Clone(b.Sells[:cap(b.Sells)])}
	for _, l := range [][]api.Level{b.Buys, b.Sells} {
		for i := range l {
			l[i].Rests = slices.Clone(l[i].Rests[:cap(l[i].Rests)])
		}
	}
	return b
}

func scribbleRests(l []api.Rest) {
	l = l[:cap(l)]
	for i := range l {
		l[i] = rest(-1, -1, -1, -1, -1)
	}
}

func scribbleLevels(l []api.Level) {
	l = l[:cap(l)]
	for i := range l {
		scribbleRests(l[i].Rests)
		l[i] = api.Level{Price: -1}
	}
}

// scribble over a book, and all that lies behind its lengths.
func scribble(b api.Book) {
	scribbleLevels(b.Buys)
	scribbleLevels(b.Sells)
}

func scribbleTrades(l []api.Trade) {
	l = l[:cap(l)]
	for i := range l {
		l[i] = api.Trade{Maker: -1}
	}
}

func TestWhatIsHandedInStaysAsItWas(t *testing.T) {
	eachMeeting(func(b api.Book, o api.Order) {
		b = roomy(b)
		was := whole(b)
		left, trades, told := lists(b, o)
		scribble(left)
		scribbleTrades(trades)
		scribbleTrades(told)
		if !same(whole(b), was) {
			t.Errorf("%v, %v: what was handed in is another one", b, o)
		}
	})
}

// What is handed in may be written over later: nothing of it is kept.
func TestAnswersStayAsTheyWere(t *testing.T) {
	eachMeeting(func(b api.Book, o api.Order) {
		b = roomy(b)
		left, trades, told := lists(b, o)
		was := copied(left)
		scribble(b)
		if !same(left, was) {
			t.Errorf("%v: the book %v is another one, %v", o, was, left)
		}
		scribbleTrades(trades)
		if len(told) > 0 && told[0].Maker < 0 {
			t.Errorf("%v: two answers share their Trades", o)
		}
	})
}

// No two lists of an answer share memory, not even behind their lengths.
func TestListsOfAnAnswerAreApart(t *testing.T) {
	eachMeeting(func(b api.Book, o api.Order) {
		got, _, _ := lists(b, o)
		was := copied(got)
		eachSide(func(s int) {
			for i := range levels(got, s) {
				scribbleRests(levels(got, s)[i].Rests)
				levels(got, s)[i].Rests = levels(copied(was), s)[i].Rests
				if !same(got, was) {
					t.Errorf("%v, %v: Level %d of side %d shares its Rests", b, o, i, s)
				}
			}
		})
		scribbleLevels(got.Buys)
		if !sameLevels(got.Sells, was.Sells) {
			t.Errorf("%v, %v: the sides share their Levels", b, o)
		}
	})
}

func TestWhatLiesBehindAListIsNotRead(t *testing.T) {
	eachMeeting(func(b api.Book, o api.Order) {
		odd := roomy(b)
		eachSide(func(s int) {
			l := levels(odd, s)
			for i := range l {
				scribbleRests(l[i].Rests[len(l[i].Rests):])
			}
			scribbleLevels(l[len(l):])
		})
		left, trades, told := lists(b, o)
		oddLeft, oddTrades, oddTold := lists(odd, o)
		if !same(left, oddLeft) || !slices.Equal(trades, oddTrades) || !slices.Equal(told, oddTold) {
			t.Errorf("%v, %v: got %v %v, but %v %v with others behind", b, o, left, trades, oddLeft, oddTrades)
		}
	})
}

// answer of all calls, but for the lists.
type answer struct {
	left, could                int
	doErr, tradesErr, couldErr error
}

func askAll(b api.Book, o api.Order) (a answer, left api.Book, trades []api.Trade) {
	left, trades, a.left, a.doErr = meet.Do(b, o)
	_, a.tradesErr = meet.Trades(b, o)
	a.could, a.couldErr = meet.Could(b, o)
	return a, left, trades
}

func TestNoCallPanicsAndAnswersHangOnArgumentsAlone(t *testing.T) {
	for _, n := range []int{math.MinInt, math.MinInt + 1, -1, 0, 1, 2, 3, math.MaxInt - 1, math.MaxInt} {
		for _, b := range oddBooks(n) {
			for _, o := range oddOrders(n) {
				first, left, trades := askAll(b, o)
				askAll(facing(api.Buy, row(1, 3)), comes(api.Buy, 2, 2))
				again, leftAgain, tradesAgain := askAll(b, o)
				if again != first || !same(left, leftAgain) || !slices.Equal(trades, tradesAgain) {
					t.Errorf("%v, %v: first %v, then %v", b, o, first, again)
				}
			}
		}
	}
}

// oddBooks are books that an odd number stands in.
func oddBooks(n int) []api.Book {
	pair := []api.Level{{Price: bid, Rests: row(1, 1)}, {Price: n, Rests: queue(open(2, 1), rest(n, n, n, n, n))}}
	return []api.Book{
		{}, {Buys: []api.Level{{}}}, {Sells: []api.Level{{Price: n}}}, {Buys: pair}, {Sells: pair}, {Buys: pair, Sells: pair},
		facing(api.Buy, row(1, 3), row(4, 2)), facing(api.Sell, row(1, 59)), facing(api.Sell, row(1, 70)),
		{Buys: make([]api.Level, 70), Sells: make([]api.Level, 70)},
	}
}

// oddOrders are orders that an odd number stands in.
func oddOrders(n int) (l []api.Order) {
	eachSide(func(s int) {
		for field := range 8 {
			o := comes(s, 2, 5)
			*[]*int{&o.Id, &o.Who, &o.Side, &o.Kind, &o.Price, &o.Qty, &o.Show, &o.Stop}[field] = n
			l = append(l, o)
		}
	})
	return append(l, api.Order{Id: n, Who: n, Side: n, Kind: n, Price: n, Qty: n, Show: n, Stop: n})
}
