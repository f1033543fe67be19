package kinds_test

import (
	"math"
	"slices"
	"testing"

	"pitfloor/api"
	"pitfloor/kinds"
)

// The rules that hold everywhere (P1 to P4 of the document), asked of package kinds.

// eachMeeting goes over books of some shapes, and orders of all kinds that take, rest, are gone, or are refused.
func eachMeeting(do func(b api.Book, o api.Order)) {
	eachSide(func(s int) {
		shapes := append(books(s),
			facing(s, row(1, 2), row(3, 4), row(7, 1)), facing(s, row(1, 30), row(31, 28)), facing(s, row(1, 61)),
			facing(s, queue(rest(1, 1, 1, 9, 2), open(2, 3)), queue(rest(3, 1, 2, 9, 3), open(4, 1))),
			with(facing(s, row(1, 2)), s, stairs(s, row(11, 3), row(14, 2))),
		)
		for _, b := range shapes {
			for _, qty := range []int{0, 1, 2, 3, 4, 6, 20, 500, 10000} {
				for _, by := range []int{-4, -1, 0, 4} {
					eachKind(comes(s, by, qty), func(o api.Order) { do(b, o) })
					do(b, withShow(comes(s, by, qty), 1))
				}
			}
			do(b, withStop(comes(s, 0, 3), 50))
			do(b, withId(comes(s, 0, 3), 1))
		}
	})
}

// roomyLevels have other Levels behind their length, and other Rests behind that of each.
func roomyLevels(l []api.Level) []api.Level {
	l = copiedLevels(l)
	for i := range l {
		count := len(l[i].Rests)
		l[i].Rests = append(l[i].Rests, row(500, 70)...)[:count]
	}
	more := []api.Level{{Price: 300, Rests: row(8001, 1)}, {Price: 200, Rests: row(8002, 2)}, {Price: 100}}
	return append(l, more...)[:len(l)]
}

func roomy(b api.Book) api.Book {
	return api.Book{Buys: roomyLevels(b.Buys), Sells: roomyLevels(b.Sells)}
}

// whole gives a book with all that lies behind its lengths.
func whole(b api.Book) api.Book {
	b = api.Book{Buys: slices.Clone(b.Buys[:cap(b.Buys)]), Sells: slices.Clone(b.Sells[:cap(b.Sells)])}
	for _, l := range [][]api.Level{b.Buys, b.Sells} {
		for i := range l {
			l[i].Rests = slices.Clone(l[i].Rests[:cap(l[i].Rests)])
		}
	}
	return b
}

func scribbleRests(l []api.Rest) {
	l = l[:cap(l)]
	for i := range l {
		l[i] = rest(-1, -1, -1, -1, -1)
	}
}

func scribbleLevels(l []api.Level) {
	l = l[:cap(l)]
	for i := range l {
		scribbleRests(l[i].Rests)
		l[i] = api.Level{Price: -1}
	}
}

// scribble over a book, and all that lies behind its lengths.
func scribble(b api.Book) {
	scribbleLevels(b.Buys)
	scribbleLevels(b.Sells)
}

func scribbleTrades(l []api.Trade) {
	l = l[:cap(l)]
	for i := range l {
		l[i] = api.Trade{Maker: -1}
	}
}

func TestWhatIsHandedInStaysAsItWas(t *testing.T) {
	eachMeeting(func(b api.Book, o api.Order) {
		b = roomy(b)
		was := whole(b)
		a := did(b, o)
		scribble(a.book)
		scribbleTrades(a.trades)
		if !same(whole(b), was) {
			t.Errorf("%v, %v: what was handed in is another one", b, o)
		}
	})
}

// What is handed in may be written over later: nothing of it is kept.
func TestAnswersStayAsTheyWere(t *testing.T) {
	eachMeeting(func(b api.Book, o api.Order) {
		b = roomy(b)
		first, second := did(b, o), did(b, o)
		was := copied(first.book)
		scribble(b)
		scribble(second.book)
		if !same(first.book, was) {
			t.Errorf("%v: the book %v is another one, %v", o, was, first.book)
		}
		scribbleTrades(second.trades)
		if len(first.trades) > 0 && first.trades[0].Maker < 0 {
			t.Errorf("%v: two answers share their Trades", o)
		}
	})
}

// No two lists of an answer share memory, not even behind their lengths.
func TestListsOfAnAnswerAreApart(t *testing.T) {
	eachMeeting(func(b api.Book, o api.Order) {
		got := did(b, o).book
		was := copied(got)
		eachSide(func(s int) {
			for i := range levels(got, s) {
				scribbleRests(levels(got, s)[i].Rests)
				levels(got, s)[i].Rests = levels(copied(was), s)[i].Rests
				if !same(got, was) {
					t.Errorf("%v, %v: Level %d of side %d shares its Rests", b, o, i, s)
				}
			}
		})
		scribbleLevels(got.Buys)
		if !sameLevels(got.Sells, was.Sells) {
			t.Errorf("%v, %v: the sides share their Levels", b, o)
		}
	})
}

func TestWhatLiesBehindAListIsNotRead(t *testing.T) {
	eachMeeting(func(b api.Book, o api.Order) {
		odd := roomy(b)
		eachSide(func(s int) {
			l := levels(odd, s)
			for i := range l {
				scribbleRests(l[i].Rests[len(l[i].Rests):])
			}
			scribbleLevels(l[len(l):])
		})
		if plain, behind := did(b, o), did(odd, o); !equal(plain, behind) {
			t.Errorf("%v, %v: got %v, but %v with others behind", b, o, plain, behind)
		}
	})
}

func TestNoCallPanicsAndAnswersHangOnArgumentsAlone(t *testing.T) {
	for _, n := range []int{math.MinInt, math.MinInt + 1, -1, 0, 1, 2, 3, math.MaxInt - 1, math.MaxInt} {
		for _, o := range oddOrders(n) {
			for _, b := range oddBooks(n) {
				first := did(b, o)
				did(facing(api.Buy, row(1, 3)), comes(api.Buy, 2, 7))
				if again := did(b, o); !equal(again, first) {
					t.Errorf("%v, %v: first %v, then %v", b, o, first, again)
				}
			}
			for _, qty := range []int{n, 1, 5, 6} {
				first, err := kinds.Rest(o, qty)
				kinds.Rest(comes(api.Buy, 2, 7), 3)
				if again, bad := kinds.Rest(o, qty); again != first || bad != err {
					t.Errorf("%v, %d: first %v %v, then %v %v", o, qty, first, err, again, bad)
				}
			}
		}
	}
}

// oddBooks are books that an odd number stands in.
func oddBooks(n int) []api.Book {
	pair := []api.Level{{Price: bid, Rests: row(1, 1)}, {Price: n, Rests: queue(open(2, 1), rest(n, n, n, n, n))}}
	return []api.Book{
		{}, {Buys: []api.Level{{}}}, {Sells: []api.Level{{Price: n}}}, {Buys: pair}, {Sells: pair}, {Buys: pair, Sells: pair},
		facing(api.Buy, row(1, 3), row(4, 2)), facing(api.Sell, row(1, 59)), facing(api.Sell, row(1, 70)),
		{Buys: make([]api.Level, 70), Sells: make([]api.Level, 70)},
	}
}

// oddOrders are orders that an odd number stands in.
func oddOrders(n int) (l []api.Order) {
	eachSide(func(s int) {
		for field := range 8 {
			o := comes(s, 2, 5)
			*[]*int{&o.Id, &o.Who, &o.Side, &o.Kind, &o.Price, &o.Qty, &o.Show, &o.Stop}[field] = n
			l = append(l, o)
		}
	})
	return append(l, api.Order{Id: n, Who: n, Side: n, Kind: n, Price: n, Qty: n, Show: n, Stop: n})
}
