package self_test

import (
	"math"
	"slices"
	"testing"

	"pitfloor/api"
)

// The rules that hold everywhere (P1 to P4 of the document), asked of package self.

// eachMeeting goes over books of some shapes, and orders of all kinds that take, drop, rest, are gone, or are refused.
func eachMeeting(do func(b api.Book, o api.Order, mode int)) {
	eachSide(func(s int) {
		shapes := append(books(s),
			facing(s, row(1, 2), row(3, 4), row(7, 1)), facing(s, row(1, 61)),
			facing(s, queue(own(1, 1), own(2, 2), open(3, 3)), queue(own(4, 1)), queue(own(5, 1), open(6, 2), own(7, 1))),
			facing(s, queue(rest(1, 1, 1, 9, 2), own(2, 3)), queue(rest(3, comerWho, 2, 9, 3), open(4, 1))),
			with(facing(s, queue(own(1, 1), open(2, 1))), s, stairs(s, row(11, 3), row(14, 2))),
		)
		for _, b := range shapes {
			for mode := api.Allow - 1; mode <= api.DropBoth; mode++ {
				for _, qty := range []int{0, 1, 3, 6, 20, 10000} {
					for _, by := range []int{-4, -1, 0, 4} {
						eachKind(comes(s, by, qty), func(o api.Order) { do(b, o, mode) })
						do(b, withShow(comes(s, by, qty), 1), mode)
					}
				}
				do(b, withStop(comes(s, 0, 3), 50), mode)
				do(b, withId(comes(s, 0, 3), 1), mode)
			}
		}
	})
}

// roomyLevels have other Levels behind their length, and other Rests behind that of each.
func roomyLevels(l []api.Level) []api.Level {
	l = copiedLevels(l)
	for i := range l {
		count := len(l[i].Rests)
		l[i].Rests = append(l[i].Rests, row(500, 70)...)[:count]
	}
	more := []api.Level{{Price: 300, Rests: row(8001, 1)}, {Price: 200, Rests: row(8002, 2)}, {Price: 100}}
	return append(l, more...)[:len(l)]
}

func roomy(b api.Book) api.Book {
	return api.Book{Buys: roomyLevels(b.Buys), Sells: roomyLevels(b.Sells)}
}

// whole gives a book with all that lies behind its lengths.
func whole(b api.Book) api.Book {
	b = api.Book{Buys: slices.Clone(b.Buys[:cap(b.Buys)]), Sells: slices.Clone(b.Sells[:cap(b.Sells)])}
	for _, l := range [][]api.Level{b.Buys, b.Sells} {
		for i := range l {
			l[i].Rests = slices.Clone(l[i].Rests[:cap(l[i].Rests)])
		}
	}
	return b
}

// scribble over a list, and all that lies behind its length.
func scribble[T any](l []T, over T) {
	l = l[:cap(l)]
	for i := range l {
		l[i] = over
	}
}

func scribbleRests(l []api.Rest) { scribble(l, rest(-1, -1, -1, -1, -1)) }

func scribbleLevels(l []api.Level) {
	for _, level := range l[:cap(l)] {
		scribbleRests(level.Rests)
	}
	scribble(l, api.Level{Price: -1})
}

func scribbleBook(b api.Book) {
	scribbleLevels(b.Buys)
	scribbleLevels(b.Sells)
}

func scribbleAnswer(a answer) {
	scribbleBook(a.book)
	scribble(a.trades, api.Trade{Maker: -1})
	scribble(a.ids, -1)
}

func copiedAnswer(a answer) answer {
	a.book, a.trades, a.ids = copied(a.book), slices.Clone(a.trades), slices.Clone(a.ids)
	return a
}

func TestWhatIsHandedInStaysAsItWas(t *testing.T) {
	eachMeeting(func(b api.Book, o api.Order, mode int) {
		b = roomy(b)
		was := whole(b)
		scribbleAnswer(did(b, o, mode))
		if !same(whole(b), was) {
			t.Errorf("%v, %v, %d: what was handed in is another one", b, o, mode)
		}
	})
}

// What is handed in, and what was answered, may be written over later: nothing of it is kept.
func TestAnswersStayAsTheyWere(t *testing.T) {
	eachMeeting(func(b api.Book, o api.Order, mode int) {
		b = roomy(b)
		first, second := did(b, o, mode), did(b, o, mode)
		was := copiedAnswer(first)
		scribbleBook(b)
		scribbleAnswer(second)
		if !equal(first, was) {
			t.Errorf("%v, %d: the answer %v is another one, %v", o, mode, was, first)
		}
	})
}

// No two lists of an answer share memory, not even behind their lengths.
func TestListsOfAnAnswerAreApart(t *testing.T) {
	eachMeeting(func(b api.Book, o api.Order, mode int) {
		got := did(b, o, mode).book
		was := copied(got)
		eachSide(func(s int) {
			for i := range levels(got, s) {
				scribbleRests(levels(got, s)[i].Rests)
				levels(got, s)[i].Rests = levels(copied(was), s)[i].Rests
				if !same(got, was) {
					t.Errorf("%v, %v, %d: Level %d of side %d shares its Rests", b, o, mode, i, s)
				}
			}
		})
		scribbleLevels(got.Buys)
		if !sameLevels(got.Sells, was.Sells) {
			t.Errorf("%v, %v, %d: the sides share their Levels", b, o, mode)
		}
	})
}

func TestWhatLiesBehindAListIsNotRead(t *testing.T) {
	eachMeeting(func(b api.Book, o api.Order, mode int) {
		odd := roomy(b)
		eachSide(func(s int) {
			l := levels(odd, s)
			for i := range l {
				scribble(l[i].Rests[len(l[i].Rests):], own(1, 1))
			}
			scribbleLevels(l[len(l):])
		})
		if plain, behind := did(b, o, mode), did(odd, o, mode); !equal(plain, behind) {
			t.Errorf("%v, %v, %d: got %v, but %v with others behind", b, o, mode, plain, behind)
		}
	})
}

func TestNoCallPanicsAndAnswersHangOnArgumentsAlone(t *testing.T) {
	for _, n := range []int{math.MinInt, math.MinInt + 1, -1, 0, 1, 2, 3, math.MaxInt - 1, math.MaxInt} {
		for _, o := range oddOrders(n) {
			for _, b := range oddBooks(n) {
				for _, mode := range []int{n, api.DropTaker, api.DropMaker, api.DropBoth} {
					first := did(b, o, mode)
					did(facing(api.Buy, queue(open(1, 3), own(2, 1))), comes(api.Buy, 2, 7), api.DropBoth)
					if again := did(b, o, mode); !equal(again, first) {
						t.Errorf("%v, %v, %d: first %v, then %v", b, o, mode, first, again)
					}
				}
			}
		}
	}
}

// oddBooks are books that an odd number stands in.
func oddBooks(n int) []api.Book {
	pair := []api.Level{{Price: bid, Rests: row(1, 1)}, {Price: n, Rests: queue(own(2, 1), rest(n, n, n, n, n))}}
	return []api.Book{
		{}, {Buys: []api.Level{{}}}, {Sells: []api.Level{{Price: n}}}, {Buys: pair}, {Sells: pair}, {Buys: pair, Sells: pair},
		facing(api.Buy, row(1, 3), queue(own(4, 2))), facing(api.Sell, row(1, 59)), facing(api.Sell, row(1, 70)),
		{Buys: make([]api.Level, 70), Sells: make([]api.Level, 70)},
	}
}

// oddOrders are orders that an odd number stands in.
func oddOrders(n int) (l []api.Order) {
	eachSide(func(s int) {
		for field := range 8 {
			o := comes(s, 2, 5)
			*[]*int{&o.Id, &o.Who, &o.Side, &o.Kind, &o.Price, &o.Qty, &o.Show, &o.Stop}[field] = n
			l = append(l, o)
		}
	})
	return append(l, api.Order{Id: n, Who: n, Side: n, Kind: n, Price: n, Qty: n, Show: n, Stop: n})
}
