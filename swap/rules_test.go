package swap_test

import (
	"math"
	"slices"
	"testing"

	"pitfloor/api"
	"pitfloor/plain"
	"pitfloor/swap"
)

// The rules that hold everywhere (P1 to P4 of the document), asked of package swap.

// eachSwap goes over books of some shapes, and swaps that keep a place, go elsewhere, trade, or are refused.
func eachSwap(do func(b api.Book, id, price, qty int)) {
	eachSide(func(s int) {
		shapes := slices.Concat(moved(s, moves(4, 6, 5)), moved(s, moves(4, 0, 0)), []api.Book{
			sides(s, stairs(s, row(1, 2), queue(moves(1, 3, 2), open(3, 1))), stairs(3-s, row(31, 3), queue(rest(34, 1, 1, 9, 2), open(35, 3)), row(36, 1))),
			sides(s, stairs(s, row(1, 2), queue(moves(1, 3, 2)), row(3, 1)), stairs(3-s, row(31, 30), row(61, 26))),
			sides(s, stairs(s, append(row(1, 61), moves(4, 0, 0))), nil),
		})
		for _, b := range shapes {
			for _, qty := range []int{0, 1, 3, 4, 7, 10, 11, 10000} {
				for _, by := range []int{-8, -6, -4, -1, 0, 1, 2, 4, 5000} {
					do(b, mover, behind(s, by), qty)
				}
			}
			do(b, 1, behind(s, 0), 1)
			do(b, 500, behind(s, 0), 1)
		}
	})
}

// roomyLevels have other Levels behind their length, and other Rests behind that of each.
func roomyLevels(l []api.Level) []api.Level {
	l = copiedLevels(l)
	for i := range l {
		count := len(l[i].Rests)
		l[i].Rests = append(l[i].Rests, row(500, 70)...)[:count]
	}
	more := []api.Level{{Price: 300, Rests: row(8001, 1)}, {Price: 200, Rests: row(8002, 2)}, {Price: 100}}
	return append(l, more...)[:len(l)]
}

func roomy(b api.Book) api.Book {
	return api.Book{Buys: roomyLevels(b.Buys), Sells: roomyLevels(b.Sells)}
}

// whole gives a book with all that lies behind its lengths.
func whole(b api.Book) api.Book {
	b = api.Book{Buys: slices.Clone(b.Buys[:cap(b.Buys)]), Sells: slices.Clone(b.Sells[:cap(b.Sells)])}
	for _, l := range [][]api.Level{b.Buys, b.Sells} {
		for i := range l {
			l[i].Rests = slices.Clone(l[i].Rests[:cap(l[i].Rests)])
		}
	}
	return b
}

// scribble over a list, and all that lies behind its length.
func scribble[T any](l []T, over T) {
	l = l[:cap(l)]
	for i := range l {
		l[i] = over
	}
}

func scribbleRests(l []api.Rest) { scribble(l, rest(-1, -1, -1, -1, -1)) }

func scribbleLevels(l []api.Level) {
	for _, level := range l[:cap(l)] {
		scribbleRests(level.Rests)
	}
	scribble(l, api.Level{Price: -1})
}

func scribbleBook(b api.Book) {
	scribbleLevels(b.Buys)
	scribbleLevels(b.Sells)
}

func scribbleAnswer(a answer) {
	scribbleBook(a.book)
	scribble(a.trades, api.Trade{Maker: -1})
}

func copiedAnswer(a answer) answer {
	a.book, a.trades = copied(a.book), slices.Clone(a.trades)
	return a
}

func TestWhatIsHandedInStaysAsItWas(t *testing.T) {
	eachSwap(func(b api.Book, id, price, qty int) {
		b = roomy(b)
		was := whole(b)
		swap.Keeps(b, id, price, qty)
		scribbleAnswer(did(b, id, price, qty))
		if !same(whole(b), was) {
			t.Errorf("%v, %d, %d, %d: what was handed in is another one", b, id, price, qty)
		}
	})
}

// What is handed in, and what was answered, may be written over later: nothing of it is kept.
func TestAnswersStayAsTheyWere(t *testing.T) {
	eachSwap(func(b api.Book, id, price, qty int) {
		b = roomy(b)
		first, second := did(b, id, price, qty), did(b, id, price, qty)
		was := copiedAnswer(first)
		scribbleBook(b)
		scribbleAnswer(second)
		if !equal(first, was) {
			t.Errorf("%d, %d, %d: the answer %v is another one, %v", id, price, qty, was, first)
		}
	})
}

// No two lists of an answer share memory, not even behind their lengths.
func TestListsOfAnAnswerAreApart(t *testing.T) {
	eachSwap(func(b api.Book, id, price, qty int) {
		got := did(b, id, price, qty).book
		was := copied(got)
		eachSide(func(s int) {
			for i := range levels(got, s) {
				scribbleRests(levels(got, s)[i].Rests)
				levels(got, s)[i].Rests = levels(copied(was), s)[i].Rests
				if !same(got, was) {
					t.Errorf("%v, %d, %d, %d: Level %d of side %d shares its Rests", b, id, price, qty, i, s)
				}
			}
		})
		scribbleLevels(got.Buys)
		if !sameLevels(got.Sells, was.Sells) {
			t.Errorf("%v, %d, %d, %d: the sides share their Levels", b, id, price, qty)
		}
	})
}

func TestWhatLiesBehindAListIsNotRead(t *testing.T) {
	eachSwap(func(b api.Book, id, price, qty int) {
		odd := roomy(b)
		eachSide(func(s int) {
			l := levels(odd, s)
			for i := range l {
				scribble(l[i].Rests[len(l[i].Rests):], moves(9, 9, 9))
			}
			scribble(l[len(l):cap(l)], at(s, 0, moves(9, 9, 9)))
		})
		if plain, behind := did(b, id, price, qty), did(odd, id, price, qty); !equal(plain, behind) {
			t.Errorf("%v, %d, %d, %d: got %v, but %v with others behind", b, id, price, qty, plain, behind)
		}
		first, err := swap.Keeps(b, id, price, qty)
		if again, bad := swap.Keeps(odd, id, price, qty); again != first || plain.Told(bad) != plain.Told(err) {
			t.Errorf("%v, %d, %d, %d: got %v %v, but %v %v with others behind", b, id, price, qty, first, err, again, bad)
		}
	})
}

func TestNoCallPanicsAndAnswersHangOnArgumentsAlone(t *testing.T) {
	other := sides(api.Buy, stairs(api.Buy, queue(moves(4, 6, 5), open(1, 2))), stairs(api.Sell, row(31, 3)))
	odd := []int{math.MinInt, math.MinInt + 1, -1, 0, 1, 2, 3, bid, mover, math.MaxInt - 1, math.MaxInt}
	for _, n := range odd {
		for _, b := range oddBooks(n) {
			for _, id := range []int{n, 1, mover} {
				for _, price := range []int{n, bid, ask} {
					for _, qty := range []int{n, 1, 7} {
						first := did(b, id, price, qty)
						keeps, err := swap.Keeps(b, id, price, qty)
						did(other, mover, ask, 9)
						did(other, mover, bid, 3)
						again := did(b, id, price, qty)
						keepsAgain, bad := swap.Keeps(b, id, price, qty)
						if !equal(again, first) || keeps != keepsAgain || plain.Told(bad) != plain.Told(err) {
							t.Errorf("%v, %d, %d, %d: first %v %v %v, then %v %v %v", b, id, price, qty, first, keeps, err, again, keepsAgain, bad)
						}
					}
				}
			}
		}
	}
}

// oddBooks are books that an odd number stands in.
func oddBooks(n int) []api.Book {
	pair := []api.Level{{Price: bid, Rests: row(1, 1)}, {Price: n, Rests: queue(open(2, 1), rest(n, n, n, n, n))}}
	return []api.Book{
		{}, {Buys: []api.Level{{}}}, {Sells: []api.Level{{Price: n}}}, {Buys: pair}, {Sells: pair}, {Buys: pair, Sells: pair},
		sides(api.Buy, stairs(api.Buy, queue(moves(4, 6, 5)), row(1, 2)), stairs(api.Sell, row(31, 2))),
		sides(api.Sell, stairs(api.Sell, append(row(1, 58), moves(4, 6, 5))), stairs(api.Buy, row(60, 1))),
		{Buys: stairs(api.Buy, row(1, 70))},
		{Buys: make([]api.Level, 70), Sells: make([]api.Level, 70)},
	}
}
