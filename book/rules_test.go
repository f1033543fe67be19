package book_test

import (
	"math"
	"slices"
	"testing"

	"pitfloor/api"
	"pitfloor/book"
)

// The rules that hold everywhere (P1 to P4 of the document), asked of package book.

// calls on a book, and the book that they answer.
var calls = []struct {
	name string
	do   func(b api.Book) api.Book
}{
	{"Check", func(b api.Book) api.Book { book.Check(b); return api.Book{} }},
	{"Top", func(b api.Book) api.Book { book.Top(b); return api.Book{} }},
	{"Find", func(b api.Book) api.Book { book.Find(b, 2); return api.Book{} }},
	{"Count", func(b api.Book) api.Book { book.Count(b); return api.Book{} }},
	{"Print", func(b api.Book) api.Book { book.Print(b); return api.Book{} }},
	{"Fresh", book.Fresh},
	{"Put at the best to buy", func(b api.Book) api.Book { return put(b, api.Buy, bid) }},
	{"Put at the best to sell", func(b api.Book) api.Book { return put(b, api.Sell, ask) }},
	{"Put ahead", func(b api.Book) api.Book { return put(b, api.Buy, bid+1) }},
	{"Put between", func(b api.Book) api.Book { return put(b, api.Sell, ask+1) }},
	{"Put behind", func(b api.Book) api.Book { return put(b, api.Buy, 1) }},
	{"Cancel the first to buy", func(b api.Book) api.Book { return cancelled(b, 1) }},
	{"Cancel another to buy", func(b api.Book) api.Book { return cancelled(b, 3) }},
	{"Cancel the first to sell", func(b api.Book) api.Book { return cancelled(b, firstSell) }},
	{"Cancel another to sell", func(b api.Book) api.Book { return cancelled(b, firstSell+2) }},
}

func put(b api.Book, s, price int) api.Book {
	got, _ := book.Put(b, s, price, rest(9000))
	return got
}

func cancelled(b api.Book, id int) api.Book {
	got, _, _ := book.Cancel(b, id)
	return got
}

// eachCall goes over all calls on books of some shapes, a full one and one that is too full among them.
func eachCall(do func(name string, call func(b api.Book) api.Book, b api.Book)) {
	shapes := [][2][]int{{}, {{1}, nil}, {nil, {1}}, {{3}, {3}}, {{1, 1}, {2, 1, 3}}, {{2, 1, 3}, nil}, {{30, 29}, {1}}, {{1}, {1, 58}}, {{30}, {31}}}
	for _, c := range calls {
		for _, counts := range shapes {
			do(c.name, c.do, made(counts[0], counts[1]))
		}
	}
}

// roomyLevels have other Levels behind their length, and other Rests behind that of each.
func roomyLevels(l []api.Level) []api.Level {
	l = copiedLevels(l)
	for i := range l {
		count := len(l[i].Rests)
		l[i].Rests = append(l[i].Rests, rests(row(500, 70)...)...)[:count]
	}
	return append(l, level(300, 8001), level(200, 8002, 8003), level(100))[:len(l)]
}

func roomy(b api.Book) api.Book {
	return api.Book{Buys: roomyLevels(b.Buys), Sells: roomyLevels(b.Sells)}
}

// whole gives a book with all that lies behind its lengths.
func whole(b api.Book) api.Book {
	b = api.Book{Buys: slices.Clone(b.Buys[:cap(b.Buys)]), Sells: slices.Clone(b.Sells[:cap(b.Sells)])}
	for _, l := range [][]api.Level{b.Buys, b.Sells} {
		for i := range l {
			l[i].Rests = slices.Clone(l[i].Rests[:cap(l[i].Rests)])
		}
	}
	return b
}

func scribbleRests(l []api.Rest) {
	l = l[:cap(l)]
	for i := range l {
		l[i] = api.Rest{Id: -1, Who: -1, Qty: -1, Hidden: -1, Show: -1}
	}
}

func scribbleLevels(l []api.Level) {
	l = l[:cap(l)]
	for i := range l {
		scribbleRests(l[i].Rests)
		l[i] = api.Level{Price: -1}
	}
}

// scribble over a book, and all that lies behind its lengths.
func scribble(b api.Book) {
	scribbleLevels(b.Buys)
	scribbleLevels(b.Sells)
}

func TestWhatIsHandedInStaysAsItWas(t *testing.T) {
	eachCall(func(name string, call func(b api.Book) api.Book, b api.Book) {
		b = roomy(b)
		was := whole(b)
		scribble(call(b))
		if !same(whole(b), was) {
			t.Errorf("%s of %v: what was handed in is another one", name, b)
		}
	})
}

// What is handed in may be written over later: nothing of it is kept.
func TestAnswersStayAsTheyWere(t *testing.T) {
	eachCall(func(name string, call func(b api.Book) api.Book, b api.Book) {
		b = roomy(b)
		got := call(b)
		was := copied(got)
		scribble(b)
		if !same(got, was) {
			t.Errorf("%s: the answer %v is another one, %v", name, was, got)
		}
	})
}

// No two lists of an answer share memory, not even behind their lengths.
func TestListsOfAnAnswerAreApart(t *testing.T) {
	eachCall(func(name string, call func(b api.Book) api.Book, b api.Book) {
		got := call(b)
		was := copied(got)
		eachSide(func(s int) {
			for i := range levels(got, s) {
				scribbleRests(levels(got, s)[i].Rests)
				levels(got, s)[i].Rests = levels(copied(was), s)[i].Rests
				if !same(got, was) {
					t.Errorf("%s of %v: Level %d of side %d shares its Rests", name, b, i, s)
				}
			}
		})
		scribbleLevels(got.Buys)
		if !sameLevels(got.Sells, was.Sells) {
			t.Errorf("%s of %v: the sides share their Levels", name, b)
		}
	})
}

func TestWhatLiesBehindAListIsNotRead(t *testing.T) {
	eachCall(func(name string, call func(b api.Book) api.Book, b api.Book) {
		odd := roomy(b)
		eachSide(func(s int) {
			l := levels(odd, s)
			for i := range l {
				scribbleRests(l[i].Rests[len(l[i].Rests):])
			}
			scribbleLevels(l[len(l):])
		})
		if a, c := call(b), call(odd); !same(a, c) {
			t.Errorf("%s of %v: got %v, but %v with others behind", name, b, a, c)
		}
	})
}

// answer of all calls, but for the books.
type answer struct {
	check, topErr, putErr, cancelErr, findErr, countErr, printErr error
	buy, sell, side, price, count                                 int
	cancelled, found                                              api.Rest
	text                                                          string
}

func askAll(b api.Book, s, n int, r api.Rest) (a answer, more, left api.Book) {
	a.check = book.Check(b)
	a.buy, a.sell, a.topErr = book.Top(b)
	more, a.putErr = book.Put(b, s, n, r)
	left, a.cancelled, a.cancelErr = book.Cancel(b, n)
	a.side, a.price, a.found, a.findErr = book.Find(b, n)
	a.count, a.countErr = book.Count(b)
	a.text, a.printErr = book.Print(b)
	return a, more, left
}

func TestNoCallPanicsAndAnswersHangOnArgumentsAlone(t *testing.T) {
	ends := []int{math.MinInt, math.MinInt + 1, -1, 0, 1, 2, 3, math.MaxInt - 1, math.MaxInt}
	for _, s := range ends {
		for _, n := range ends {
			odd := api.Rest{Id: n, Who: n, Qty: n, Hidden: n, Show: n}
			for _, b := range oddBooks(n, odd) {
				first, more, left := askAll(b, s, n, odd)
				askAll(made([]int{2, 1}, []int{1}), api.Buy, 2, rest(2))
				again, moreAgain, leftAgain := askAll(b, s, n, odd)
				if again != first || !same(more, moreAgain) || !same(left, leftAgain) {
					t.Errorf("%v, %d, %d: first %v, then %v", b, s, n, first, again)
				}
			}
		}
	}
}

// oddBooks are books that an odd number and an odd Rest stand in.
func oddBooks(n int, odd api.Rest) []api.Book {
	pair := []api.Level{level(bid, 1), {Price: n, Rests: []api.Rest{rest(2), odd}}}
	return []api.Book{
		{}, {Buys: []api.Level{{}}}, {Sells: []api.Level{{Price: n}}}, {Buys: pair}, {Sells: pair}, {Buys: pair, Sells: pair},
		made([]int{2, 1}, []int{1}), made(flat(30), flat(30)), made(flat(61), flat(61)), {Buys: make([]api.Level, 70), Sells: make([]api.Level, 70)},
	}
}
