package side_test

import (
	"math"
	"slices"
	"testing"

	"pitfloor/api"
	"pitfloor/side"
)

// The rules that hold everywhere (P1 to P4 of the document), asked of package side.

// calls on a side, and the Levels that they answer.
var calls = []struct {
	name string
	do   func(s int, l []api.Level) []api.Level
}{
	{"Check", func(s int, l []api.Level) []api.Level { side.Check(s, l); return nil }},
	{"Best", func(s int, l []api.Level) []api.Level { side.Best(s, l); return nil }},
	{"Depth", func(s int, l []api.Level) []api.Level { side.Depth(s, l, 5); return nil }},
	{"Find", func(s int, l []api.Level) []api.Level { side.Find(s, l, 2); return nil }},
	{"Add at the best price", func(s int, l []api.Level) []api.Level { return added(s, l, top) }},
	{"Add ahead", func(s int, l []api.Level) []api.Level { return added(s, l, behind(s, top, -1)) }},
	{"Add between", func(s int, l []api.Level) []api.Level { return added(s, l, behind(s, top, 1)) }},
	{"Add behind", func(s int, l []api.Level) []api.Level { return added(s, l, behind(s, top, 999)) }},
	{"Drop the first", func(s int, l []api.Level) []api.Level { return dropped(s, l, 1) }},
	{"Fresh", func(s int, l []api.Level) []api.Level { return side.Fresh(l) }},
	{"Drop another", func(s int, l []api.Level) []api.Level { return dropped(s, l, 3) }},
}

func added(s int, l []api.Level, price int) []api.Level {
	got, _ := side.Add(s, l, price, rest(9000))
	return got
}

func dropped(s int, l []api.Level, id int) []api.Level {
	got, _, _, _ := side.Drop(s, l, id)
	return got
}

// eachCall goes over all calls on sides of some shapes, full ones and one that is too full among them.
func eachCall(do func(name string, call func(l []api.Level) []api.Level, l []api.Level)) {
	shapes := [][]int{nil, {1}, {2}, {3}, {1, 1}, {2, 1, 3}, {30, 29}, {1, 59}, {60, 1}}
	for _, c := range calls {
		eachSide(func(s int) {
			for _, counts := range shapes {
				do(c.name, func(l []api.Level) []api.Level { return c.do(s, l) }, stairs(s, counts...))
			}
		})
	}
}

// roomy gives a side with other Levels behind its length, and other Rests behind that of each.
func roomy(l []api.Level) []api.Level {
	l = copied(l)
	for i := range l {
		count := len(l[i].Rests)
		l[i].Rests = append(l[i].Rests, rests(row(500, 70)...)...)[:count]
	}
	return append(l, level(300, 8001), level(200, 8002, 8003), level(100))[:len(l)]
}

// whole gives a side with all that lies behind its lengths.
func whole(l []api.Level) []api.Level {
	l = slices.Clone(l[:cap(l)])
	for i := range l {
		l[i].Rests = slices.Clone(l[i].Rests[:cap(l[i].Rests)])
	}
	return l
}

func scribbleRests(l []api.Rest) {
	for i := range l {
		l[i] = api.Rest{Id: -1, Who: -1, Qty: -1, Hidden: -1, Show: -1}
	}
}

// scribble over a side, and all that lies behind its lengths.
func scribble(l []api.Level) {
	l = l[:cap(l)]
	for i := range l {
		scribbleRests(l[i].Rests[:cap(l[i].Rests)])
		l[i] = api.Level{Price: -1}
	}
}

func TestWhatIsHandedInStaysAsItWas(t *testing.T) {
	eachCall(func(name string, call func(l []api.Level) []api.Level, l []api.Level) {
		l = roomy(l)
		was := whole(l)
		scribble(call(l))
		if !same(whole(l), was) {
			t.Errorf("%s of %v: what was handed in is another one", name, l)
		}
	})
}

// What is handed in may be written over later: nothing of it is kept.
func TestAnswersStayAsTheyWere(t *testing.T) {
	eachCall(func(name string, call func(l []api.Level) []api.Level, l []api.Level) {
		l = roomy(l)
		got := call(l)
		was := copied(got)
		scribble(l)
		if !same(got, was) {
			t.Errorf("%s: the answer %v is another one, %v", name, was, got)
		}
	})
}

// No two lists of an answer share memory, not even behind their lengths.
func TestListsOfAnAnswerAreApart(t *testing.T) {
	eachCall(func(name string, call func(l []api.Level) []api.Level, l []api.Level) {
		got := call(l)
		was := copied(got)
		for i := range got {
			scribbleRests(got[i].Rests[:cap(got[i].Rests)])
			got[i].Rests = was[i].Rests
			if !same(got, was) {
				t.Errorf("%s of %v: Level %d shares its Rests", name, l, i)
			}
		}
	})
}

func TestWhatLiesBehindAListIsNotRead(t *testing.T) {
	eachCall(func(name string, call func(l []api.Level) []api.Level, l []api.Level) {
		odd := roomy(l)
		for i := range odd {
			scribbleRests(odd[i].Rests[len(odd[i].Rests):cap(odd[i].Rests)])
		}
		scribble(odd[len(odd):])
		if a, b := call(l), call(odd); !same(a, b) {
			t.Errorf("%s of %v: got %v, but %v with others behind", name, l, a, b)
		}
	})
}

// answer of all calls, but for their lists.
type answer struct {
	check, bestErr, depthErr, addErr, dropErr, findErr error
	best, price, at, which                             int
	rest                                               api.Rest
}

func ask(s int, l []api.Level, n int, r api.Rest) (a answer, depth [][2]int, more, left []api.Level) {
	a.check = side.Check(s, l)
	a.best, a.bestErr = side.Best(s, l)
	depth, a.depthErr = side.Depth(s, l, n)
	more, a.addErr = side.Add(s, l, n, r)
	left, a.rest, a.price, a.dropErr = side.Drop(s, l, n)
	a.at, a.which, a.findErr = side.Find(s, l, n)
	return a, depth, more, left
}

func TestNoCallPanicsAndAnswersHangOnArgumentsAlone(t *testing.T) {
	ends := []int{math.MinInt, math.MinInt + 1, -1, 0, 1, 2, 3, math.MaxInt - 1, math.MaxInt}
	for _, s := range ends {
		for _, n := range ends {
			odd := api.Rest{Id: n, Who: n, Qty: n, Hidden: n, Show: n}
			sides := [][]api.Level{
				nil, {{}}, {{Price: n}}, oddPair(n, odd), stairs(api.Buy, 2, 1), stairs(api.Sell, 2, 1),
				flat(api.Buy, 60), flat(api.Sell, 61), make([]api.Level, 70),
			}
			for _, l := range sides {
				first, depth, more, left := ask(s, l, n, odd)
				ask(api.Buy, flat(api.Buy, 3), 2, rest(2))
				again, depthAgain, moreAgain, leftAgain := ask(s, l, n, odd)
				if again != first || !slices.Equal(depth, depthAgain) || !same(more, moreAgain) || !same(left, leftAgain) {
					t.Errorf("%d, %v, %d: first %v, then %v", s, l, n, first, again)
				}
			}
		}
	}
}

// oddPair is a side of two Levels that an odd number and an odd Rest stand in.
func oddPair(n int, odd api.Rest) []api.Level {
	return []api.Level{level(top, 1), {Price: n, Rests: []api.Rest{rest(2), odd}}}
}
