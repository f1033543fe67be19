package floor_test

import (
	"math"
	"slices"
	"testing"

	"pitfloor/api"
	"pitfloor/floor"
	"pitfloor/plain"
)

// The rules that hold everywhere (P1 to P5 of the document), asked of package floor.

// scribble over a list, and all that lies behind its length.
func scribble[T any](l []T, over T) {
	l = l[:cap(l)]
	for i := range l {
		l[i] = over
	}
}

func scribbleLevels(l []api.Level) {
	for _, level := range l[:cap(l)] {
		scribble(level.Rests, rest(-1, -1, -1, -1, -1))
	}
	scribble(l, api.Level{Price: -1})
}

func scribbleSeen(s seen) {
	scribbleLevels(s.book.Buys)
	scribbleLevels(s.book.Sells)
	scribble(s.stops, api.Order{Id: -1})
}

func copiedLevels(l []api.Level) []api.Level {
	l = slices.Clone(l)
	for i := range l {
		l[i].Rests = slices.Clone(l[i].Rests)
	}
	return l
}

func copiedSeen(s seen) seen {
	s.book = api.Book{Buys: copiedLevels(s.book.Buys), Sells: copiedLevels(s.book.Sells)}
	s.stops = slices.Clone(s.stops)
	return s
}

// walk of commands that are all kinds, and of which some are refused.
func walk(seed int) []api.Command {
	d := dice{state: uint64(seed)}
	l := d.beginning()
	for id := 1; id <= 80; id++ {
		l = append(l, d.command(id))
	}
	return l
}

// What comes out is the caller's: written over, it changes nothing of the Floor.
func TestAnswersAreTheCallers(t *testing.T) {
	for mode := api.Allow; mode <= api.DropBoth; mode++ {
		f, untouched := empty(t, mode), empty(t, mode)
		for _, c := range walk(mode + 50) {
			got, err := f.Do(c)
			want, wantErr := untouched.Do(c)
			if !slices.Equal(got, want) || plain.Told(err) != plain.Told(wantErr) {
				t.Fatalf("Do(%+v): got %v %v, want %v %v", c, got, err, want, wantErr)
			}
			scribble(got, api.Event{What: -1})
			scribbleSeen(look(t, f))
			if is, want := look(t, f), look(t, untouched); !same(is, want) {
				t.Fatalf("Do(%+v): got %v, want %v", c, is, want)
			}
		}
	}
}

// What came out stays as it was, whatever is done later.
func TestAnswersStayAsTheyWere(t *testing.T) {
	for mode := api.Allow; mode <= api.DropBoth; mode++ {
		f := empty(t, mode)
		var all, copies []seen
		var events, eventCopies [][]api.Event
		for _, c := range walk(mode + 90) {
			told, _ := f.Do(c)
			events, eventCopies = append(events, told), append(eventCopies, slices.Clone(told))
			s := look(t, f)
			all, copies = append(all, s), append(copies, copiedSeen(s))
		}
		for i := range all {
			if !same(all[i], copies[i]) || !slices.Equal(events[i], eventCopies[i]) {
				t.Errorf("mode %d: %v %v is now %v %v", mode, copies[i], eventCopies[i], all[i], events[i])
			}
		}
	}
}

// No two lists of a Book share memory, not even behind their lengths.
func TestListsOfABookAreApart(t *testing.T) {
	f := placed(t, api.DropTaker, buy(1, 1, 97, 8), buy(2, 2, 97, 2), buy(3, 3, 96, 5), sell(4, 1, 100, 1), sell(5, 1, 101, 1), sell(6, 1, 101, 1))
	was := look(t, f)
	b := f.Book()
	for _, l := range [][]api.Level{b.Buys, b.Sells} {
		for i := range l {
			own := slices.Clone(l[i].Rests)
			scribble(l[i].Rests, rest(-1, -1, -1, -1, -1))
			l[i].Rests = own
			if !sameBook(b, was.book) {
				t.Fatalf("Level %d shares its Rests: %v, %v", i, b, was.book)
			}
		}
	}
	scribbleLevels(b.Buys)
	if !sameLevels(b.Sells, was.book.Sells) {
		t.Errorf("the sides share their Levels: %v, %v", b.Sells, was.book.Sells)
	}
}

// Floors know nothing of each other, and to ask one changes nothing.
func TestFloorsAreApart(t *testing.T) {
	f, other := busy(t, api.DropTaker), busy(t, api.DropMaker)
	was := look(t, other)
	do(t, f, cancel(1), cancel(3), pay(1, 5), place(buy(9, 9, 100, 2)))
	if is := look(t, other); !same(is, was) {
		t.Errorf("%v is now %v", was, is)
	}
}

// What is done to one that Fresh told is not done to the one that told it, nor the other way round.
func TestAFreshOneIsApart(t *testing.T) {
	for mode := api.Allow; mode <= api.DropBoth; mode++ {
		f := empty(t, mode)
		for _, c := range walk(mode + 30) {
			was, fresh := look(t, f), f.Fresh()
			wantSame(t, f.Fresh(), f.Fresh(), c)
			wantStill(t, f, was)
			f.Do(c)
			wantStill(t, fresh, was)
		}
	}
}

func wantStill(t *testing.T, f *floor.Floor, was seen) {
	t.Helper()
	if is := look(t, f); !same(is, was) {
		t.Fatalf("%v is now %v", was, is)
	}
}

// ends of numbers, next to all bounds.
var ends = []int{
	math.MinInt, math.MinInt + 1, -1 << 32, -1, 0, 1, 2, 3, 4, 5, 6, 9, 10, 97, 100, 9999, 10000, 10001, most, most + 1, 1<<32 + 1, math.MaxInt - 1, math.MaxInt,
}

// odd commands, in which a number stands at each place.
func odd(n int) (l []api.Command) {
	for what := 0; what <= 6; what++ {
		for _, o := range []api.Order{buy(9, 9, 101, 5), withStop(sell(9, 9, 90, 5), 97), buy(1, 9, 97, 5), sell(2, 9, 101, 4)} {
			c := api.Command{What: what, Order: o, Who: 1, N: 7}
			for number := range 8 {
				strange := c
				*field(&strange.Order, number) = n
				l = append(l, strange)
			}
			who, amount, unknown := c, c, c
			who.Who, amount.N, unknown.What = n, n, n
			l = append(l, who, amount, unknown)
		}
	}
	all := api.Order{Id: n, Who: n, Side: n, Kind: n, Price: n, Qty: n, Show: n, Stop: n}
	return append(l, api.Command{What: n, Order: all, Who: n, N: n}, place(all), cancel(n), swap(n, n, n), swap(1, n, n), swap(2, 100, n))
}

func TestNoCallPanicsAndAnswersHangOnWhatWasCalledAlone(t *testing.T) {
	for _, n := range ends {
		for mode := api.Allow; mode <= api.DropBoth; mode++ {
			for _, c := range odd(n) {
				wantSame(t, busy(t, mode), busy(t, mode), c)
			}
		}
	}
}

// wantSame: two Floors to which the same was done do the same; with an error nothing is told or done, and there are no other errors than those of the document.
func wantSame(t *testing.T, f, again *floor.Floor, c api.Command) {
	t.Helper()
	was := look(t, f)
	got, err := f.Do(c)
	gotAgain, errAgain := again.Do(c)
	if !slices.Equal(got, gotAgain) || plain.Told(err) != plain.Told(errAgain) || !same(look(t, f), look(t, again)) {
		t.Errorf("Do(%+v): first %v %v, then %v %v", c, got, err, gotAgain, errAgain)
	}
	told := plain.Told(err)
	if err != nil && (told < api.ErrRange || told > api.ErrPoor || len(got) > 0 || !same(look(t, f), was)) {
		t.Errorf("Do(%+v): got %v %v, and %v is now %v", c, got, err, was, look(t, f))
	}
}
