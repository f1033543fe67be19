package tape_test

import (
	"slices"
	"testing"

	"pitfloor/api"
	"pitfloor/plain"
	"pitfloor/tape"
)

// What the tests of package tape are made of.

func rested(id, qty, price int) api.Event {
	return api.Event{What: api.Rested, Id: id, Qty: qty, Price: price}
}

func gone(id, qty, price int) api.Event {
	return api.Event{What: api.Gone, Id: id, Qty: qty, Price: price}
}

func woken(id, qty, price int) api.Event {
	return api.Event{What: api.Woken, Id: id, Qty: qty, Price: price}
}

func sleeping(id, qty, stop int) api.Event {
	return api.Event{What: api.Sleeping, Id: id, Qty: qty, Price: stop}
}

func traded(maker, taker, price, qty int) api.Event {
	t := api.Trade{Maker: maker, Taker: taker, From: 3, To: 8, Price: price, Qty: qty}
	return api.Event{What: api.Traded, Trade: t}
}

func told(l ...api.Event) []api.Event { return l }

// others than Traded, one of each.
func others() []api.Event {
	return told(rested(7, 5, 99), gone(7, 5, 99), woken(7, 5, 99), sleeping(7, 5, 99))
}

// each of the events that there are.
func each() []api.Event { return append(others(), traded(7, 4, 99, 5)) }

// field of an event, by its number: those of others than Traded, then those of a Trade.
func field(e *api.Event, number int) *int {
	t := &e.Trade
	return []*int{&e.Id, &e.Qty, &e.Price, &t.From, &t.To, &t.Maker, &t.Taker, &t.Price, &t.Qty}[number]
}

// bounds of the fields, from low to high.
var bounds = [][2]int{{1, 9999}, {0, 10000}, {0, 10000}, {1, 9}, {1, 9}, {1, 9999}, {1, 9999}, {1, 10000}, {1, 10000}}

// ofTrade tells whether a field is one of a Trade.
func ofTrade(number int) bool { return number >= 3 }

// answer of all calls.
type answer struct {
	rests       [][3]int
	qty, trades int
	last        int
	text        string
	errs        [5]api.Errno // of Check, Book, Volume, Last, Print
}

func ask(l []api.Event) (a answer) {
	var bad [5]error
	bad[0] = tape.Check(l)
	a.rests, bad[1] = tape.Book(l)
	a.qty, a.trades, bad[2] = tape.Volume(l)
	a.last, bad[3] = tape.Last(l)
	a.text, bad[4] = tape.Print(l)
	for i, err := range bad {
		a.errs[i] = plain.Told(err)
	}
	return a
}

func same(a, b answer) bool {
	return slices.Equal(a.rests, b.rests) && a.qty == b.qty && a.trades == b.trades && a.last == b.last && a.text == b.text && a.errs == b.errs
}

func refused(e api.Errno) answer { return answer{errs: [5]api.Errno{e, e, e, e, e}} }

func wantRefused(t *testing.T, l []api.Event, want api.Errno) {
	t.Helper()
	if got := ask(l); !same(got, refused(want)) {
		t.Errorf("%v: got %v, want %v", l, got, want)
	}
}

func wantGood(t *testing.T, l ...api.Event) {
	t.Helper()
	if got := ask(l); got.errs != [5]api.Errno{} {
		t.Errorf("%v: got %v", l, got.errs)
	}
}

func wantBook(t *testing.T, l []api.Event, want ...[3]int) {
	t.Helper()
	if got, err := tape.Book(l); err != nil || !slices.Equal(got, want) {
		t.Errorf("Book(%v): got %v %v, want %v", l, got, err, want)
	}
}

func wantVolume(t *testing.T, l []api.Event, qty, trades int) {
	t.Helper()
	if got, count, err := tape.Volume(l); err != nil || got != qty || count != trades {
		t.Errorf("Volume(%v): got %d %d %v, want %d %d", l, got, count, err, qty, trades)
	}
}

func wantLast(t *testing.T, l []api.Event, want int) {
	t.Helper()
	if got, err := tape.Last(l); err != nil || got != want {
		t.Errorf("Last(%v): got %d %v, want %d", l, got, err, want)
	}
}

func wantText(t *testing.T, l []api.Event, want string) {
	t.Helper()
	if got, err := tape.Print(l); err != nil || got != want {
		t.Errorf("Print(%v): got %q %v, want %q", l, got, err, want)
	}
}
