package floor_test

import (
	"slices"
	"testing"

	"pitfloor/api"
	"pitfloor/floor"
	"pitfloor/plain"
)

// What the tests of package floor are made of.

const (
	most    = 1000000000 // of cash, and of stock
	traders = 9
	rich    = 500000000 // what each has of both on a wealthy floor
)

func pay(who, n int) api.Command { return api.Command{What: api.Pay, Who: who, N: n} }

func give(who, n int) api.Command { return api.Command{What: api.Give, Who: who, N: n} }

func place(o api.Order) api.Command { return api.Command{What: api.Place, Order: o} }

func cancel(id int) api.Command { return api.Command{What: api.Cancel, Order: api.Order{Id: id}} }

func swap(id, price, qty int) api.Command {
	return api.Command{What: api.Swap, Order: api.Order{Id: id, Price: price, Qty: qty}}
}

func buy(id, who, price, qty int) api.Order {
	return api.Order{Id: id, Who: who, Side: api.Buy, Kind: api.Limit, Price: price, Qty: qty}
}

func sell(id, who, price, qty int) api.Order {
	return api.Order{Id: id, Who: who, Side: api.Sell, Kind: api.Limit, Price: price, Qty: qty}
}

// ofKind gives an order with another Kind, and what goes with it.
func ofKind(o api.Order, kind int) api.Order {
	o.Kind = kind
	if kind == api.Market {
		o.Price = 0
	}
	return o
}

func withShow(o api.Order, show int) api.Order {
	o.Show = show
	return o
}

func withStop(o api.Order, stop int) api.Order {
	o.Stop = stop
	return o
}

func rested(id, qty, price int) api.Event {
	return api.Event{What: api.Rested, Id: id, Qty: qty, Price: price}
}

func gone(id, qty, price int) api.Event {
	return api.Event{What: api.Gone, Id: id, Qty: qty, Price: price}
}

func woken(id, qty, price int) api.Event {
	return api.Event{What: api.Woken, Id: id, Qty: qty, Price: price}
}

func sleeping(id, qty, stop int) api.Event {
	return api.Event{What: api.Sleeping, Id: id, Qty: qty, Price: stop}
}

func traded(maker, taker, from, to, price, qty int) api.Event {
	t := api.Trade{Maker: maker, Taker: taker, From: from, To: to, Price: price, Qty: qty}
	return api.Event{What: api.Traded, Trade: t}
}

func rest(id, who, qty, hidden, show int) api.Rest {
	return api.Rest{Id: id, Who: who, Qty: qty, Hidden: hidden, Show: show}
}

func level(price int, l ...api.Rest) api.Level { return api.Level{Price: price, Rests: l} }

func levels(l ...api.Level) []api.Level { return l }

// seen is all that a Floor tells of itself.
type seen struct {
	book   api.Book
	stops  []api.Order
	purses [traders]api.Purse
	last   int
}

func look(t *testing.T, f *floor.Floor) seen {
	t.Helper()
	s := seen{book: f.Book(), stops: f.Stops(), last: f.Last()}
	for i := range s.purses {
		has, err := f.Purse(i + 1)
		if err != nil {
			t.Errorf("Purse(%d): %v", i+1, err)
		}
		s.purses[i] = has
	}
	return s
}

func sameLevels(a, b []api.Level) bool {
	return slices.EqualFunc(a, b, func(a, b api.Level) bool {
		return a.Price == b.Price && slices.Equal(a.Rests, b.Rests)
	})
}

func sameBook(a, b api.Book) bool { return sameLevels(a.Buys, b.Buys) && sameLevels(a.Sells, b.Sells) }

func same(a, b seen) bool {
	return sameBook(a.book, b.book) && slices.Equal(a.stops, b.stops) && a.purses == b.purses && a.last == b.last
}

// empty is a Floor on which nobody has anything.
func empty(t *testing.T, mode int) *floor.Floor {
	t.Helper()
	f, err := floor.New(mode)
	if err != nil {
		t.Fatalf("New(%d): %v", mode, err)
	}
	return f
}

// wealthy is a Floor on which all have plenty, and then these commands were done.
func wealthy(t *testing.T, mode int, l ...api.Command) *floor.Floor {
	t.Helper()
	f := empty(t, mode)
	for who := 1; who <= traders; who++ {
		do(t, f, pay(who, rich), give(who, rich))
	}
	do(t, f, l...)
	return f
}

// placed is a wealthy Floor, to which these orders came.
func placed(t *testing.T, mode int, l ...api.Order) *floor.Floor {
	t.Helper()
	f := wealthy(t, mode)
	for _, o := range l {
		do(t, f, place(o))
	}
	return f
}

// do commands with which nothing is wrong.
func do(t *testing.T, f *floor.Floor, l ...api.Command) {
	t.Helper()
	for _, c := range l {
		if _, err := f.Do(c); err != nil {
			t.Fatalf("Do(%+v): %v", c, err)
		}
	}
}

func wantDone(t *testing.T, f *floor.Floor, c api.Command, want ...api.Event) {
	t.Helper()
	got, err := f.Do(c)
	if err != nil || !slices.Equal(got, want) {
		t.Errorf("Do(%+v): got %v %v, want %v", c, got, err, want)
	}
}

// wantRefused wants an error, nothing told beside it, and that nothing is another thing behind it.
func wantRefused(t *testing.T, f *floor.Floor, c api.Command, want api.Errno) {
	t.Helper()
	was := look(t, f)
	if got, err := f.Do(c); len(got) > 0 || plain.Told(err) != want {
		t.Errorf("Do(%+v): got %v %v, want %v", c, got, err, want)
	}
	if is := look(t, f); !same(is, was) {
		t.Errorf("Do(%+v): %v is now %v", c, was, is)
	}
}

func wantBook(t *testing.T, f *floor.Floor, buys, sells []api.Level) {
	t.Helper()
	if got, want := f.Book(), (api.Book{Buys: buys, Sells: sells}); !sameBook(got, want) {
		t.Errorf("Book: got %v, want %v", got, want)
	}
}

func wantStops(t *testing.T, f *floor.Floor, want ...api.Order) {
	t.Helper()
	if got := f.Stops(); !slices.Equal(got, want) {
		t.Errorf("Stops: got %v, want %v", got, want)
	}
}

func wantLast(t *testing.T, f *floor.Floor, want int) {
	t.Helper()
	if got := f.Last(); got != want {
		t.Errorf("Last: got %d, want %d", got, want)
	}
}

func wantPurse(t *testing.T, f *floor.Floor, want api.Purse) {
	t.Helper()
	if got, err := f.Purse(want.Who); got != want || err != nil {
		t.Errorf("Purse(%d): got %v %v, want %v", want.Who, got, err, want)
	}
}

// wantChange of what a trader on a wealthy Floor has more than at first, and of what is put by.
func wantChange(t *testing.T, f *floor.Floor, who, cash, held, stock, heldStock int) {
	t.Helper()
	wantPurse(t, f, api.Purse{Who: who, Cash: rich + cash, Held: held, Stock: rich + stock, HeldStock: heldStock})
}
