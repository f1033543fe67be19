package tape_test

import (
	"fmt"
	"slices"
	"strings"
	"testing"

	"pitfloor/api"
	"pitfloor/floor"
	"pitfloor/tape"
)

// T1 held against its words, and against what a floor has: what was told is what there is.

// leftOf an Id is what rests of it by its last Rested, and by what came behind that.
func leftOf(l []api.Event, id int) (qty, price int) {
	at := len(l) - 1
	for at >= 0 && (l[at].What != api.Rested || l[at].Id != id) {
		at--
	}
	if at < 0 {
		return 0, 0
	}
	qty, price = l[at].Qty, l[at].Price
	for _, e := range l[at:] {
		if e.What == api.Gone && e.Id == id {
			return 0, 0
		}
		if e.What == api.Traded && e.Trade.Maker == id {
			qty -= e.Trade.Qty
		}
	}
	return max(qty, 0), price
}

// spoken is what all calls tell of events with which nothing is wrong, and whose Ids are small.
func spoken(l []api.Event) (a answer) {
	for id := 1; id <= 20; id++ {
		if qty, price := leftOf(l, id); qty > 0 {
			a.rests = append(a.rests, [3]int{id, qty, price})
		}
	}
	for _, e := range l {
		t := e.Trade
		switch e.What {
		case api.Rested:
			a.text += fmt.Sprintln("rested", e.Id, e.Qty, e.Price)
		case api.Traded:
			a.text += fmt.Sprintln("traded", t.Maker, t.Taker, t.Qty, t.Price)
			a.qty, a.trades, a.last = a.qty+t.Qty, a.trades+1, t.Price
		case api.Gone:
			a.text += fmt.Sprintln("gone", e.Id, e.Qty)
		case api.Woken:
			a.text += fmt.Sprintln("woken", e.Id)
		case api.Sleeping:
			a.text += fmt.Sprintln("sleeping", e.Id)
		}
	}
	return a
}

// TestEverywhere holds all calls on all short lists of some events against the promise's words.
func TestEverywhere(t *testing.T) {
	some := told(
		rested(1, 3, 99), rested(2, 2, 98), rested(1, 1, 97), rested(2, 0, 96), traded(1, 2, 99, 1), traded(1, 2, 98, 2), traded(2, 1, 97, 2),
		gone(1, 1, 99), gone(2, 2, 98), woken(1, 2, 99), sleeping(2, 2, 99),
	)
	var further func(l []api.Event)
	further = func(l []api.Event) {
		if got, want := ask(l), spoken(l); !same(got, want) {
			t.Errorf("%v: got %v, want %v", l, got, want)
		}
		if len(l) == 4 {
			return
		}
		for _, e := range some {
			further(append(l[:len(l):len(l)], e))
		}
	}
	further(nil)
}

// dice are numbers that look as if they came by chance, and are the same in each run.
type dice uint64

func (d *dice) below(n int) int {
	*d = *d*6364136223846793005 + 1442695040888963407
	return int(*d>>33) % n
}

func (d *dice) order(id int) api.Order {
	o := api.Order{Id: id, Who: 1 + d.below(9), Side: 1 + d.below(2), Kind: 1 + d.below(5), Price: 95 + d.below(11), Qty: 1 + d.below(12)}
	if o.Kind == api.Market {
		o.Price = 0
	}
	if d.below(3) == 0 && (o.Kind == api.Limit || o.Kind == api.Post) {
		o.Show = 1 + d.below(o.Qty)
	}
	if d.below(4) == 0 {
		o.Stop = 93 + d.below(15)
	}
	return o
}

func (d *dice) command(id int) api.Command {
	switch d.below(6) {
	case 0:
		return api.Command{What: api.Cancel, Order: api.Order{Id: 1 + d.below(id)}}
	case 1:
		return api.Command{What: api.Swap, Order: api.Order{Id: 1 + d.below(id), Price: 95 + d.below(11), Qty: 1 + d.below(12)}}
	}
	return api.Command{What: api.Place, Order: d.order(id)}
}

// wealthy is a floor on which all have plenty.
func wealthy(t *testing.T, mode int) *floor.Floor {
	t.Helper()
	f, err := floor.New(mode)
	if err != nil {
		t.Fatal(err)
	}
	for who := 1; who <= api.MaxWho; who++ {
		_, noCash := f.Do(api.Command{What: api.Pay, Who: who, N: 1000000})
		_, noStock := f.Do(api.Command{What: api.Give, Who: who, N: 1000000})
		if noCash != nil || noStock != nil {
			t.Fatal(noCash, noStock)
		}
	}
	return f
}

// wantTold: by what was told there rests what a floor has, and the last price is that of the floor.
func wantTold(t *testing.T, f *floor.Floor, l []api.Event) {
	t.Helper()
	wantBook(t, l, there(f)...)
	wantLast(t, l, f.Last())
}

// there rests, shown or hidden, on a floor: Id, Qty, Price, by Id.
func there(f *floor.Floor) (l [][3]int) {
	b := f.Book()
	for _, level := range slices.Concat(b.Buys, b.Sells) {
		for _, r := range level.Rests {
			l = append(l, [3]int{r.Id, r.Qty + r.Hidden, level.Price})
		}
	}
	slices.SortFunc(l, func(a, b [3]int) int { return a[0] - b[0] })
	return l
}

// wantMoved: what of the stock went from one trader to another by a command is what was told to be traded.
func wantMoved(t *testing.T, was, is [10]int, events []api.Event) {
	t.Helper()
	for _, e := range events {
		if e.What == api.Traded {
			was[e.Trade.From] -= e.Trade.Qty
			was[e.Trade.To] += e.Trade.Qty
		}
	}
	if was != is {
		t.Errorf("%v: stock is %v, told was %v", events, is, was)
	}
}

// stocks of all traders.
func stocks(t *testing.T, f *floor.Floor) (all [10]int) {
	t.Helper()
	for who := 1; who <= api.MaxWho; who++ {
		has, err := f.Purse(who)
		if err != nil {
			t.Fatal(err)
		}
		all[who] = has.Stock
	}
	return all
}

// TestWhatWasToldIsWhatThereIs walks over floors of all modes, as long as what they tell fits.
func TestWhatWasToldIsWhatThereIs(t *testing.T) {
	seen := [6]int{}
	for walk := range 40 {
		d, f := dice(walk), wealthy(t, walk%4)
		var l []api.Event
		for id := 1; len(l) < 300; id++ {
			was := stocks(t, f)
			events, err := f.Do(d.command(id))
			if err != nil && len(events) > 0 {
				t.Fatalf("%v beside %v", events, err)
			}
			l = append(l, events...)
			wantTold(t, f, l)
			wantMoved(t, was, stocks(t, f), events)
		}
		if text, err := tape.Print(l); err != nil || strings.Count(text, "\n") != len(l) {
			t.Errorf("walk %d: Print: %q %v", walk, text, err)
		}
		for _, e := range l {
			seen[e.What]++
		}
	}
	if slices.Min(seen[1:]) < 300 {
		t.Errorf("the walks did not come by all events: %v", seen)
	}
}
