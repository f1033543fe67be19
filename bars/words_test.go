package bars_test

import (
	"slices"
	"testing"

	"pitfloor/api"
	"pitfloor/bars"
	"pitfloor/floor"
	"pitfloor/tape"
)

// B1 held against its words, taken one piece at a time, and against what a floor's tape tells.

// pieces of trades: the price of each single piece that was traded, in order.
func pieces(l []api.Trade) (prices []int) {
	for _, t := range l {
		prices = append(prices, slices.Repeat([]int{t.Price}, t.Qty)...)
	}
	return prices
}

// spoken is what all calls tell of small trades with which nothing is wrong, n at a time.
func spoken(l []api.Trade, n int) (a told) {
	for at := 0; at < len(l); at += n {
		p := pieces(l[at:min(at+n, len(l))])
		a.bars = append(a.bars, bar(p[0], slices.Max(p), slices.Min(p), p[len(p)-1], len(p)))
	}
	if len(l) == 0 {
		a.errs = [3]api.Errno{api.OK, api.ErrNone, api.ErrNone}
		return a
	}
	p := pieces(l)
	a.low, a.high = slices.Min(p), slices.Max(p)
	// The greatest price at which all of it would not have been worth more.
	for len(p)*(a.mean+1) <= sum(p) {
		a.mean++
	}
	return a
}

func sum(l []int) (all int) {
	for _, n := range l {
		all += n
	}
	return all
}

// TestEverywhere holds all calls on all short lists of some trades against the promise's words.
func TestEverywhere(t *testing.T) {
	some := trades(traded(1, 3), traded(2, 1), traded(2, 5), traded(4, 2), traded(9, 1), traded(7, 7))
	var further func(l []api.Trade)
	further = func(l []api.Trade) {
		for _, n := range []int{1, 2, 3, 4, 5, 6, 400} {
			if got, want := ask(l, n), spoken(l, n); !same(got, want) {
				t.Errorf("%v by %d: got %v, want %v", l, n, got, want)
			}
		}
		if len(l) == 5 {
			return
		}
		for _, one := range some {
			further(append(l[:len(l):len(l)], one))
		}
	}
	further(nil)
}

// dice are numbers that look as if they came by chance, and are the same in each run.
type dice uint64

func (d *dice) below(n int) int {
	*d = *d*6364136223846793005 + 1442695040888963407
	return int(*d>>33) % n
}

func (d *dice) trades(count int) (l []api.Trade) {
	for range count {
		l = append(l, traded(1+d.below(200), 1+d.below(30)))
	}
	return l
}

// TestLongLists holds the calls on lists of all lengths against the promise's words.
func TestLongLists(t *testing.T) {
	d := dice(1)
	for count := range api.MaxTrades + 1 {
		l, n := d.trades(count), 1+d.below(api.MaxTrades)
		if got, want := ask(l, n), spoken(l, n); !same(got, want) {
			t.Errorf("%v by %d: got %v, want %v", l, n, got, want)
		}
	}
}

// TestBarsJoinedAreTheBarOfAll: however many trades a Bar was of, and however Bars were joined ahead.
func TestBarsJoinedAreTheBarOfAll(t *testing.T) {
	d := dice(2)
	for count := 1; count <= api.MaxTrades; count += 7 {
		l := d.trades(count)
		whole := spoken(l, count).bars[0]
		for _, n := range []int{1, 2, 3, 10, 399, 400} {
			parts, err := bars.Bars(l, n)
			if err != nil {
				t.Fatal(err)
			}
			wantJoined(t, parts, whole)
			at := 1 + d.below(len(parts))
			wantJoined(t, append(several(joined(t, parts[:at])), parts[at:]...), whole)
		}
	}
}

func joined(t *testing.T, l []api.Bar) api.Bar {
	t.Helper()
	b, err := bars.Join(l)
	if err != nil {
		t.Fatal(err)
	}
	return b
}

// wealthy is a floor on which all have plenty.
func wealthy(t *testing.T) *floor.Floor {
	t.Helper()
	f, err := floor.New(api.DropTaker)
	if err != nil {
		t.Fatal(err)
	}
	for who := 1; who <= api.MaxWho; who++ {
		_, noCash := f.Do(api.Command{What: api.Pay, Who: who, N: 1000000})
		_, noStock := f.Do(api.Command{What: api.Give, Who: who, N: 1000000})
		if noCash != nil || noStock != nil {
			t.Fatal(noCash, noStock)
		}
	}
	return f
}

func (d *dice) command(id int) api.Command {
	o := api.Order{Id: id, Who: 1 + d.below(9), Side: 1 + d.below(2), Kind: api.Limit, Price: 95 + d.below(11), Qty: 1 + d.below(12)}
	return api.Command{What: api.Place, Order: o}
}

// tradesOf events, in order.
func tradesOf(events []api.Event) (l []api.Trade) {
	for _, e := range events {
		if e.What == api.Traded {
			l = append(l, e.Trade)
		}
	}
	return l
}

// wantAsOnTape: a Bar of all trades has as much as the tape, and ends at its last price.
func wantAsOnTape(t *testing.T, events []api.Event) {
	t.Helper()
	l := tradesOf(events)
	qty, count, bad := tape.Volume(events)
	last, worse := tape.Last(events)
	got, err := bars.Bars(l, api.MaxTrades)
	if bad != nil || worse != nil || err != nil || count != len(l) {
		t.Fatalf("%v: %v %v %v, %d of %d trades", events, bad, worse, err, count, len(l))
	}
	if len(l) == 0 {
		wantBars(t, l, api.MaxTrades)
		return
	}
	low, high, err := bars.Range(l)
	if want := bar(l[0].Price, high, low, last, qty); err != nil || got[0] != want {
		t.Errorf("%v: got %v %v, want %v", l, got, err, want)
	}
}

// TestTradesOfAFloor makes Bars of what floors tell.
func TestTradesOfAFloor(t *testing.T) {
	for walk := range 10 {
		d, f := dice(walk), wealthy(t)
		var events []api.Event
		for id := 1; len(events) < 200; id++ {
			told, _ := f.Do(d.command(id))
			events = append(events, told...)
			wantAsOnTape(t, events)
		}
		if len(tradesOf(events)) < 50 {
			t.Errorf("walk %d: of %d events few are trades", walk, len(events))
		}
	}
}
