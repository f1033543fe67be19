package wake_test

import (
	"slices"
	"testing"

	"pitfloor/api"
	"pitfloor/plain"
	"pitfloor/wake"
)

// step is a call on Stops: of Put its order, of Drop its Id, of Wake its price.
type step struct {
	put         api.Order
	drop, price int
}

// told is what a step answers, and all that wait behind it.
type told struct {
	err     api.Errno
	dropped api.Order
	woken   []api.Order
	all     []api.Order
}

func (a told) equal(b told) bool {
	return a.err == b.err && a.dropped == b.dropped && slices.Equal(a.woken, b.woken) && slices.Equal(a.all, b.all)
}

func did(s *wake.Stops, x step) (a told) {
	var err error
	switch {
	case x.put != api.Order{}:
		err = s.Put(x.put)
	case x.drop != 0:
		a.dropped, err = s.Drop(x.drop)
	default:
		a.woken, err = s.Wake(x.price)
	}
	a.err, a.all = plain.Told(err), s.All()
	return a
}

// spoken is W1, word by word, of good orders that have a Stop, and of prices; the list that is handed in waits.
func spoken(l []api.Order, x step) told {
	ofId := func(id int) func(o api.Order) bool { return func(o api.Order) bool { return o.Id == id } }
	switch {
	case x.put != api.Order{}:
		switch {
		case slices.ContainsFunc(l, ofId(x.put.Id)):
			return told{err: api.ErrClash, all: l}
		case len(l) == 20:
			return told{err: api.ErrFull, all: l}
		}
		return told{all: append(slices.Clone(l), x.put)}
	case x.drop != 0:
		for _, o := range l {
			if o.Id == x.drop {
				return told{dropped: o, all: slices.DeleteFunc(slices.Clone(l), ofId(x.drop))}
			}
		}
		return told{err: api.ErrNone, all: l}
	}
	return spokenWake(l, x.price)
}

// spokenWake goes over all Stops that are met, one price at a time.
func spokenWake(l []api.Order, price int) (a told) {
	wakeAt := func(side, stop int) {
		for _, o := range l {
			if o.Side == side && o.Stop == stop {
				a.woken = append(a.woken, withStop(o, 0))
			}
		}
	}
	for stop := 1; stop <= price; stop++ {
		wakeAt(api.Buy, stop)
	}
	for stop := highest; stop >= price; stop-- {
		wakeAt(api.Sell, stop)
	}
	for _, o := range l {
		if !slices.ContainsFunc(a.woken, func(w api.Order) bool { return w.Id == o.Id }) {
			a.all = append(a.all, o)
		}
	}
	return a
}

// highest Stop of the orders that are put here.
const highest = 6

// walk does steps one behind the other, and holds each against the words.
func walk(t *testing.T, steps []step) {
	t.Helper()
	s, waits := wake.New(), []api.Order(nil)
	for i, x := range steps {
		got, want := did(s, x), spoken(waits, x)
		if !got.equal(want) {
			t.Fatalf("%+v, step %d: got %v, want %v", steps, i, got, want)
		}
		waits = want.all
	}
}

// TestEverywhere holds all short walks against the promise's words.
func TestEverywhere(t *testing.T) {
	choices := []step{
		{put: buy(1, 2)}, {put: buy(2, 3)}, {put: buy(3, 2)}, {put: sell(4, 2)}, {put: sell(5, 3)}, {put: sell(1, 3)},
		{drop: 1}, {drop: 4}, {price: 1}, {price: 2}, {price: 3}, {price: 4},
	}
	var steps []step
	var further func(more int)
	further = func(more int) {
		if more == 0 {
			walk(t, steps)
			return
		}
		for _, x := range choices {
			steps = append(steps, x)
			further(more - 1)
			steps = steps[:len(steps)-1]
		}
	}
	further(5)
}

// TestLongWalks holds walks on which many wait against the promise's words; the less often prices are met, the more do.
func TestLongWalks(t *testing.T) {
	for seldom := 1; seldom <= 40; seldom++ {
		seed, full := uint32(seldom), false
		next := func(n int) int {
			seed = seed*1664525 + 1013904223
			return int(seed>>8) % n
		}
		var steps []step
		for range 600 {
			switch kind := next(seldom + 4); {
			case kind == 0:
				steps = append(steps, step{price: 1 + next(highest)})
			case kind == 1:
				steps = append(steps, step{drop: 1 + next(40)})
			default:
				steps = append(steps, step{put: waiting(1+next(40), api.Buy+next(2), 1+next(highest))})
			}
		}
		walk(t, steps)
		waits := []api.Order(nil)
		for _, x := range steps {
			a := spoken(waits, x)
			full, waits = full || a.err == api.ErrFull, a.all
		}
		if seldom == 40 && !full {
			t.Error("no walk comes to where no more may wait")
		}
	}
}
