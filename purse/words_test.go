package purse_test

import (
	"testing"

	"pitfloor/api"
	"pitfloor/purse"
)

// lot is what one has of a thing: what is free, and what is put by.
type lot struct{ free, by int }

func (l lot) all() int { return l.free + l.by }

// lots of one trader: cash and stock.
type lots struct{ cash, stock lot }

// spoken is P1, word by word, of lots at the traders' numbers, and of steps whose numbers all may be.
func spoken(who map[int]lots, x step) (map[int]lots, api.Errno) {
	now := map[int]lots{}
	for n, l := range who {
		now[n] = l
	}
	told := api.OK
	change := func(n int, do func(l *lots)) {
		l := now[n]
		do(&l)
		now[n] = l
	}
	switch x.call {
	case pay:
		change(x.who, func(l *lots) { l.cash.free += x.n })
	case give:
		change(x.who, func(l *lots) { l.stock.free += x.n })
	case hold:
		change(x.who, func(l *lots) {
			*l = lots{lot{l.cash.free - x.n, l.cash.by + x.n}, lot{l.stock.free - x.stock, l.stock.by + x.stock}}
		})
	case free:
		change(x.who, func(l *lots) {
			*l = lots{lot{l.cash.free + x.n, l.cash.by - x.n}, lot{l.stock.free + x.stock, l.stock.by - x.stock}}
		})
	default:
		change(x.who, func(l *lots) { l.stock.by -= x.qty })
		change(x.to, func(l *lots) { l.cash.by -= x.price * x.qty })
		change(x.to, func(l *lots) { l.stock.free += x.qty })
		change(x.who, func(l *lots) { l.cash.free += x.price * x.qty })
	}
	for _, l := range now {
		if l.cash.all() > most || l.stock.all() > most {
			told = api.ErrFull
		}
	}
	for _, l := range now {
		if min(l.cash.free, l.cash.by, l.stock.free, l.stock.by) < 0 {
			told = api.ErrPoor
		}
	}
	if told != api.OK {
		return who, told
	}
	return now, told
}

func seenOfLots(who map[int]lots) seen {
	var purses []api.Purse
	for n, l := range who {
		purses = append(purses, api.Purse{Who: n, Cash: l.cash.all(), Held: l.cash.by, Stock: l.stock.all(), HeldStock: l.stock.by})
	}
	return seenOf(purses...)
}

// walk does steps one behind the other, holds each against the words, and counts what they told.
func walk(t *testing.T, steps []step, count map[api.Errno]int) {
	t.Helper()
	p, who := purse.New(), map[int]lots{}
	for i, x := range steps {
		var want api.Errno
		who, want = spoken(who, x)
		if got := did(p, x); got != want {
			t.Fatalf("%+v, step %d: got %v, want %v", steps, i, got, want)
		}
		if got, want := look(t, p), seenOfLots(who); got != want {
			t.Fatalf("%+v, step %d: got %v, want %v", steps, i, got, want)
		}
		count[want]++
	}
}

// TestEverywhere holds all short walks, behind a beginning in which two have something, against the promise's words.
func TestEverywhere(t *testing.T) {
	for _, much := range []int{4, most} {
		choices := []step{
			paying(1, 3), giving(2, 2), holding(1, 2, 0), holding(1, 0, 1), holding(2, 2, 1), holding(2, 0, 2),
			freeing(1, 2, 0), freeing(2, 1, 1), trading(1, 2, 1, 1), trading(2, 1, 2, 1), trading(2, 1, 1, 2), trading(2, 2, 1, 1),
		}
		steps := []step{paying(1, much), giving(2, much), paying(2, much), giving(1, 1)}
		var further func(more int)
		further = func(more int) {
			if more == 0 {
				walk(t, steps, map[api.Errno]int{})
				return
			}
			for _, x := range choices {
				steps = append(steps, x)
				further(more - 1)
				steps = steps[:len(steps)-1]
			}
		}
		further(4)
	}
}

// chance is a step of any kind; what comes in is at most so much at once.
func chance(next func(n int) int, much int) step {
	who, to := 1+next(traders), 1+next(traders)
	switch next(8) {
	case 0:
		return paying(who, 1+next(much))
	case 1:
		return giving(who, 1+next(much))
	case 2:
		return holding(who, next(much/2), next(much/2))
	case 3:
		return holding(who, next(much), 0)
	case 4:
		return freeing(who, next(much/50+2), next(much/50+2))
	}
	return trading(who, to, 1+next(min(much, 10000)), 1+next(min(much, 10000)))
}

// TestLongWalks holds walks of all traders, from small numbers to the greatest, against the promise's words.
func TestLongWalks(t *testing.T) {
	count := map[api.Errno]int{}
	for _, much := range []int{3, 20, 500, 1000000, most / 10, most / 2, most} {
		for walks := range 12 {
			seed := uint64(walks + 1)
			next := func(n int) int {
				seed = seed*6364136223846793005 + 1442695040888963407
				return int(seed>>33) % n
			}
			var steps []step
			for range 800 {
				steps = append(steps, chance(next, much))
			}
			walk(t, steps, count)
		}
	}
	for _, told := range []api.Errno{api.OK, api.ErrPoor, api.ErrFull} {
		if count[told] < 500 {
			t.Errorf("only %d steps told %v", count[told], told)
		}
	}
}
