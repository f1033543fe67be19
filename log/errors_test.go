package log_test

import (
	"math"
	"testing"

	"pitfloor/api"
	"pitfloor/log"
	"pitfloor/plain"
)

// Which errors are told, and which of them first.

func TestNewTellsARange(t *testing.T) {
	for _, mode := range []int{math.MinInt, -1 << 32, -1, 4, 5, 1<<32 + 1, math.MaxInt} {
		if l, err := log.New(mode); l != nil || plain.Told(err) != api.ErrRange {
			t.Errorf("New(%d): got %v %v", mode, l, err)
		}
	}
}

// with gives a command other fields that don't go with it.
func with(c api.Command, change func(c *api.Command)) api.Command {
	change(&c)
	return c
}

// What chapter 17's Check refuses a Floor alone would do.
func TestDoTellsWhatCheckTells(t *testing.T) {
	l := kept(t, api.DropTaker, day()...)
	for _, c := range []api.Command{
		with(pay(1, 5), func(c *api.Command) { c.Order.Id = 1 }),
		with(give(1, 5), func(c *api.Command) { c.Order.Stop = 1 }),
		with(cancel(1), func(c *api.Command) { c.Who = 1 }),
		with(cancel(1), func(c *api.Command) { c.Order.Qty = 1 }),
		with(swap(1, 101, 2), func(c *api.Command) { c.N = 1 }),
		with(swap(1, 101, 2), func(c *api.Command) { c.Order.Side = api.Sell }),
		with(buy(99, 1, 50, 1), func(c *api.Command) { c.N = -1 }),
		with(buy(99, 1, 50, 1), func(c *api.Command) { c.Who = 1 }),
	} {
		wantRefused(t, l, c, api.ErrShape)
	}
	for _, c := range []api.Command{
		{}, {What: 6}, {What: -1}, {What: math.MinInt}, pay(0, 5), pay(10, 5), pay(1, 0), pay(1, 1000000001), give(1, -1),
		cancel(0), cancel(10000), swap(0, 1, 1), swap(1, 0, 1), swap(1, 1, 10001), buy(99, 0, 50, 1), buy(99, 1, 10001, 1),
	} {
		wantRefused(t, l, c, api.ErrRange)
	}
}

func TestDoTellsWhatTheFloorRefuses(t *testing.T) {
	l := kept(t, api.DropTaker, day()...)
	wantRefused(t, l, pay(1, 1000000000), api.ErrFull)
	wantRefused(t, l, sell(1, 2, 101, 1), api.ErrClash)
	wantRefused(t, l, buy(99, 9, 100, 1), api.ErrPoor)
	wantRefused(t, l, cancel(99), api.ErrNone)
	wantRefused(t, l, swap(99, 100, 1), api.ErrNone)
	wantRefused(t, l, with(buy(99, 1, 101, 1), func(c *api.Command) { c.Order.Kind = api.Post }), api.ErrCross)
}

// That it has stopped is told ahead of all, what Check says ahead of what the Floor says.
func TestWhichErrorIsFirst(t *testing.T) {
	l := kept(t, api.DropTaker, day()...)
	both := with(cancel(77), func(c *api.Command) { c.N = 1 })
	wantRefused(t, l, both, api.ErrShape)
	wantRefused(t, l, swap(77, 0, 1), api.ErrRange)
	l.Fail(0)
	wantRefused(t, l, both, api.ErrShape)
	wantRefused(t, l, cancel(77), api.ErrNone)
	wantRefused(t, l, api.Command{}, api.ErrRange)
	wantNotSynced(t, l)
	wantRefused(t, l, both, api.ErrState)
	wantRefused(t, l, cancel(77), api.ErrState)
	wantRefused(t, l, api.Command{}, api.ErrState)
}
