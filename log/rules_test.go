package log_test

import (
	"fmt"
	"math"
	"slices"
	"testing"

	"pitfloor/api"
	"pitfloor/log"
	"pitfloor/plain"
)

// The rules that hold everywhere (P1 to P4 of the document), asked of package log.

// ends of numbers, next to all bounds.
var ends = []int{
	math.MinInt, math.MinInt + 1, -1 << 32, -1, 0, 1, 2, 3, 4, 5, 6, 9, 10, 255, 256, 9999, 10000, 10001, 1000000000, 1000000001, 1<<32 + 1, math.MaxInt - 1, math.MaxInt,
}

// story of what a Log tells of itself, and of what it is asked.
func story(t *testing.T, l *log.Log, n int) string {
	t.Helper()
	text := ""
	tell := func(what ...any) { text += fmt.Sprintln(append(what, l.Bytes(), l.Safe(), look(l.Floor()))...) }
	all := api.Order{Id: n, Who: n, Side: n, Kind: n, Price: n, Qty: n, Show: n, Stop: n}
	odd := commands(api.Command{What: n, Order: all, Who: n, N: n}, place(all), cancel(n), swap(n, n, n), pay(n, 1), give(1, n), pay(1, 1))
	for range 2 {
		for _, c := range odd {
			events, err := l.Do(c)
			tell(events, plain.Told(err))
		}
		l.Fail(n)
		tell(plain.Told(l.Sync()))
		for _, c := range odd {
			events, err := l.Do(c)
			tell(events, plain.Told(err))
		}
		l.Crash(n)
		tell()
	}
	return text
}

// Two Logs to which the same was done tell the same, whatever other Logs do, and no number lets one panic.
func TestNoCallPanicsAndAnswersHangOnWhatWasCalledAlone(t *testing.T) {
	for _, n := range ends {
		for mode := api.Allow; mode <= api.DropBoth; mode++ {
			first := story(t, kept(t, mode, day()...), n)
			story(t, kept(t, mode, pay(5, 5)), 3)
			if again := story(t, kept(t, mode, day()...), n); again != first {
				t.Errorf("%d: first %v, then %v", n, first, again)
			}
		}
		if l, err := log.New(n); (l == nil) == (err == nil) {
			t.Errorf("New(%d): got %v %v", n, l, err)
		}
	}
}

// What comes out is the caller's: written over, it changes nothing of the Log, nor what was told ahead.
func TestEventsAreTheCallers(t *testing.T) {
	l, untouched := empty(t, api.DropTaker), empty(t, api.DropTaker)
	for _, c := range day() {
		got, err := l.Do(c)
		want, bad := untouched.Do(c)
		if !slices.Equal(got, want) || err != nil || bad != nil {
			t.Fatalf("Do(%+v): got %v %v, want %v %v", c, got, err, want, bad)
		}
		got = got[:cap(got)]
		for i := range got {
			got[i] = api.Event{What: -1, Id: -1}
		}
	}
	wantFloor(t, l, api.DropTaker, day()...)
	l.Crash(math.MaxInt)
	wantFloor(t, l, api.DropTaker, day()...)
}

// Logs know nothing of each other.
func TestLogsAreApart(t *testing.T) {
	l, other := kept(t, api.DropTaker, day()...), kept(t, api.DropTaker, day()...)
	size := other.Bytes()
	do(t, l, pay(1, 5))
	sync(t, l)
	l.Fail(0)
	wantNotSynced(t, l)
	l.Crash(0)
	wantBytes(t, other, size, 0)
	do(t, other, pay(2, 7))
	sync(t, other)
	wantFloor(t, other, api.DropTaker, append(day(), pay(2, 7))...)
	wantFloor(t, l, api.DropTaker, append(day(), pay(1, 5))...)
}
