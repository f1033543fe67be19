package log_test

import (
	"math"
	"slices"
	"testing"

	"pitfloor/api"
)

// L1 of chapter 18: a Log does what its Floor does, and keeps it as bytes.

func TestNewHasAFloorOfItsMode(t *testing.T) {
	for mode := api.Allow; mode <= api.DropBoth; mode++ {
		l := empty(t, mode)
		wantBytes(t, l, 0, 0)
		wantFloor(t, l, mode)
		do(t, l, day()...)
		wantFloor(t, l, mode, day()...)
	}
}

// The day is another one in each mode, so that the test ahead tells them apart.
func TestModesAreTold(t *testing.T) {
	var all []string
	for mode := api.Allow; mode <= api.DropBoth; mode++ {
		all = append(all, floorOf(t, mode, day()...))
	}
	slices.Sort(all)
	if len(slices.Compact(all)) != 4 {
		t.Errorf("the day does not tell the modes apart: %v", all)
	}
}

func TestDoTellsWhatTheFloorTells(t *testing.T) {
	l := empty(t, api.DropTaker)
	wantDone(t, l, pay(1, 5000))
	wantDone(t, l, give(2, 50))
	wantDone(t, l, sell(1, 2, 100, 8), rested(1, 8, 100))
	wantDone(t, l, sleeps(2, 1, 99, 3, 100), api.Event{What: api.Sleeping, Id: 2, Qty: 3, Price: 100})
	wantDone(t, l, buy(3, 1, 101, 5), traded(1, 3, 2, 1, 100, 5), api.Event{What: api.Woken, Id: 2, Qty: 3, Price: 100}, rested(2, 3, 99))
	wantDone(t, l, swap(1, 100, 2), rested(1, 2, 100))
	wantDone(t, l, cancel(2), api.Event{What: api.Gone, Id: 2, Qty: 3, Price: 99})
}

// Each record is behind the other: what a Log keeps only becomes more, by at least two bytes each time.
func TestRecordsStandOneBehindTheOther(t *testing.T) {
	for i, size := range records(t, api.DropMaker, day()...) {
		if size < 2 {
			t.Errorf("the record of %+v has %d bytes", day()[i], size)
		}
	}
}

func TestWhatIsDoneIsNotSafe(t *testing.T) {
	l := empty(t, api.Allow)
	for i, c := range day() {
		do(t, l, c)
		wantBytes(t, l, sum(records(t, api.Allow, day()[:i+1]...)), 0)
	}
}

func TestSyncMakesAllSafe(t *testing.T) {
	l := empty(t, api.DropBoth)
	sync(t, l)
	wantBytes(t, l, 0, 0)
	sizes := records(t, api.DropBoth, day()...)
	for i, c := range day() {
		do(t, l, c)
		if i%3 == 2 {
			sync(t, l)
			sync(t, l)
		}
		wantBytes(t, l, sum(sizes[:i+1]), sum(sizes[:(i+1)/3*3]))
		wantFloor(t, l, api.DropBoth, day()[:i+1]...)
	}
}

// A command that is refused leaves no record, be it that Check or that the Floor refuses it.
func TestWhatIsRefusedIsNotKept(t *testing.T) {
	l := kept(t, api.DropTaker, day()...)
	for range 3 {
		wantRefused(t, l, pay(0, 5), api.ErrRange)
		wantRefused(t, l, cancel(77), api.ErrNone)
	}
	l.Crash(math.MaxInt)
	wantFloor(t, l, api.DropTaker, day()...)
}

// eachDay has each command of the day as the one at which a Log is to stop: those ahead of it are done, each a step.
func eachDay(t *testing.T, mode int, do func(ahead []api.Command, c api.Command, sizes []int)) {
	t.Helper()
	sizes := records(t, mode, day()...)
	for i, c := range day() {
		do(day()[:i], c, sizes[:i+1])
	}
}

func TestFailStopsAtARecord(t *testing.T) {
	eachDay(t, api.DropMaker, func(ahead []api.Command, c api.Command, sizes []int) {
		l := empty(t, api.DropMaker)
		l.Fail(len(ahead))
		do(t, l, ahead...)
		wantStops(t, l, c, sizes[len(ahead)])
		wantBytes(t, l, sum(sizes[:len(ahead)])+sizes[len(ahead)]/2, 0)
		wantFloor(t, l, api.DropMaker, ahead...)
		wantStopped(t, l)
		wantStopped(t, l)
	})
}

// The same, with as many of the steps as may be that are a Sync, and with Fail told late.
func TestFailCountsFromNow(t *testing.T) {
	eachDay(t, api.Allow, func(ahead []api.Command, c api.Command, sizes []int) {
		l := kept(t, api.Allow, ahead...)
		l.Fail(5)
		for range 5 {
			sync(t, l)
		}
		wantStops(t, l, c, sizes[len(ahead)])
		wantBytes(t, l, sum(sizes[:len(ahead)])+sizes[len(ahead)]/2, sum(sizes[:len(ahead)]))
		wantStopped(t, l)
	})
}

func TestFailStopsAtASync(t *testing.T) {
	eachDay(t, api.DropTaker, func(ahead []api.Command, c api.Command, sizes []int) {
		l := kept(t, api.DropTaker, ahead...)
		sync(t, l)
		l.Fail(1)
		do(t, l, c)
		wantNotSynced(t, l)
		wantBytes(t, l, sum(sizes), sum(sizes[:len(ahead)]))
		wantFloor(t, l, api.DropTaker, append(ahead, c)...)
		wantStopped(t, l)
	})
}

// What comes to no record is no step, however often it comes.
func TestWhatIsRefusedIsNoStep(t *testing.T) {
	l := kept(t, api.DropTaker, pay(1, 100))
	l.Fail(1)
	for range 4 {
		wantRefused(t, l, api.Command{}, api.ErrRange)
		wantRefused(t, l, cancel(1), api.ErrNone)
		wantRefused(t, l, buy(1, 1, 100, 2), api.ErrPoor)
	}
	do(t, l, buy(1, 1, 100, 1))
	for range 4 {
		wantRefused(t, l, api.Command{}, api.ErrRange)
		wantRefused(t, l, cancel(2), api.ErrNone)
	}
	wantNotSynced(t, l)
	wantStopped(t, l)
}

// Below 0 it never stops, and a later number takes the place of an earlier one, be it greater or smaller.
func TestFailTakesThePlaceOfTheOneAhead(t *testing.T) {
	for _, never := range []int{-1, -2, -7, math.MinInt + 1, math.MinInt} {
		l := empty(t, api.Allow)
		l.Fail(3)
		do(t, l, pay(1, 1))
		l.Fail(never)
		for range 40 {
			do(t, l, pay(1, 1))
			sync(t, l)
		}
		l.Fail(9)
		l.Fail(2)
		do(t, l, pay(1, 1))
		l.Fail(4)
		do(t, l, pay(1, 1), pay(1, 1), pay(1, 1))
		sync(t, l)
		wantNotSynced(t, l)
		wantStopped(t, l)
	}
}

// A Log that nobody told to fail goes on and on.
func TestNoFailAtFirst(t *testing.T) {
	l := empty(t, api.DropTaker)
	for range 500 {
		do(t, l, pay(1, 1))
		sync(t, l)
	}
	wantFloor(t, l, api.DropTaker, pay(1, 500))
}

// Only a Crash lets it go on.
func TestFailOfOneThatStoppedChangesNothing(t *testing.T) {
	for _, n := range []int{-1, 0, 1, 100, math.MinInt, math.MaxInt} {
		l := empty(t, api.DropTaker)
		l.Fail(0)
		wantNotSynced(t, l)
		l.Fail(n)
		wantStopped(t, l)
		wantStopped(t, l)
	}
}

// The Floor is that of the Log itself: it is what was done, whenever it was asked for.
func TestFloorGoesWithTheLog(t *testing.T) {
	l := empty(t, api.DropBoth)
	f := l.Floor()
	for i, c := range day() {
		do(t, l, c)
		if got, want := look(f), floorOf(t, api.DropBoth, day()[:i+1]...); got != want {
			t.Errorf("got the Floor %v, want %v", got, want)
		}
	}
	l.Fail(0)
	wantStops(t, l, pay(1, 1), records(t, api.DropBoth, pay(1, 1))[0])
	if got, want := look(f), floorOf(t, api.DropBoth, day()...); got != want {
		t.Errorf("got the Floor %v, want %v", got, want)
	}
}
