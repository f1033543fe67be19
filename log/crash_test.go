package log_test

import (
	"math"
	"testing"

	"pitfloor/api"
	"pitfloor/log"
)

// L2 of chapter 18: what a Crash leaves.

// wantLeft of a Log: what comes of these commands, all of it safe, and that it goes on.
func wantLeft(t *testing.T, l *log.Log, mode int, left ...api.Command) {
	t.Helper()
	size := sum(records(t, mode, left...))
	wantBytes(t, l, size, size)
	wantFloor(t, l, mode, left...)
	sync(t, l)
	l.Crash(0)
	wantBytes(t, l, size, size)
	wantFloor(t, l, mode, left...)
	do(t, l, pay(8, 5), give(8, 5))
	wantFloor(t, l, mode, append(left, pay(8, 5), give(8, 5))...)
	l.Crash(math.MaxInt)
	wantFloor(t, l, mode, append(left, pay(8, 5), give(8, 5))...)
}

func TestCrashOfNothing(t *testing.T) {
	for _, keep := range ends {
		l := empty(t, api.DropMaker)
		l.Crash(keep)
		l.Crash(keep)
		wantLeft(t, l, api.DropMaker)
	}
}

func TestCrashKeepsWhatIsSafe(t *testing.T) {
	for _, keep := range []int{0, -1, -100, math.MinInt} {
		for count := range len(day()) + 1 {
			l := kept(t, api.DropMaker, day()[:count]...)
			sync(t, l)
			do(t, l, day()[count:]...)
			l.Crash(keep)
			wantLeft(t, l, api.DropMaker, day()[:count]...)
		}
	}
}

func TestCrashKeepsAllThatIsThere(t *testing.T) {
	for _, more := range []int{0, 1, 1000000, math.MaxInt - 1000, math.MaxInt - 10000} {
		for count := range len(day()) + 1 {
			l := kept(t, api.DropTaker, day()[:count]...)
			sync(t, l)
			do(t, l, day()[count:]...)
			l.Crash(l.Bytes() - l.Safe() + more)
			wantLeft(t, l, api.DropTaker, day()...)
		}
	}
}

// whole tells how many records are whole if so many bytes are kept.
func whole(sizes []int, keep int) int {
	for i, size := range sizes {
		if keep < size {
			return i
		}
		keep -= size
	}
	return len(sizes)
}

// Of what is not safe each number of bytes is kept, and of these the records that are whole.
func TestCrashKeepsTheFirstBytesOfWhatIsNotSafe(t *testing.T) {
	sizes := records(t, api.DropBoth, day()...)
	for _, safe := range []int{0, 1, 4, 9, len(day()) - 1} {
		for keep := range sum(sizes[safe:]) + 3 {
			l := kept(t, api.DropBoth, day()[:safe]...)
			sync(t, l)
			do(t, l, day()[safe:]...)
			l.Crash(keep)
			wantLeft(t, l, api.DropBoth, day()[:safe+whole(sizes[safe:], keep)]...)
		}
	}
}

// Half a record is none, however much of it is kept.
func TestCrashDropsHalfARecord(t *testing.T) {
	eachDay(t, api.Allow, func(ahead []api.Command, c api.Command, sizes []int) {
		for keep := -1; keep <= sizes[len(ahead)]+1; keep++ {
			l := kept(t, api.Allow, ahead...)
			sync(t, l)
			l.Fail(0)
			wantStops(t, l, c, sizes[len(ahead)])
			l.Crash(keep)
			wantLeft(t, l, api.Allow, ahead...)
		}
	})
}

// What was done, but not safe, is kept ahead of half a record.
func TestCrashKeepsWhatStandsAheadOfHalfARecord(t *testing.T) {
	eachDay(t, api.DropMaker, func(ahead []api.Command, c api.Command, sizes []int) {
		for _, keep := range []int{sum(sizes[:len(ahead)]), sum(sizes[:len(ahead)]) + 1, math.MaxInt} {
			l := empty(t, api.DropMaker)
			l.Fail(len(ahead))
			do(t, l, ahead...)
			wantStops(t, l, c, sizes[len(ahead)])
			l.Crash(keep)
			wantLeft(t, l, api.DropMaker, ahead...)
		}
	})
}

// A Sync that stopped makes nothing safe.
func TestCrashAfterASyncThatStopped(t *testing.T) {
	l := kept(t, api.DropTaker, day()[:4]...)
	sync(t, l)
	do(t, l, day()[4:]...)
	l.Fail(0)
	wantNotSynced(t, l)
	l.Crash(0)
	wantLeft(t, l, api.DropTaker, day()[:4]...)
}

// What Fail said is forgotten, be it that it has stopped or that it would have.
func TestCrashForgetsWhatFailSaid(t *testing.T) {
	for n := range 5 {
		l := kept(t, api.DropTaker, day()[:4]...)
		l.Fail(n)
		l.Crash(math.MaxInt)
		wantLeft(t, l, api.DropTaker, day()[:4]...)
		for range 20 {
			do(t, l, pay(1, 1))
			sync(t, l)
		}
	}
	l := kept(t, api.DropTaker, day()[:4]...)
	l.Fail(0)
	wantNotSynced(t, l)
	l.Fail(0)
	l.Crash(math.MaxInt)
	wantLeft(t, l, api.DropTaker, day()[:4]...)
}

// Fail counts anew behind a Crash, and so on, again and again.
func TestCrashAgainAndAgain(t *testing.T) {
	l := empty(t, api.DropMaker)
	sizes := records(t, api.DropMaker, day()...)
	for i, c := range day() {
		l.Fail(0)
		wantStops(t, l, c, sizes[i])
		wantStopped(t, l)
		l.Crash(i)
		l.Fail(1)
		do(t, l, c)
		wantNotSynced(t, l)
		wantStopped(t, l)
		l.Crash(sizes[i])
		wantBytes(t, l, sum(sizes[:i+1]), sum(sizes[:i+1]))
		wantFloor(t, l, api.DropMaker, day()[:i+1]...)
	}
	wantLeft(t, l, api.DropMaker, day()...)
}

// What was lost may be done again, and is not taken for what was there.
func TestWhatIsLostMayBeDoneAgain(t *testing.T) {
	l := kept(t, api.DropTaker, pay(1, 1000))
	sync(t, l)
	do(t, l, buy(1, 1, 100, 5))
	wantRefused(t, l, buy(1, 1, 90, 1), api.ErrClash)
	l.Crash(1)
	do(t, l, buy(1, 1, 90, 1))
	wantRefused(t, l, buy(1, 1, 90, 1), api.ErrClash)
	wantFloor(t, l, api.DropTaker, pay(1, 1000), buy(1, 1, 90, 1))
	l.Crash(math.MaxInt)
	wantLeft(t, l, api.DropTaker, pay(1, 1000), buy(1, 1, 90, 1))
}
