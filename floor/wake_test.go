package floor_test

import (
	"testing"

	"pitfloor/api"
)

// F2 of chapter 14: who wakes behind a command, and what becomes of it.

func TestATradeWakes(t *testing.T) {
	f := placed(t, api.DropTaker, sell(1, 1, 100, 3), withStop(withShow(buy(2, 2, 99, 6), 2), 100), withStop(sell(3, 3, 105, 7), 100))
	wantDone(t, f, place(buy(9, 4, 100, 1)), traded(1, 9, 1, 4, 100, 1), woken(2, 6, 100), rested(2, 6, 99), woken(3, 7, 100), rested(3, 7, 105))
	wantStops(t, f)
	wantBook(t, f, levels(level(99, rest(2, 2, 2, 4, 2))), levels(level(100, rest(1, 1, 2, 0, 0)), level(105, rest(3, 3, 7, 0, 0))))
	wantChange(t, f, 2, 0, 6*99, 0, 0)
	wantChange(t, f, 3, 0, 0, 0, 7)
	wantLast(t, f, 100)
}

// Those whose Stop is not met go on waiting, and what rests without a Trade wakes nobody.
func TestOnlyATradeWakes(t *testing.T) {
	waiting := []api.Order{withStop(buy(2, 2, 99, 6), 101), withStop(sell(3, 3, 105, 7), 99), withStop(buy(4, 2, 50, 1), 100)}
	f := placed(t, api.DropTaker, append(waiting, sell(1, 1, 100, 3))...)
	do(t, f, place(buy(5, 4, 99, 2)), place(ofKind(sell(6, 4, 100, 1), api.Now)), cancel(5), swap(1, 101, 3), swap(1, 101, 2), swap(1, 100, 2), pay(1, 1))
	wantStops(t, f, waiting...)
	wantDone(t, f, place(buy(9, 4, 100, 1)), traded(1, 9, 1, 4, 100, 1), woken(4, 1, 100), rested(4, 1, 50))
	wantStops(t, f, waiting[:2]...)
}

// Only the last Trade's price wakes, not those ahead of it.
func TestTheLastTradeWakes(t *testing.T) {
	waiting := withStop(sell(4, 3, 200, 1), 100)
	f := placed(t, api.DropTaker, sell(1, 1, 100, 1), sell(2, 1, 102, 1), waiting, withStop(buy(5, 3, 50, 2), 102))
	wantDone(t, f, place(buy(9, 4, 103, 2)), traded(1, 9, 1, 4, 100, 1), traded(2, 9, 1, 4, 102, 1), woken(5, 2, 102), rested(5, 2, 50))
	wantStops(t, f, waiting)
	wantLast(t, f, 102)
}

// What is left of who came rests ahead of those it wakes.
func TestWhoCameRestsAheadOfWhoWakes(t *testing.T) {
	f := placed(t, api.DropTaker, sell(1, 1, 100, 1), withStop(ofKind(sell(2, 2, 0, 2), api.Market), 100))
	wantDone(t, f, place(buy(9, 4, 101, 6)), traded(1, 9, 1, 4, 100, 1), rested(9, 5, 101), woken(2, 2, 100), traded(9, 2, 2, 4, 101, 2))
	wantChange(t, f, 4, -302, 3*101, 3, 0)
	wantLast(t, f, 101)
}

// Those of Buy wake first, the lowest Stop ahead, then those of Sell, the highest ahead, and each comes before the next one wakes.
func TestWhoWakesFirst(t *testing.T) {
	f := placed(t, api.DropTaker, sell(1, 1, 100, 1),
		withStop(sell(2, 2, 300, 1), 100), withStop(sell(3, 2, 300, 1), 110), withStop(buy(4, 2, 10, 1), 100),
		withStop(buy(5, 2, 10, 1), 90), withStop(buy(6, 2, 10, 1), 100), withStop(sell(7, 2, 300, 1), 110))
	wantDone(t, f, place(buy(9, 4, 100, 1)), traded(1, 9, 1, 4, 100, 1),
		woken(5, 1, 100), rested(5, 1, 10), woken(4, 1, 100), rested(4, 1, 10), woken(6, 1, 100), rested(6, 1, 10),
		woken(3, 1, 100), rested(3, 1, 300), woken(7, 1, 100), rested(7, 1, 300), woken(2, 1, 100), rested(2, 1, 300))
}

// Whom those that woke wake come behind all that woke ahead of them, each told with the price of the Trade that woke it.
func TestWhoWokeWakesOthers(t *testing.T) {
	f := placed(t, api.DropTaker,
		sell(1, 1, 100, 1), sell(2, 1, 105, 2), sell(3, 1, 108, 1), sell(4, 1, 111, 9),
		withStop(buy(11, 2, 105, 1), 100), withStop(buy(12, 3, 108, 2), 100), withStop(buy(13, 4, 20, 1), 100),
		withStop(buy(14, 5, 111, 1), 104), withStop(buy(15, 6, 21, 1), 108), withStop(buy(16, 7, 22, 1), 111), withStop(buy(17, 8, 23, 1), 112))
	wantDone(t, f, place(buy(9, 9, 100, 1)), traded(1, 9, 1, 9, 100, 1),
		woken(11, 1, 100), traded(2, 11, 1, 2, 105, 1),
		woken(12, 2, 100), traded(2, 12, 1, 3, 105, 1), traded(3, 12, 1, 3, 108, 1),
		woken(13, 1, 100), rested(13, 1, 20),
		woken(14, 1, 105), traded(4, 14, 1, 5, 111, 1),
		woken(15, 1, 108), rested(15, 1, 21),
		woken(16, 1, 111), rested(16, 1, 22))
	wantStops(t, f, withStop(buy(17, 8, 23, 1), 112))
	wantLast(t, f, 111)
	wantChange(t, f, 3, -213, 0, 2, 0)
}

// A Trade wakes as soon as it is made: at the price that is met then, whatever those trade at who come later.
func TestWhoWokeWakesAtItsOwnPrice(t *testing.T) {
	f := placed(t, api.DropTaker,
		sell(1, 1, 100, 1), sell(2, 1, 105, 1), buy(3, 1, 95, 3),
		withStop(buy(11, 2, 105, 1), 100), withStop(sell(12, 3, 95, 1), 100), withStop(buy(13, 4, 20, 1), 104), withStop(sell(14, 4, 300, 1), 96))
	wantDone(t, f, place(buy(9, 9, 100, 1)), traded(1, 9, 1, 9, 100, 1),
		woken(11, 1, 100), traded(2, 11, 1, 2, 105, 1),
		woken(12, 1, 100), traded(3, 12, 3, 1, 95, 1),
		woken(13, 1, 105), rested(13, 1, 20),
		woken(14, 1, 95), rested(14, 1, 300))
	wantLast(t, f, 95)
}

// All that may wait wake one another, one behind the other.
func TestAllThatWaitWakeInARow(t *testing.T) {
	f := placed(t, api.DropTaker, sell(1, 1, 100, 1))
	want := []api.Event{traded(1, 9000, 1, 9, 100, 1)}
	for i := 1; i <= 20; i++ {
		do(t, f, place(sell(1+i, 1, 100+i, 1)), place(withStop(buy(100+i, 2, 100+i, 1), 99+i)))
		want = append(want, woken(100+i, 1, 99+i), traded(1+i, 100+i, 1, 2, 100+i, 1))
	}
	wantDone(t, f, place(buy(9000, 9, 100, 1)), want...)
	wantStops(t, f)
	wantBook(t, f, nil, nil)
	wantLast(t, f, 120)
}

func TestASwapWakes(t *testing.T) {
	f := placed(t, api.DropTaker, sell(1, 1, 100, 3), buy(2, 2, 90, 4), withStop(buy(3, 3, 99, 6), 100))
	wantDone(t, f, swap(2, 100, 2), gone(2, 4, 90), traded(1, 2, 1, 2, 100, 2), woken(3, 6, 100), rested(3, 6, 99))
}

// Who woke has been Held already: it needs nothing more, however poor its trader is.
func TestWhoWokeHasBeenHeld(t *testing.T) {
	f := placed(t, api.DropTaker)
	do(t, f, place(sell(1, 1, 100, 1)), place(sell(2, 1, 103, 2)))
	do(t, f, place(withStop(ofKind(buy(3, 9, 0, 10000), api.Market), 100)), place(withStop(ofKind(buy(4, 9, 0, 10000), api.Market), 100)))
	do(t, f, place(withStop(ofKind(buy(5, 9, 0, 10000), api.Market), 100)), place(withStop(ofKind(buy(6, 9, 0, 10000), api.Market), 100)))
	do(t, f, place(withStop(ofKind(buy(7, 9, 0, 10000), api.Market), 10000)))
	wantChange(t, f, 9, 0, rich, 0, 0)
	wantDone(t, f, place(buy(8, 4, 100, 1)), traded(1, 8, 1, 4, 100, 1), woken(3, 10000, 100), traded(2, 3, 1, 9, 103, 2), gone(3, 9998, 0),
		woken(4, 10000, 100), gone(4, 10000, 0), woken(5, 10000, 100), gone(5, 10000, 0), woken(6, 10000, 100), gone(6, 10000, 0))
	wantChange(t, f, 9, -206, 100000000, 2, 0)
}

// One that the book refuses is gone, all of it, and what was Held for it is free; the others go on.
func TestWhoWokeAndIsRefusedIsGone(t *testing.T) {
	f := placed(t, api.DropTaker, sell(1, 1, 100, 3),
		withStop(ofKind(buy(2, 2, 100, 3), api.Whole), 100), withStop(ofKind(buy(3, 3, 101, 4), api.Post), 100), withStop(buy(4, 4, 100, 2), 100))
	wantDone(t, f, place(buy(9, 9, 100, 1)), traded(1, 9, 1, 9, 100, 1), woken(2, 3, 100), gone(2, 3, 100), woken(3, 4, 100), gone(3, 4, 101),
		woken(4, 2, 100), traded(1, 4, 1, 4, 100, 2))
	wantChange(t, f, 2, 0, 0, 0, 0)
	wantChange(t, f, 3, 0, 0, 0, 0)
	wantStops(t, f)
}

func TestWhoWokeAndFindsTheBookFullIsGone(t *testing.T) {
	f := placed(t, api.DropTaker, sell(1, 1, 100, 3), withStop(buy(2, 2, 99, 3), 100), withStop(sell(3, 2, 99, 3), 100))
	for id := 101; id < 160; id++ {
		do(t, f, place(buy(id, 3, 50, 1)))
	}
	wantDone(t, f, place(buy(9, 9, 100, 1)), traded(1, 9, 1, 9, 100, 1), woken(2, 3, 100), gone(2, 3, 99), woken(3, 3, 100), gone(3, 3, 99))
	wantChange(t, f, 2, 0, 0, 0, 0)
	wantLast(t, f, 100)
}

func TestWhoWokeAndWouldTradeTooOftenIsGone(t *testing.T) {
	f := placed(t, api.DropTaker, sell(1, 1, 100, 1), withShow(sell(2, 1, 101, 500), 1), withStop(buy(3, 3, 101, 401), 100), withStop(buy(4, 3, 101, 400), 100))
	events, err := f.Do(place(buy(9, 9, 100, 1)))
	if err != nil || len(events) != 404 || events[1] != woken(3, 401, 100) || events[2] != gone(3, 401, 101) || events[3] != woken(4, 400, 100) {
		t.Errorf("got %v %v", events, err)
	}
	wantChange(t, f, 3, -40400, 0, 400, 0)
}

// Who woke minds the mode, too.
func TestWhoWokeWithOneself(t *testing.T) {
	orders := []api.Order{sell(1, 1, 100, 1), withShow(sell(2, 2, 101, 3), 1), withStop(buy(3, 2, 101, 5), 100)}
	trade := traded(1, 9, 1, 9, 100, 1)
	f := placed(t, api.DropTaker, orders...)
	wantDone(t, f, place(buy(9, 9, 100, 1)), trade, woken(3, 5, 100), gone(3, 5, 101))
	wantChange(t, f, 2, 0, 0, 0, 3)
	f = placed(t, api.DropMaker, orders...)
	wantDone(t, f, place(buy(9, 9, 100, 1)), trade, woken(3, 5, 100), gone(2, 3, 101), rested(3, 5, 101))
	wantChange(t, f, 2, 0, 505, 0, 0)
	f = placed(t, api.DropBoth, orders...)
	wantDone(t, f, place(buy(9, 9, 100, 1)), trade, woken(3, 5, 100), gone(2, 3, 101), gone(3, 5, 101))
	wantChange(t, f, 2, 0, 0, 0, 0)
}

// If a purse cannot take what one that woke would trade, nothing of the whole command is done.
func TestAFullPurseBehindACommandUndoesAll(t *testing.T) {
	f := placed(t, api.DropTaker, sell(1, 1, 100, 3), buy(2, 2, 90, 4), buy(6, 5, 10, 2),
		withStop(buy(3, 3, 80, 6), 100), withStop(ofKind(sell(4, 4, 0, 2), api.Market), 100), withStop(sell(5, 3, 300, 6), 95))
	do(t, f, pay(4, most-rich-179))
	wantRefused(t, f, place(buy(9, 9, 100, 1)), api.ErrFull)
	wantRefused(t, f, swap(6, 100, 2), api.ErrFull)
	do(t, f, cancel(4), place(withStop(ofKind(sell(4, 4, 0, 1), api.Market), 100)))
	wantDone(t, f, place(buy(9, 9, 100, 1)), traded(1, 9, 1, 9, 100, 1), woken(3, 6, 100), rested(3, 6, 80),
		woken(4, 1, 100), traded(2, 4, 4, 2, 90, 1), woken(5, 6, 90), rested(5, 6, 300))
}
