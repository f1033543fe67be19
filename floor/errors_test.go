package floor_test

import (
	"math"
	"testing"

	"pitfloor/api"
	"pitfloor/floor"
	"pitfloor/plain"
)

// F1 and F2 of chapter 14: which errors are told, which first, and that nothing is done with them.

// outside is beyond what may be, from low to high.
func outside(low, high int) []int {
	return []int{math.MinInt, math.MinInt + 1, -high - 1, low - 1, high + 1, 1<<32 + low, math.MaxInt - 1, math.MaxInt}
}

func TestNewTellsARange(t *testing.T) {
	for _, mode := range outside(0, 3) {
		if f, err := floor.New(mode); f != nil || plain.Told(err) != api.ErrRange {
			t.Errorf("New(%d): got %v %v", mode, f, err)
		}
	}
}

func TestPurseTellsARange(t *testing.T) {
	f := wealthy(t, api.Allow)
	for _, who := range outside(1, 9) {
		if has, err := f.Purse(who); has != (api.Purse{}) || plain.Told(err) != api.ErrRange {
			t.Errorf("Purse(%d): got %v %v", who, has, err)
		}
	}
}

// busy has something of all: it rests, it waits, it has traded.
func busy(t *testing.T, mode int) *floor.Floor {
	t.Helper()
	f := placed(t, mode, withShow(buy(1, 1, 97, 8), 3), sell(2, 2, 100, 4), withStop(buy(3, 3, 99, 6), 101), withStop(sell(4, 4, 95, 6), 96))
	do(t, f, place(buy(5, 5, 100, 1)))
	return f
}

func TestWhatIsNone(t *testing.T) {
	f := busy(t, api.DropTaker)
	for _, what := range outside(1, 5) {
		c := place(buy(9, 1, 50, 1))
		c.What, c.Who, c.N = what, 1, 1
		wantRefused(t, f, c, api.ErrRange)
	}
}

func TestPayAndGiveTellErrors(t *testing.T) {
	f := busy(t, api.DropTaker)
	for _, who := range outside(1, 9) {
		wantRefused(t, f, pay(who, 1), api.ErrRange)
		wantRefused(t, f, give(who, 1), api.ErrRange)
	}
	for _, n := range outside(1, most) {
		wantRefused(t, f, pay(9, n), api.ErrRange)
		wantRefused(t, f, give(9, n), api.ErrRange)
	}
	wantRefused(t, f, pay(9, most-rich+1), api.ErrFull)
	wantRefused(t, f, give(9, most-rich+1), api.ErrFull)
	wantDone(t, f, pay(9, most-rich))
	wantDone(t, f, give(9, most-rich))
	wantRefused(t, f, pay(9, 1), api.ErrFull)
	wantRefused(t, f, give(9, 1), api.ErrFull)
}

// field of an order, by its number: Id, Who, Side, Kind, Price, Qty, Show, Stop.
func field(o *api.Order, number int) *int {
	return []*int{&o.Id, &o.Who, &o.Side, &o.Kind, &o.Price, &o.Qty, &o.Show, &o.Stop}[number]
}

func TestPlaceTellsWhatIsWrongWithAnOrder(t *testing.T) {
	f := busy(t, api.DropTaker)
	bounds := [][2]int{{1, 9999}, {1, 9}, {1, 2}, {1, 5}, {1, 10000}, {1, 10000}, {0, 5}, {0, 10000}}
	for number, bound := range bounds {
		for _, n := range outside(bound[0], bound[1]) {
			for _, o := range []api.Order{buy(9, 9, 96, 5), withStop(sell(9, 9, 96, 5), 300)} {
				*field(&o, number) = n
				wantRefused(t, f, place(o), api.ErrRange)
			}
		}
	}
	wantRefused(t, f, place(ofKind(withShow(buy(9, 9, 96, 5), 1), api.Now)), api.ErrShape)
	wantRefused(t, f, place(api.Order{}), api.ErrRange)
}

func TestPlaceTellsAClash(t *testing.T) {
	f := busy(t, api.DropTaker)
	for id := 1; id <= 4; id++ {
		wantRefused(t, f, place(buy(id, 9, 10, 1)), api.ErrClash)
		wantRefused(t, f, place(withStop(sell(id, 9, 200, 1), 10)), api.ErrClash)
		wantRefused(t, f, place(ofKind(sell(id, 9, 0, 1), api.Market)), api.ErrClash)
	}
	do(t, f, place(buy(5, 5, 10, 1)))
}

// An order's own fault is told ahead of a clash, and that ahead of a poor purse, however full what it would come to is.
func TestWhichErrorOfPlaceIsFirst(t *testing.T) {
	f := empty(t, api.DropTaker)
	do(t, f, pay(1, 1000), give(1, 100))
	for id := 1; id <= 20; id++ {
		do(t, f, place(withStop(buy(id, 1, 1, 1), 5)))
	}
	for id := 101; id <= 160; id++ {
		do(t, f, place(sell(id, 1, 300, 1)))
	}
	for _, id := range []int{1, 101} {
		wantRefused(t, f, place(withShow(ofKind(buy(id, 2, 9, 5), api.Now), 1)), api.ErrShape)
		wantRefused(t, f, place(buy(id, 2, 9, 0)), api.ErrRange)
		wantRefused(t, f, place(buy(id, 2, 9, 5)), api.ErrClash)
		wantRefused(t, f, place(withStop(buy(id, 2, 9, 5), 8)), api.ErrClash)
	}
	wantRefused(t, f, place(buy(500, 2, 9, 5)), api.ErrPoor)
	wantRefused(t, f, place(withStop(buy(500, 2, 9, 5), 8)), api.ErrPoor)
	wantRefused(t, f, place(ofKind(buy(500, 2, 300, 1), api.Post)), api.ErrPoor)
	wantRefused(t, f, place(buy(500, 1, 9, 5)), api.ErrFull)
	wantRefused(t, f, place(withStop(buy(500, 1, 9, 5), 8)), api.ErrFull)
	wantRefused(t, f, place(ofKind(buy(500, 1, 300, 1), api.Post)), api.ErrCross)
}

// Just what is free may be put by, and no more; of Market the highest price counts.
func TestPlaceTellsAPoorPurse(t *testing.T) {
	for _, stop := range []int{0, 77} {
		f := empty(t, api.DropTaker)
		do(t, f, pay(1, 20999), give(1, 9))
		wantRefused(t, f, place(withStop(buy(1, 1, 7, 3000), stop)), api.ErrPoor)
		wantRefused(t, f, place(withStop(sell(1, 1, 7000, 10), stop)), api.ErrPoor)
		wantRefused(t, f, place(withStop(ofKind(buy(1, 1, 0, 3), api.Market), stop)), api.ErrPoor)
		wantRefused(t, f, place(withStop(ofKind(sell(1, 1, 0, 10), api.Market), stop)), api.ErrPoor)
		do(t, f, place(withStop(ofKind(buy(1, 1, 0, 2), api.Market), stop)), place(withStop(sell(2, 1, 7000, 9), stop)))
		do(t, f, place(withStop(buy(3, 1, 999, 1), stop)))
		if stop != 0 {
			wantPurse(t, f, api.Purse{Who: 1, Cash: 20999, Held: 20999, Stock: 9, HeldStock: 9})
		}
	}
}

func TestPlaceTellsThatStopsAreFull(t *testing.T) {
	f := wealthy(t, api.DropTaker)
	for id := 1; id <= 20; id++ {
		do(t, f, place(withStop(buy(id, 1, 9, 1), 50)))
	}
	wantRefused(t, f, place(withStop(buy(21, 1, 9, 1), 50)), api.ErrFull)
	do(t, f, cancel(7), place(withStop(buy(21, 1, 9, 1), 50)))
	wantChange(t, f, 1, 0, 180, 0, 0)
}

// Errors of chapter 8's Do.
func TestPlaceTellsWhyTheBookRefuses(t *testing.T) {
	f := busy(t, api.DropTaker)
	wantRefused(t, f, place(ofKind(buy(9, 9, 100, 4), api.Whole)), api.ErrPoor)
	wantRefused(t, f, place(ofKind(buy(9, 9, 100, 4), api.Post)), api.ErrCross)
	wantRefused(t, f, place(ofKind(buy(9, 2, 100, 4), api.Post)), api.ErrCross)
	wantRefused(t, f, place(ofKind(sell(9, 9, 97, 9), api.Whole)), api.ErrPoor)
	wantRefused(t, f, place(ofKind(sell(9, 9, 97, 4), api.Post)), api.ErrCross)
	for id := 101; id <= 158; id++ {
		do(t, f, place(buy(id, 9, 50, 1)))
	}
	wantRefused(t, f, place(buy(9, 9, 50, 4)), api.ErrFull)
	wantRefused(t, f, place(buy(9, 2, 50, 4)), api.ErrFull)
	wantDone(t, f, place(buy(9, 9, 100, 4)), traded(2, 9, 2, 9, 100, 3), rested(9, 1, 100))
}

func TestPlaceTellsTooManyTrades(t *testing.T) {
	f := placed(t, api.DropTaker, withShow(sell(1, 1, 100, 500), 1))
	wantRefused(t, f, place(buy(9, 9, 100, 401)), api.ErrFull)
	do(t, f, place(buy(9, 9, 100, 400)))
	wantChange(t, f, 9, -40000, 0, 400, 0)
}

// A purse that cannot take what a Trade brings refuses it, be it of who comes or of who rests, and be it cash or stock.
func TestPlaceTellsAFullPurse(t *testing.T) {
	f := placed(t, api.DropTaker, sell(1, 1, 100, 3), sell(2, 2, 101, 3), buy(3, 3, 90, 5), buy(4, 4, 89, 5))
	do(t, f, pay(2, most-rich-100), give(4, most-rich-1), pay(8, most-rich-90*5-88), give(9, most-rich-2))
	wantRefused(t, f, place(buy(9, 5, 101, 4)), api.ErrFull)
	wantRefused(t, f, place(sell(9, 5, 89, 7)), api.ErrFull)
	wantRefused(t, f, place(sell(9, 8, 89, 6)), api.ErrFull)
	wantRefused(t, f, place(buy(9, 9, 100, 3)), api.ErrFull)
	wantRefused(t, f, swap(3, 101, 4), api.ErrFull)
	do(t, f, place(sell(9, 8, 89, 5)), place(buy(9, 9, 100, 2)))
}

// With oneself nothing comes into a purse, so that a full one may do so.
func TestAFullPurseMayTradeWithItself(t *testing.T) {
	f := wealthy(t, api.Allow, pay(1, most-rich), give(1, most-rich))
	do(t, f, place(sell(1, 1, 100, 3)))
	wantDone(t, f, place(buy(2, 1, 102, 3)), traded(1, 2, 1, 1, 100, 3))
	wantPurse(t, f, api.Purse{Who: 1, Cash: most, Stock: most})
}

func TestCancelTellsThatThereIsNone(t *testing.T) {
	f := busy(t, api.DropTaker)
	for _, id := range append(outside(1, 9999), 5, 9, 9999) {
		wantRefused(t, f, cancel(id), api.ErrNone)
	}
}

func TestSwapTellsThatThereIsNone(t *testing.T) {
	f := busy(t, api.DropTaker)
	// What waits does not rest, so that there is nothing to be swapped.
	for _, id := range append(outside(1, 9999), 3, 4, 5, 9999) {
		wantRefused(t, f, swap(id, 97, 1), api.ErrNone)
		wantRefused(t, f, swap(id, 0, 0), api.ErrNone)
	}
}

func TestSwapTellsARange(t *testing.T) {
	f := busy(t, api.DropTaker)
	for _, n := range outside(1, 10000) {
		wantRefused(t, f, swap(1, n, 4), api.ErrRange)
		wantRefused(t, f, swap(2, n, 4), api.ErrRange)
		// Be it that it would keep its place or not.
		wantRefused(t, f, swap(1, 97, n), api.ErrRange)
		wantRefused(t, f, swap(1, 98, n), api.ErrRange)
		wantRefused(t, f, swap(2, 100, n), api.ErrRange)
		wantRefused(t, f, swap(2, 99, n), api.ErrRange)
	}
}

// Errors of what comes anew: it is as if it had not gone.
func TestSwapTellsWhyItMayNotComeAnew(t *testing.T) {
	f := empty(t, api.DropTaker)
	do(t, f, pay(1, 1000), give(2, 500), pay(3, 1000000), place(buy(1, 1, 97, 8)), place(withShow(sell(2, 2, 100, 450), 1)), place(buy(3, 3, 96, 1)))
	wantRefused(t, f, swap(1, 97, 11), api.ErrPoor)
	wantRefused(t, f, swap(1, 126, 8), api.ErrPoor)
	wantRefused(t, f, swap(2, 100, 501), api.ErrPoor)
	wantRefused(t, f, swap(3, 100, 401), api.ErrFull)
	do(t, f, swap(1, 125, 8), swap(3, 100, 392))
}
