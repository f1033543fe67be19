package floor_test

import (
	"testing"

	"pitfloor/api"
)

// F1 of chapter 14: what each command does, and tells.

func TestNewIsEmpty(t *testing.T) {
	for mode := api.Allow; mode <= api.DropBoth; mode++ {
		f := empty(t, mode)
		wantBook(t, f, nil, nil)
		wantStops(t, f)
		wantLast(t, f, 0)
		for who := 1; who <= traders; who++ {
			wantPurse(t, f, api.Purse{Who: who})
		}
	}
}

func TestPayAndGive(t *testing.T) {
	f := empty(t, api.Allow)
	wantDone(t, f, pay(1, 30))
	wantDone(t, f, give(1, 4))
	wantDone(t, f, pay(9, most))
	wantDone(t, f, give(9, most))
	wantDone(t, f, pay(1, 1))
	wantPurse(t, f, api.Purse{Who: 1, Cash: 31, Stock: 4})
	wantPurse(t, f, api.Purse{Who: 9, Cash: most, Stock: most})
	wantPurse(t, f, api.Purse{Who: 2})
}

func TestWhatNobodyMeetsRests(t *testing.T) {
	f := wealthy(t, api.DropTaker)
	wantDone(t, f, place(buy(1, 2, 98, 7)), rested(1, 7, 98))
	wantDone(t, f, place(withShow(sell(2, 3, 102, 9), 4)), rested(2, 9, 102))
	wantDone(t, f, place(ofKind(withShow(buy(3, 4, 99, 5), 2), api.Post)), rested(3, 5, 99))
	wantBook(t, f, levels(level(99, rest(3, 4, 2, 3, 2)), level(98, rest(1, 2, 7, 0, 0))), levels(level(102, rest(2, 3, 4, 5, 4))))
	wantChange(t, f, 2, 0, 7*98, 0, 0)
	wantChange(t, f, 3, 0, 0, 0, 9)
	wantChange(t, f, 4, 0, 5*99, 0, 0)
	wantLast(t, f, 0)
}

// Who buys for less than its price has the difference back at once.
func TestABuyTrades(t *testing.T) {
	f := placed(t, api.DropTaker, sell(1, 1, 100, 3), withShow(sell(2, 2, 101, 4), 1))
	wantDone(t, f, place(buy(3, 3, 103, 6)), traded(1, 3, 1, 3, 100, 3), traded(2, 3, 2, 3, 101, 1), traded(2, 3, 2, 3, 101, 1), traded(2, 3, 2, 3, 101, 1))
	wantChange(t, f, 1, 300, 0, -3, 0)
	wantChange(t, f, 2, 303, 0, -3, 1)
	wantChange(t, f, 3, -603, 0, 6, 0)
	wantBook(t, f, nil, levels(level(101, rest(2, 2, 1, 0, 1))))
	wantLast(t, f, 101)
}

func TestASellTrades(t *testing.T) {
	f := placed(t, api.DropTaker, buy(1, 1, 100, 3), buy(2, 2, 99, 4))
	wantDone(t, f, place(sell(3, 3, 97, 5)), traded(1, 3, 3, 1, 100, 3), traded(2, 3, 3, 2, 99, 2))
	wantChange(t, f, 1, -300, 0, 3, 0)
	wantChange(t, f, 2, -198, 2*99, 2, 0)
	wantChange(t, f, 3, 498, 0, -5, 0)
	wantBook(t, f, levels(level(99, rest(2, 2, 2, 0, 0))), nil)
	wantLast(t, f, 99)
}

// What is left of a Limit rests: behind its Trades its own price is put by for just that.
func TestWhatIsLeftRests(t *testing.T) {
	f := placed(t, api.DropTaker, sell(1, 1, 100, 3))
	wantDone(t, f, place(withShow(buy(3, 3, 102, 9), 2)), traded(1, 3, 1, 3, 100, 3), rested(3, 6, 102))
	wantChange(t, f, 3, -300, 6*102, 3, 0)
	wantBook(t, f, levels(level(102, rest(3, 3, 2, 4, 2))), nil)
	f = placed(t, api.DropTaker, buy(1, 1, 100, 3))
	wantDone(t, f, place(sell(3, 3, 98, 9)), traded(1, 3, 3, 1, 100, 3), rested(3, 6, 98))
	wantChange(t, f, 3, 300, 0, -3, 6)
}

// What is left of Now and Market is gone, and nothing of it stays put by. Of Market the price that is told is 0.
func TestWhatIsLeftIsGone(t *testing.T) {
	f := placed(t, api.DropTaker, sell(1, 1, 100, 3), sell(2, 1, 101, 2), sell(4, 1, 107, 2))
	wantDone(t, f, place(ofKind(buy(3, 3, 102, 9), api.Now)), traded(1, 3, 1, 3, 100, 3), traded(2, 3, 1, 3, 101, 2), gone(3, 4, 102))
	wantChange(t, f, 3, -502, 0, 5, 0)
	wantDone(t, f, place(ofKind(buy(3, 3, 0, 9), api.Market)), traded(4, 3, 1, 3, 107, 2), gone(3, 7, 0))
	wantChange(t, f, 3, -716, 0, 7, 0)
	wantDone(t, f, place(ofKind(sell(3, 3, 0, 9), api.Market)), gone(3, 9, 0))
	wantDone(t, f, place(ofKind(sell(3, 3, 1, 8), api.Now)), gone(3, 8, 1))
	wantChange(t, f, 3, -716, 0, 7, 0)
	wantBook(t, f, nil, nil)
	wantLast(t, f, 107)
}

func TestWhole(t *testing.T) {
	f := placed(t, api.DropTaker, sell(1, 1, 100, 3), sell(2, 2, 101, 2))
	wantRefused(t, f, place(ofKind(buy(3, 3, 101, 6), api.Whole)), api.ErrPoor)
	wantDone(t, f, place(ofKind(buy(3, 3, 101, 5), api.Whole)), traded(1, 3, 1, 3, 100, 3), traded(2, 3, 2, 3, 101, 2))
	wantChange(t, f, 3, -502, 0, 5, 0)
}

// own has, on the side that trader 3 meets when it buys, one of itself between others, and one behind them.
func own() []api.Order {
	return []api.Order{sell(1, 1, 100, 3), withShow(sell(2, 3, 100, 6), 4), sell(4, 2, 101, 2), sell(5, 3, 101, 1), sell(6, 2, 102, 1)}
}

func TestWithOneselfAllowed(t *testing.T) {
	f := placed(t, api.Allow, own()...)
	wantDone(t, f, place(buy(9, 3, 101, 8)), traded(1, 9, 1, 3, 100, 3), traded(2, 9, 3, 3, 100, 4), traded(2, 9, 3, 3, 100, 1))
	wantChange(t, f, 3, -300, 0, 3, 2)
	wantChange(t, f, 1, 300, 0, -3, 0)
	wantLast(t, f, 100)
}

func TestDropTaker(t *testing.T) {
	f := placed(t, api.DropTaker, own()...)
	wantDone(t, f, place(buy(9, 3, 101, 8)), traded(1, 9, 1, 3, 100, 3), gone(9, 5, 101))
	wantChange(t, f, 3, -300, 0, 3, 7)
	wantBook(t, f, nil, levels(level(100, rest(2, 3, 4, 2, 4)), level(101, rest(4, 2, 2, 0, 0), rest(5, 3, 1, 0, 0)), level(102, rest(6, 2, 1, 0, 0))))
}

// Those that went are told behind all Trades, each with what it hid, and its own price; what was put by for them is free.
func TestDropMaker(t *testing.T) {
	f := placed(t, api.DropMaker, own()...)
	wantDone(t, f, place(buy(9, 3, 101, 8)), traded(1, 9, 1, 3, 100, 3), traded(4, 9, 2, 3, 101, 2), gone(2, 6, 100), gone(5, 1, 101), rested(9, 3, 101))
	wantChange(t, f, 3, -502, 3*101, 5, 0)
	wantBook(t, f, levels(level(101, rest(9, 3, 3, 0, 0))), levels(level(102, rest(6, 2, 1, 0, 0))))
	f = placed(t, api.DropMaker, own()...)
	wantDone(t, f, place(ofKind(buy(9, 3, 101, 8), api.Now)), traded(1, 9, 1, 3, 100, 3), traded(4, 9, 2, 3, 101, 2), gone(2, 6, 100), gone(5, 1, 101), gone(9, 3, 101))
	wantChange(t, f, 3, -502, 0, 5, 0)
}

// Cash that was put by for one's own Rests is free at their price, not at that of who came.
func TestDropMakerOfBuys(t *testing.T) {
	f := placed(t, api.DropMaker, withShow(buy(1, 3, 100, 6), 4), buy(2, 3, 98, 1), buy(4, 3, 95, 2))
	wantDone(t, f, place(sell(9, 3, 97, 8)), gone(1, 6, 100), gone(2, 1, 98), rested(9, 8, 97))
	wantChange(t, f, 3, 0, 2*95, 0, 8)
	wantLast(t, f, 0)
}

func TestDropBoth(t *testing.T) {
	f := placed(t, api.DropBoth, own()...)
	wantDone(t, f, place(buy(9, 3, 101, 8)), traded(1, 9, 1, 3, 100, 3), gone(2, 6, 100), gone(9, 5, 101))
	wantChange(t, f, 3, -300, 0, 3, 1)
	wantBook(t, f, nil, levels(level(101, rest(4, 2, 2, 0, 0), rest(5, 3, 1, 0, 0)), level(102, rest(6, 2, 1, 0, 0))))
}

func TestWhatHasAStopSleeps(t *testing.T) {
	f := placed(t, api.DropTaker, sell(1, 1, 100, 3), buy(2, 2, 95, 1))
	first, second := withStop(withShow(buy(3, 3, 103, 6), 2), 100), withStop(ofKind(sell(4, 3, 0, 5), api.Market), 95)
	third := withStop(ofKind(buy(5, 4, 0, 5), api.Market), 10000)
	wantDone(t, f, place(first), sleeping(3, 6, 100))
	wantDone(t, f, place(second), sleeping(4, 5, 95))
	wantDone(t, f, place(third), sleeping(5, 5, 10000))
	wantStops(t, f, first, second, third)
	wantChange(t, f, 3, 0, 618, 0, 5)
	wantChange(t, f, 4, 0, 50000, 0, 0)
	wantBook(t, f, levels(level(95, rest(2, 2, 1, 0, 0))), levels(level(100, rest(1, 1, 3, 0, 0))))
}

func TestCancelOfWhatRests(t *testing.T) {
	f := placed(t, api.DropTaker, withShow(buy(1, 1, 97, 8), 3), buy(2, 1, 97, 2), sell(3, 2, 99, 5), withShow(sell(4, 2, 98, 6), 4))
	do(t, f, place(sell(5, 3, 97, 4)), place(buy(6, 3, 98, 1)))
	wantDone(t, f, cancel(1), gone(1, 5, 97))
	wantChange(t, f, 1, -388, 2*97-97, 4, 0)
	wantDone(t, f, cancel(4), gone(4, 5, 98))
	wantChange(t, f, 2, 98, 0, -1, 5)
	wantBook(t, f, levels(level(97, rest(2, 1, 1, 0, 0))), levels(level(99, rest(3, 2, 5, 0, 0))))
	wantRefused(t, f, cancel(1), api.ErrNone)
	wantLast(t, f, 98)
}

func TestCancelOfWhatWaits(t *testing.T) {
	first, second := withStop(withShow(buy(1, 1, 97, 8), 3), 99), withStop(ofKind(buy(2, 1, 0, 2), api.Market), 98)
	third := withStop(sell(3, 1, 40, 7), 50)
	f := placed(t, api.DropTaker, first, second, third)
	wantDone(t, f, cancel(2), gone(2, 2, 0))
	wantChange(t, f, 1, 0, 8*97, 0, 7)
	wantStops(t, f, first, third)
	wantDone(t, f, cancel(3), gone(3, 7, 40))
	wantDone(t, f, cancel(1), gone(1, 8, 97))
	wantChange(t, f, 1, 0, 0, 0, 0)
	wantStops(t, f)
	wantRefused(t, f, cancel(1), api.ErrNone)
}

// An Id may come again, when it neither rests nor waits any more.
func TestAnIdThatWentMayComeAgain(t *testing.T) {
	f := placed(t, api.DropTaker, buy(1, 1, 97, 8), withStop(sell(2, 1, 40, 7), 50))
	do(t, f, cancel(1), cancel(2), place(withStop(buy(1, 2, 97, 8), 99)), place(sell(2, 3, 99, 1)), place(ofKind(buy(3, 1, 1, 1), api.Now)))
	wantDone(t, f, place(buy(3, 1, 99, 1)), traded(2, 3, 3, 1, 99, 1), woken(1, 8, 99), rested(1, 8, 97))
	wantDone(t, f, place(buy(3, 1, 50, 1)), rested(3, 1, 50))
}

// What keeps its place loses what is hidden first, and what is less is put by no more.
func TestSwapThatKeepsItsPlace(t *testing.T) {
	f := placed(t, api.DropTaker, withShow(buy(1, 1, 97, 8), 3), buy(2, 2, 97, 2), withShow(sell(3, 3, 99, 5), 2), sell(4, 2, 99, 6))
	wantDone(t, f, swap(1, 97, 4), rested(1, 4, 97))
	wantChange(t, f, 1, 0, 4*97, 0, 0)
	wantDone(t, f, swap(3, 99, 1), rested(3, 1, 99))
	wantChange(t, f, 3, 0, 0, 0, 1)
	wantDone(t, f, swap(1, 97, 4), rested(1, 4, 97))
	wantChange(t, f, 1, 0, 4*97, 0, 0)
	wantBook(t, f, levels(level(97, rest(1, 1, 3, 1, 3), rest(2, 2, 2, 0, 0))), levels(level(99, rest(3, 3, 1, 0, 2), rest(4, 2, 6, 0, 0))))
}

// What does not keep its place is gone, and comes behind those who rest at its new price.
func TestSwapThatComesAnew(t *testing.T) {
	f := placed(t, api.DropTaker, withShow(buy(1, 1, 97, 8), 3), buy(2, 2, 97, 2), buy(3, 3, 96, 5))
	wantDone(t, f, swap(1, 96, 2), gone(1, 8, 97), rested(1, 2, 96))
	wantChange(t, f, 1, 0, 2*96, 0, 0)
	wantBook(t, f, levels(level(97, rest(2, 2, 2, 0, 0)), level(96, rest(3, 3, 5, 0, 0), rest(1, 1, 2, 0, 2))), nil)
	wantDone(t, f, swap(3, 96, 6), gone(3, 5, 96), rested(3, 6, 96))
	wantBook(t, f, levels(level(97, rest(2, 2, 2, 0, 0)), level(96, rest(1, 1, 2, 0, 2), rest(3, 3, 6, 0, 0))), nil)
	wantDone(t, f, swap(1, 96, 9), gone(1, 2, 96), rested(1, 9, 96))
	wantBook(t, f, levels(level(97, rest(2, 2, 2, 0, 0)), level(96, rest(3, 3, 6, 0, 0), rest(1, 1, 2, 7, 2))), nil)
	wantLast(t, f, 0)
}

func TestSwapThatTrades(t *testing.T) {
	f := placed(t, api.DropTaker, buy(1, 1, 97, 8), sell(2, 2, 99, 3), sell(3, 2, 100, 1))
	wantDone(t, f, swap(1, 101, 5), gone(1, 8, 97), traded(2, 1, 2, 1, 99, 3), traded(3, 1, 2, 1, 100, 1), rested(1, 1, 101))
	wantChange(t, f, 1, -397, 101, 4, 0)
	wantLast(t, f, 100)
}

// Post that rests comes anew as Limit, so that it may trade.
func TestSwapOfPostComesAsLimit(t *testing.T) {
	f := placed(t, api.DropTaker, ofKind(sell(1, 1, 99, 4), api.Post), buy(2, 2, 97, 3))
	wantDone(t, f, swap(1, 97, 4), gone(1, 4, 99), traded(2, 1, 1, 2, 97, 3), rested(1, 1, 97))
}

// What comes anew minds the mode, as what is placed does.
func TestSwapWithOneself(t *testing.T) {
	orders := []api.Order{buy(1, 1, 97, 8), sell(2, 1, 99, 3)}
	wantDone(t, placed(t, api.Allow, orders...), swap(1, 99, 5), gone(1, 8, 97), traded(2, 1, 1, 1, 99, 3), rested(1, 2, 99))
	wantDone(t, placed(t, api.DropTaker, orders...), swap(1, 99, 5), gone(1, 8, 97), gone(1, 5, 99))
	wantDone(t, placed(t, api.DropMaker, orders...), swap(1, 99, 5), gone(1, 8, 97), gone(2, 3, 99), rested(1, 5, 99))
	f := placed(t, api.DropBoth, orders...)
	wantDone(t, f, swap(1, 99, 5), gone(1, 8, 97), gone(2, 3, 99), gone(1, 5, 99))
	wantChange(t, f, 1, 0, 0, 0, 0)
	wantBook(t, f, nil, nil)
}

// What was put by for the old one may be put by for the new one.
func TestSwapOfAllThatOneHas(t *testing.T) {
	f := empty(t, api.DropTaker)
	do(t, f, pay(1, 600), place(buy(1, 1, 100, 6)))
	wantRefused(t, f, place(buy(2, 1, 1, 1)), api.ErrPoor)
	wantDone(t, f, swap(1, 60, 10), gone(1, 6, 100), rested(1, 10, 60))
	wantPurse(t, f, api.Purse{Who: 1, Cash: 600, Held: 600})
	wantRefused(t, f, swap(1, 61, 10), api.ErrPoor)
}

// Numbers that a command of its kind does not ask for are not read.
func TestOtherNumbersAreNotAsked(t *testing.T) {
	f := wealthy(t, api.DropTaker)
	odd := func(c api.Command) api.Command {
		c.Who, c.N = -1, -1
		return c
	}
	wantDone(t, f, odd(place(buy(1, 1, 97, 8))), rested(1, 8, 97))
	c := swap(1, 97, 7)
	c.Order.Who, c.Order.Side, c.Order.Kind, c.Order.Show, c.Order.Stop = -1, -1, -1, -1, -1
	wantDone(t, f, odd(c), rested(1, 7, 97))
	wantDone(t, f, odd(api.Command{What: api.Cancel, Order: api.Order{Id: 1, Who: -1, Side: 7, Price: -3, Qty: -1, Stop: -1}}), gone(1, 7, 97))
	wantDone(t, f, api.Command{What: api.Pay, Who: 1, N: 5, Order: api.Order{Id: -1}})
	wantDone(t, f, api.Command{What: api.Give, Who: 1, N: 6, Order: api.Order{Id: -1}})
	wantChange(t, f, 1, 5, 0, 6, 0)
}
