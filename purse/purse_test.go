package purse_test

import (
	"fmt"
	"testing"

	"pitfloor/api"
	"pitfloor/purse"
)

// P1 of chapter 12: what Purses do where nothing is wrong.

func TestAllAreEmptyAtFirst(t *testing.T) {
	wantSeen(t, purse.New())
}

// fillUp the purse of each trader, by and by, to the most that it may have.
func fillUp(t *testing.T, come func(who, n int) step, want func(who, n int) api.Purse) {
	t.Helper()
	for who := 1; who <= traders; who++ {
		p, has := purse.New(), 0
		for _, n := range []int{1, 41, most - 42} {
			wantDone(t, p, come(who, n))
			has += n
			wantSeen(t, p, want(who, has))
		}
	}
}

func TestPayPutsCashIntoOnePurse(t *testing.T) {
	fillUp(t, paying, func(who, n int) api.Purse { return api.Purse{Who: who, Cash: n} })
}

func TestGivePutsStockIntoOnePurse(t *testing.T) {
	fillUp(t, giving, func(who, n int) api.Purse { return api.Purse{Who: who, Stock: n} })
}

// A purse that is full of one is not full of the other.
func TestCashAndStockAreApart(t *testing.T) {
	p := purse.New()
	wantDone(t, p, paying(4, most))
	wantDone(t, p, giving(4, most))
	wantDone(t, p, giving(5, most))
	wantDone(t, p, paying(5, most))
	wantSeen(t, p, api.Purse{Who: 4, Cash: most, Stock: most}, api.Purse{Who: 5, Cash: most, Stock: most})
}

// What is put by is still in the purse; what comes in is not put by.
func TestPayAndGiveLeaveWhatIsPutBy(t *testing.T) {
	p := pursesOf(t, api.Purse{Who: 2, Cash: 9, Held: 9, Stock: 7, HeldStock: 7})
	wantDone(t, p, paying(2, 5))
	wantDone(t, p, giving(2, 6))
	wantSeen(t, p, api.Purse{Who: 2, Cash: 14, Held: 9, Stock: 13, HeldStock: 7})
}

func TestHoldPutsBy(t *testing.T) {
	p := pursesOf(t, api.Purse{Who: 3, Cash: 100, Stock: 50}, api.Purse{Who: 4, Cash: 100, Stock: 50})
	other := api.Purse{Who: 4, Cash: 100, Stock: 50}
	wantDone(t, p, holding(3, 30, 0))
	wantSeen(t, p, other, api.Purse{Who: 3, Cash: 100, Held: 30, Stock: 50})
	wantDone(t, p, holding(3, 0, 20))
	wantSeen(t, p, other, api.Purse{Who: 3, Cash: 100, Held: 30, Stock: 50, HeldStock: 20})
	wantDone(t, p, holding(3, 1, 2))
	wantSeen(t, p, other, api.Purse{Who: 3, Cash: 100, Held: 31, Stock: 50, HeldStock: 22})
	wantDone(t, p, holding(3, 69, 28))
	wantSeen(t, p, other, api.Purse{Who: 3, Cash: 100, Held: 100, Stock: 50, HeldStock: 50})
}

func TestFreePutsByNoMore(t *testing.T) {
	other := api.Purse{Who: 7, Cash: 100, Held: 60, Stock: 50, HeldStock: 40}
	p := pursesOf(t, other, api.Purse{Who: 8, Cash: 100, Held: 60, Stock: 50, HeldStock: 40})
	wantDone(t, p, freeing(8, 10, 0))
	wantSeen(t, p, other, api.Purse{Who: 8, Cash: 100, Held: 50, Stock: 50, HeldStock: 40})
	wantDone(t, p, freeing(8, 0, 10))
	wantSeen(t, p, other, api.Purse{Who: 8, Cash: 100, Held: 50, Stock: 50, HeldStock: 30})
	wantDone(t, p, freeing(8, 1, 2))
	wantSeen(t, p, other, api.Purse{Who: 8, Cash: 100, Held: 49, Stock: 50, HeldStock: 28})
	wantDone(t, p, freeing(8, 49, 28))
	wantSeen(t, p, other, api.Purse{Who: 8, Cash: 100, Stock: 50})
}

// Nothing can be put by, and freed, of an empty purse too.
func TestHoldAndFreeOfNothing(t *testing.T) {
	for who := 1; who <= traders; who++ {
		p := purse.New()
		wantDone(t, p, holding(who, 0, 0))
		wantDone(t, p, freeing(who, 0, 0))
		wantSeen(t, p)
	}
}

func TestHoldAndFreeOfTheMost(t *testing.T) {
	p := pursesOf(t, api.Purse{Who: 1, Cash: most, Stock: most})
	wantDone(t, p, holding(1, most, most))
	wantSeen(t, p, api.Purse{Who: 1, Cash: most, Held: most, Stock: most, HeldStock: most})
	wantDone(t, p, freeing(1, most, most))
	wantSeen(t, p, api.Purse{Who: 1, Cash: most, Stock: most})
}

func TestTradeGoesFromOneToTheOther(t *testing.T) {
	p := pursesOf(t,
		api.Purse{Who: 3, Cash: 10, Held: 4, Stock: 20, HeldStock: 8},
		api.Purse{Who: 6, Cash: 500, Held: 300, Stock: 9, HeldStock: 2},
		api.Purse{Who: 9, Cash: 11, Held: 5, Stock: 12, HeldStock: 6})
	wantDone(t, p, trading(3, 6, 50, 5))
	wantSeen(t, p,
		api.Purse{Who: 3, Cash: 260, Held: 4, Stock: 15, HeldStock: 3},
		api.Purse{Who: 6, Cash: 250, Held: 50, Stock: 14, HeldStock: 2},
		api.Purse{Who: 9, Cash: 11, Held: 5, Stock: 12, HeldStock: 6})
}

// All that is put by may go.
func TestTradeOfAllThatIsPutBy(t *testing.T) {
	p := pursesOf(t, api.Purse{Who: 1, Stock: 3, HeldStock: 3}, api.Purse{Who: 2, Cash: 21, Held: 21})
	wantDone(t, p, trading(1, 2, 7, 3))
	wantSeen(t, p, api.Purse{Who: 1, Cash: 21}, api.Purse{Who: 2, Stock: 3})
}

// What came by a trade is not put by: it can be, and then goes on.
func TestWhatCameCanBePutBy(t *testing.T) {
	p := pursesOf(t, api.Purse{Who: 1, Stock: 3, HeldStock: 3}, api.Purse{Who: 2, Cash: 21, Held: 21})
	wantDone(t, p, trading(1, 2, 7, 3))
	wantRefused(t, p, api.ErrPoor, trading(2, 1, 7, 3))
	wantDone(t, p, holding(1, 21, 0))
	wantRefused(t, p, api.ErrPoor, trading(2, 1, 7, 3))
	wantDone(t, p, holding(2, 0, 3))
	wantDone(t, p, trading(2, 1, 7, 3))
	wantSeen(t, p, api.Purse{Who: 1, Stock: 3}, api.Purse{Who: 2, Cash: 21})
}

func TestTradeBetweenAllTraders(t *testing.T) {
	for from := 1; from <= traders; from++ {
		for to := 1; to <= traders; to++ {
			if from == to {
				continue
			}
			p := pursesOf(t, api.Purse{Who: from, Stock: 5, HeldStock: 4}, api.Purse{Who: to, Cash: 50, Held: 40})
			wantDone(t, p, trading(from, to, 11, 3))
			wantSeen(t, p, api.Purse{Who: from, Cash: 33, Stock: 2, HeldStock: 1}, api.Purse{Who: to, Cash: 17, Held: 7, Stock: 3})
		}
	}
}

// The bounds of prices and quantities, up to 100000000 of cash at once.
func TestTradeAtTheBounds(t *testing.T) {
	for _, price := range []int{1, 2, 9999, 10000} {
		for _, qty := range []int{1, 2, 9999, 10000} {
			p := pursesOf(t, api.Purse{Who: 9, Stock: most, HeldStock: most}, api.Purse{Who: 1, Cash: most, Held: most})
			wantDone(t, p, trading(9, 1, price, qty))
			cash := price * qty
			wantSeen(t, p,
				api.Purse{Who: 9, Cash: cash, Stock: most - qty, HeldStock: most - qty},
				api.Purse{Who: 1, Cash: most - cash, Held: most - cash, Stock: qty})
		}
	}
}

// Who trades with oneself has as much as ahead, and less of it is put by.
func TestTradeWithOneself(t *testing.T) {
	for who := 1; who <= traders; who++ {
		p := pursesOf(t, api.Purse{Who: who, Cash: 50, Held: 40, Stock: 9, HeldStock: 6})
		wantDone(t, p, trading(who, who, 7, 4))
		wantSeen(t, p, api.Purse{Who: who, Cash: 50, Held: 12, Stock: 9, HeldStock: 2})
	}
}

// A full purse is no hindrance to who trades with oneself.
func TestTradeWithOneselfOfAFullPurse(t *testing.T) {
	p := pursesOf(t, api.Purse{Who: 5, Cash: most, Held: most, Stock: most, HeldStock: most})
	wantDone(t, p, trading(5, 5, 10000, 10000))
	wantSeen(t, p, api.Purse{Who: 5, Cash: most, Held: most - 100000000, Stock: most, HeldStock: most - 10000})
}

// Which orders were traded is nothing to the purses, even where no order could be.
func TestTradeAsksNoOrders(t *testing.T) {
	for _, id := range []int{-1, 0, 1, 9999, 10000, 1 << 62} {
		p := pursesOf(t, api.Purse{Who: 1, Stock: 3, HeldStock: 3}, api.Purse{Who: 2, Cash: 21, Held: 21})
		if err := p.Trade(api.Trade{Maker: id, Taker: id, From: 1, To: 2, Price: 7, Qty: 3}); err != nil {
			t.Errorf("Maker and Taker %d: %v", id, err)
		}
		wantSeen(t, p, api.Purse{Who: 1, Cash: 21}, api.Purse{Who: 2, Stock: 3})
	}
}

// All purses may be full at once.
func TestTotalOfTheMost(t *testing.T) {
	p := purse.New()
	for who := 1; who <= traders; who++ {
		wantDone(t, p, paying(who, most))
		wantDone(t, p, giving(who, most))
		if cash, stock := p.Total(); cash != who*most || stock != who*most {
			t.Errorf("Total of %d full purses: got %d %d", who, cash, stock)
		}
	}
}

// Each purse counts once, and cash is told ahead of stock.
func TestTotalIsOfAllPurses(t *testing.T) {
	p, cash, stock := purse.New(), 0, 0
	for who := 1; who <= traders; who++ {
		wantDone(t, p, paying(who, 1<<who))
		wantDone(t, p, giving(who, 3<<who))
		wantDone(t, p, holding(who, 1, 2))
		cash, stock = cash+1<<who, stock+3<<who
		if gotCash, gotStock := p.Total(); gotCash != cash || gotStock != stock {
			t.Errorf("Total: got %d %d, want %d %d", gotCash, gotStock, cash, stock)
		}
	}
}

func ExamplePurses_Trade() {
	p := purse.New()
	fmt.Println(p.Pay(1, 1000), p.Give(2, 50))
	fmt.Println(p.Hold(1, 600, 0), p.Hold(2, 0, 5))
	fmt.Println(p.Trade(api.Trade{Maker: 7, Taker: 8, From: 2, To: 1, Price: 101, Qty: 4}))
	fmt.Println(p.Get(1))
	fmt.Println(p.Get(2))
	fmt.Println(p.Trade(api.Trade{Maker: 7, Taker: 8, From: 2, To: 1, Price: 101, Qty: 4}))
	fmt.Println(p.Free(1, 196, 0))
	fmt.Println(p.Get(1))
	fmt.Println(p.Total())
	// Output:
	// <nil> <nil>
	// <nil> <nil>
	// <nil>
	// {1 596 196 4 0} <nil>
	// {2 404 0 46 1} <nil>
	// ErrPoor
	// <nil>
	// {1 596 0 4 0} <nil>
	// 1000 50
}

// What is done to Purses is not done to a Fresh of them, nor the other way.
func TestFreshIsApart(t *testing.T) {
	first, second := api.Purse{Who: 1, Cash: 900, Held: 300, Stock: 8, HeldStock: 2}, api.Purse{Who: 9, Cash: 700, Held: 500, Stock: 6, HeldStock: 4}
	p := pursesOf(t, first, second)
	other := p.Fresh()
	wantSeen(t, other, first, second)
	wantDone(t, p, paying(1, 5))
	wantDone(t, p, trading(1, 9, 100, 2))
	wantSeen(t, other, first, second)
	was := look(t, p)
	wantDone(t, other, holding(9, 200, 1))
	wantDone(t, other, freeing(1, 1, 1))
	if is := look(t, p); is != was {
		t.Errorf("%v is now %v", was, is)
	}
}
