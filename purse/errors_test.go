package purse_test

import (
	"math"
	"testing"

	"pitfloor/api"
	"pitfloor/plain"
	"pitfloor/purse"
)

// P1 of chapter 12: which errors are told, and which first. What is wrong changes nothing.

// outside is beyond what may be, from low to high.
func outside(low, high int) []int {
	return []int{math.MinInt, math.MinInt + 1, -most, low - 1, high + 1, 1<<32 + 1, math.MaxInt - 1, math.MaxInt}
}

// states of trader 1 and 2, in which what is wrong would be told as ErrPoor, as ErrFull, or not at all.
func states(t *testing.T) []*purse.Purses {
	t.Helper()
	full := func(who int) api.Purse {
		return api.Purse{Who: who, Cash: most, Held: most, Stock: most, HeldStock: most}
	}
	some := func(who int) api.Purse {
		return api.Purse{Who: who, Cash: most / 2, Held: most / 4, Stock: most / 2, HeldStock: most / 4}
	}
	return []*purse.Purses{purse.New(), pursesOf(t, some(1), some(2)), pursesOf(t, full(1), full(2))}
}

func TestPayAndGiveWantATraderAndANumber(t *testing.T) {
	for _, p := range states(t) {
		for _, bad := range outside(1, traders) {
			for _, n := range []int{math.MinInt, 0, 1, most, most + 1, math.MaxInt} {
				wantRefused(t, p, api.ErrRange, paying(bad, n))
				wantRefused(t, p, api.ErrRange, giving(bad, n))
			}
		}
		for _, bad := range outside(1, most) {
			for _, who := range []int{1, 2, traders} {
				wantRefused(t, p, api.ErrRange, paying(who, bad))
				wantRefused(t, p, api.ErrRange, giving(who, bad))
			}
		}
	}
}

func TestPayAndGiveIntoAFullPurse(t *testing.T) {
	for who := 1; who <= traders; who++ {
		for _, has := range []int{1, 2, 500, most - 1, most} {
			p := pursesOf(t, api.Purse{Who: who, Cash: has, Stock: has})
			for _, n := range []int{most - has + 1, most} {
				wantRefused(t, p, api.ErrFull, paying(who, n))
				wantRefused(t, p, api.ErrFull, giving(who, n))
			}
			if has < most {
				wantDone(t, p, paying(who, most-has))
				wantDone(t, p, giving(who, most-has))
			}
			wantSeen(t, p, api.Purse{Who: who, Cash: most, Stock: most})
		}
	}
}

// What is put by is in the purse all the same, and makes no room.
func TestWhatIsPutByMakesNoRoom(t *testing.T) {
	p := pursesOf(t, api.Purse{Who: 4, Cash: most, Held: most, Stock: most, HeldStock: most})
	wantRefused(t, p, api.ErrFull, paying(4, 1))
	wantRefused(t, p, api.ErrFull, giving(4, 1))
}

func TestHoldAndFreeWantATraderAndNumbers(t *testing.T) {
	numbers := []int{math.MinInt, -1, 0, 1, most, most + 1, math.MaxInt}
	for _, p := range states(t) {
		for _, bad := range outside(1, traders) {
			for _, n := range numbers {
				wantRefused(t, p, api.ErrRange, holding(bad, n, n))
				wantRefused(t, p, api.ErrRange, freeing(bad, n, n))
			}
		}
		for _, bad := range outside(0, most) {
			for _, n := range numbers {
				wantRefused(t, p, api.ErrRange, holding(1, bad, n))
				wantRefused(t, p, api.ErrRange, holding(2, n, bad))
				wantRefused(t, p, api.ErrRange, freeing(1, bad, n))
				wantRefused(t, p, api.ErrRange, freeing(2, n, bad))
			}
		}
	}
}

func TestHoldOfMoreThanIsFree(t *testing.T) {
	for _, c := range []struct{ has, held int }{{0, 0}, {1, 0}, {1, 1}, {100, 0}, {100, 30}, {100, 100}, {most - 1, 0}, {most, 1}, {most, most}} {
		p := pursesOf(t, api.Purse{Who: 6, Cash: c.has, Held: c.held, Stock: c.has, HeldStock: c.held})
		left := c.has - c.held
		for _, n := range []int{left + 1, most} {
			if n <= left {
				continue
			}
			wantRefused(t, p, api.ErrPoor, holding(6, n, 0))
			wantRefused(t, p, api.ErrPoor, holding(6, 0, n))
			wantRefused(t, p, api.ErrPoor, holding(6, n, left))
			wantRefused(t, p, api.ErrPoor, holding(6, left, n))
			wantRefused(t, p, api.ErrPoor, holding(6, n, n))
		}
		wantDone(t, p, holding(6, left, left))
		wantSeen(t, p, api.Purse{Who: 6, Cash: c.has, Held: c.has, Stock: c.has, HeldStock: c.has})
	}
}

func TestFreeOfMoreThanIsPutBy(t *testing.T) {
	for _, c := range []struct{ has, held int }{{0, 0}, {1, 0}, {1, 1}, {100, 0}, {100, 30}, {100, 100}, {most - 1, 0}, {most, 1}, {most, most - 1}} {
		p := pursesOf(t, api.Purse{Who: 6, Cash: c.has, Held: c.held, Stock: c.has, HeldStock: c.held})
		for _, n := range []int{c.held + 1, most} {
			wantRefused(t, p, api.ErrPoor, freeing(6, n, 0))
			wantRefused(t, p, api.ErrPoor, freeing(6, 0, n))
			wantRefused(t, p, api.ErrPoor, freeing(6, n, c.held))
			wantRefused(t, p, api.ErrPoor, freeing(6, c.held, n))
			wantRefused(t, p, api.ErrPoor, freeing(6, n, n))
		}
		wantDone(t, p, freeing(6, c.held, c.held))
		wantSeen(t, p, api.Purse{Who: 6, Cash: c.has, Stock: c.has})
	}
}

// What is wrong with a trade's numbers comes ahead of what the purses have.
func TestTradeWantsTradersAPriceAndAQuantity(t *testing.T) {
	for _, p := range states(t) {
		for _, good := range []step{trading(1, 2, 10000, 10000), trading(2, 1, 1, 1), trading(1, 1, 100, 100)} {
			wrong := func(change func(x *step)) {
				x := good
				change(&x)
				wantRefused(t, p, api.ErrRange, x)
			}
			for _, bad := range outside(1, traders) {
				wrong(func(x *step) { x.who = bad })
				wrong(func(x *step) { x.to = bad })
				wrong(func(x *step) { x.who, x.to = bad, bad })
			}
			for _, bad := range outside(1, 10000) {
				wrong(func(x *step) { x.price = bad })
				wrong(func(x *step) { x.qty = bad })
				wrong(func(x *step) { x.price, x.qty = bad, bad })
			}
		}
	}
}

func TestTradeOfMoreThanIsPutBy(t *testing.T) {
	// What is there, and free, is not put by.
	stock := api.Purse{Who: 3, Cash: 900, Held: 900, Stock: 100, HeldStock: 5}
	cash := api.Purse{Who: 4, Cash: 900, Held: 50, Stock: 100, HeldStock: 100}
	p := pursesOf(t, stock, cash)
	wantRefused(t, p, api.ErrPoor, trading(3, 4, 1, 6))
	wantRefused(t, p, api.ErrPoor, trading(3, 4, 11, 5))
	wantRefused(t, p, api.ErrPoor, trading(3, 4, 51, 1))
	wantRefused(t, p, api.ErrPoor, trading(3, 4, 10000, 10000))
	wantDone(t, p, trading(3, 4, 10, 5))
}

// What is put by of the other thing, or by the other trader, does not help.
func TestTradeAsksWhoGives(t *testing.T) {
	all := api.Purse{Cash: 900, Held: 900, Stock: 900, HeldStock: 900}
	without := func(change func(from, to *api.Purse)) {
		from, to := all, all
		from.Who, to.Who = 3, 4
		change(&from, &to)
		wantRefused(t, pursesOf(t, from, to), api.ErrPoor, trading(3, 4, 10, 5))
	}
	without(func(from, _ *api.Purse) { from.HeldStock = 4 })
	without(func(from, _ *api.Purse) { from.HeldStock = 0 })
	without(func(_, to *api.Purse) { to.Held = 49 })
	without(func(_, to *api.Purse) { to.Held = 0 })
	without(func(from, to *api.Purse) { from.HeldStock, to.Held = 4, 49 })
	p := pursesOf(t, api.Purse{Who: 3, Stock: 5, HeldStock: 5}, api.Purse{Who: 4, Cash: 50, Held: 50})
	wantRefused(t, p, api.ErrPoor, trading(4, 3, 10, 5))
	wantDone(t, p, trading(3, 4, 10, 5))
}

func TestTradeWithOneselfOfMoreThanIsPutBy(t *testing.T) {
	p := pursesOf(t, api.Purse{Who: 7, Cash: 900, Held: 50, Stock: 100, HeldStock: 5})
	wantRefused(t, p, api.ErrPoor, trading(7, 7, 1, 6))
	wantRefused(t, p, api.ErrPoor, trading(7, 7, 51, 1))
	wantRefused(t, p, api.ErrPoor, trading(7, 7, 11, 5))
	wantDone(t, p, trading(7, 7, 10, 5))
	wantRefused(t, p, api.ErrPoor, trading(7, 7, 1, 1))
}

// tradeInto purses that have so much of what comes; From puts by 5 of stock, To 50 of cash.
func tradeInto(t *testing.T, cash, stock int) (*purse.Purses, step) {
	t.Helper()
	p := pursesOf(t,
		api.Purse{Who: 3, Cash: cash, Stock: 5, HeldStock: 5},
		api.Purse{Who: 4, Cash: 50, Held: 50, Stock: stock})
	return p, trading(3, 4, 10, 5)
}

func TestTradeIntoAFullPurse(t *testing.T) {
	for _, c := range []struct{ cash, stock int }{
		{most, 0}, {most - 49, 0}, {0, most}, {0, most - 4}, {most, most}, {most - 49, most - 5}, {most - 50, most - 4},
	} {
		p, x := tradeInto(t, c.cash, c.stock)
		wantRefused(t, p, api.ErrFull, x)
	}
	p, x := tradeInto(t, most-50, most-5)
	wantDone(t, p, x)
	wantSeen(t, p, api.Purse{Who: 3, Cash: most}, api.Purse{Who: 4, Stock: most})
}

// A purse that gives may be as full as can be of what it gives.
func TestTradeOutOfAFullPurse(t *testing.T) {
	p := pursesOf(t, api.Purse{Who: 3, Stock: most, HeldStock: most}, api.Purse{Who: 4, Cash: most, Held: most})
	wantDone(t, p, trading(3, 4, 10, 5))
	wantSeen(t, p, api.Purse{Who: 3, Cash: 50, Stock: most - 5, HeldStock: most - 5}, api.Purse{Who: 4, Cash: most - 50, Held: most - 50, Stock: 5})
}

// ErrPoor is told ahead of ErrFull.
func TestTradeOfTooMuchIntoAFullPurse(t *testing.T) {
	full := func(who int) api.Purse { return api.Purse{Who: who, Cash: most, Held: 50, Stock: most, HeldStock: 5} }
	p := pursesOf(t, full(3), full(4))
	wantRefused(t, p, api.ErrFull, trading(3, 4, 10, 5))
	wantRefused(t, p, api.ErrPoor, trading(3, 4, 1, 6))
	wantRefused(t, p, api.ErrPoor, trading(3, 4, 51, 1))
	wantDone(t, p, trading(3, 3, 10, 5))
	wantRefused(t, p, api.ErrPoor, trading(3, 4, 10, 5))
}

func TestGetWantsATrader(t *testing.T) {
	for _, p := range states(t) {
		for _, bad := range outside(1, traders) {
			if got, err := p.Get(bad); got != (api.Purse{}) || plain.Told(err) != api.ErrRange {
				t.Errorf("Get(%d): got %v %v, want ErrRange", bad, got, err)
			}
		}
	}
}
