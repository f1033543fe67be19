package purse_test

import (
	"testing"

	"pitfloor/api"
	"pitfloor/plain"
	"pitfloor/purse"
)

// What the tests of package purse are made of.

const (
	most    = 1000000000 // of cash, and of stock
	traders = 9
)

// What a step calls.
const (
	pay = iota
	give
	hold
	free
	trade
)

// step is a call on Purses: of Pay and Give n is cash, of Trade who is From.
type step struct {
	call, who, n, stock int
	to, price, qty      int
}

func paying(who, n int) step { return step{call: pay, who: who, n: n} }

func giving(who, n int) step { return step{call: give, who: who, n: n} }

func holding(who, cash, stock int) step { return step{call: hold, who: who, n: cash, stock: stock} }

func freeing(who, cash, stock int) step { return step{call: free, who: who, n: cash, stock: stock} }

func trading(from, to, price, qty int) step {
	return step{call: trade, who: from, to: to, price: price, qty: qty}
}

func did(p *purse.Purses, x step) api.Errno {
	var err error
	switch x.call {
	case pay:
		err = p.Pay(x.who, x.n)
	case give:
		err = p.Give(x.who, x.n)
	case hold:
		err = p.Hold(x.who, x.n, x.stock)
	case free:
		err = p.Free(x.who, x.n, x.stock)
	default:
		err = p.Trade(api.Trade{Maker: 7, Taker: 8, From: x.who, To: x.to, Price: x.price, Qty: x.qty})
	}
	return plain.Told(err)
}

// seen is all that can be told of Purses.
type seen struct {
	all         [traders]api.Purse
	cash, stock int
}

func look(t *testing.T, p *purse.Purses) (s seen) {
	t.Helper()
	for i := range s.all {
		has, err := p.Get(i + 1)
		if err != nil {
			t.Errorf("Get(%d): %v", i+1, err)
		}
		s.all[i] = has
	}
	s.cash, s.stock = p.Total()
	return s
}

// seenOf these purses, one a trader, and of empty ones beside them.
func seenOf(purses ...api.Purse) (s seen) {
	for i := range s.all {
		s.all[i].Who = i + 1
	}
	for _, has := range purses {
		s.all[has.Who-1] = has
		s.cash += has.Cash
		s.stock += has.Stock
	}
	return s
}

// pursesOf has just these purses, one a trader.
func pursesOf(t *testing.T, purses ...api.Purse) *purse.Purses {
	t.Helper()
	p := purse.New()
	for _, has := range purses {
		if has.Cash > 0 {
			wantDone(t, p, paying(has.Who, has.Cash))
		}
		if has.Stock > 0 {
			wantDone(t, p, giving(has.Who, has.Stock))
		}
		wantDone(t, p, holding(has.Who, has.Held, has.HeldStock))
	}
	wantSeen(t, p, purses...)
	return p
}

func wantSeen(t *testing.T, p *purse.Purses, purses ...api.Purse) {
	t.Helper()
	if got, want := look(t, p), seenOf(purses...); got != want {
		t.Errorf("got %v, want %v", got, want)
	}
}

func wantDone(t *testing.T, p *purse.Purses, x step) {
	t.Helper()
	if got := did(p, x); got != api.OK {
		t.Errorf("%+v: got %v", x, got)
	}
}

// wantRefused wants an error, and that nothing is another thing behind it.
func wantRefused(t *testing.T, p *purse.Purses, want api.Errno, x step) {
	t.Helper()
	was := look(t, p)
	if got := did(p, x); got != want {
		t.Errorf("%+v: got %v, want %v", x, got, want)
	}
	if is := look(t, p); is != was {
		t.Errorf("%+v: %v is now %v", x, was, is)
	}
}
