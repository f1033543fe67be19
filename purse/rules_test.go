package purse_test

import (
	"math"
	"testing"

	"pitfloor/api"
	"pitfloor/purse"
)

// The rules that hold everywhere (P1 to P4 of the document), asked of package purse.

// A Purse that came out is the caller's: written over, it changes nothing, and it stays as it was.
func TestAnswersAreTheCallers(t *testing.T) {
	has := api.Purse{Who: 2, Cash: 90, Held: 40, Stock: 70, HeldStock: 30}
	p := pursesOf(t, has)
	got, _ := p.Get(2)
	got.Cash, got.Held = -1, -1
	wantSeen(t, p, has)
	got, _ = p.Get(2)
	wantDone(t, p, paying(2, 10))
	wantDone(t, p, holding(2, 1, 1))
	if got != has {
		t.Errorf("%v is now %v", has, got)
	}
}

func TestPursesAreApart(t *testing.T) {
	p, other := purse.New(), purse.New()
	wantDone(t, p, paying(1, 10))
	wantDone(t, p, giving(1, 10))
	wantDone(t, p, holding(1, 10, 10))
	wantSeen(t, other)
	wantDone(t, other, paying(1, 3))
	wantSeen(t, p, api.Purse{Who: 1, Cash: 10, Held: 10, Stock: 10, HeldStock: 10})
	wantSeen(t, other, api.Purse{Who: 1, Cash: 3})
	wantSeen(t, purse.New())
}

func TestGetAndTotalChangeNothing(t *testing.T) {
	has := api.Purse{Who: 9, Cash: 90, Held: 40, Stock: 70, HeldStock: 30}
	p := pursesOf(t, has)
	for range 3 {
		p.Get(0)
		wantSeen(t, p, has)
	}
}

// oddSteps have one number or two of any kind in any place.
func oddSteps() (l []step) {
	ends := []int{math.MinInt, math.MinInt + 1, -1, 0, 1, 2, 9, 10, 10000, 10001, most, most + 1, math.MaxInt - 1, math.MaxInt}
	for _, a := range ends {
		for _, b := range ends {
			l = append(l, paying(a, b), giving(a, b),
				holding(1, a, b), holding(a, b, 1), holding(a, 1, b),
				freeing(1, a, b), freeing(a, b, 1), freeing(a, 1, b),
				trading(a, b, 1, 1), trading(1, 2, a, b), trading(a, 2, b, 1), trading(2, a, 1, b))
		}
	}
	return l
}

func TestNoCallPanicsAndAnswersHangOnWhatWasCalledAlone(t *testing.T) {
	for i := range states(t) {
		p, again, other := states(t)[i], states(t)[i], purse.New()
		for _, x := range oddSteps() {
			first := did(p, x)
			did(other, trading(1, 1, 1, 1))
			did(other, paying(1, 1))
			if then := did(again, x); then != first || look(t, again) != look(t, p) {
				t.Fatalf("%+v: first %v, then %v", x, first, then)
			}
		}
	}
}

// Whatever is called, no purse has less than nothing or more than the most, or less than is put by.
func TestPursesStayWithinTheirBounds(t *testing.T) {
	within := func(has, held int) bool { return 0 <= held && held <= has && has <= most }
	for _, p := range states(t) {
		for _, x := range oddSteps() {
			did(p, x)
			for _, has := range look(t, p).all {
				if !within(has.Cash, has.Held) || !within(has.Stock, has.HeldStock) {
					t.Fatalf("%+v: %v", x, has)
				}
			}
		}
	}
}

// Nothing is made, nothing lost: only Pay and Give change what all have.
func TestNothingIsMadeNothingLost(t *testing.T) {
	for _, p := range states(t) {
		for _, x := range oddSteps() {
			cash, stock := p.Total()
			told := did(p, x)
			if told == api.OK && x.call == pay {
				cash += x.n
			}
			if told == api.OK && x.call == give {
				stock += x.n
			}
			if nowCash, nowStock := p.Total(); nowCash != cash || nowStock != stock {
				t.Fatalf("%+v: all have %d %d, want %d %d", x, nowCash, nowStock, cash, stock)
			}
		}
	}
}
