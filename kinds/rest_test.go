package kinds_test

import (
	"fmt"
	"math"
	"testing"

	"pitfloor/api"
	"pitfloor/kinds"
	"pitfloor/plain"
	held "pitfloor/queue"
)

// K1: Rest.

func wantRest(t *testing.T, o api.Order, qty int, want api.Rest) {
	t.Helper()
	if got, err := kinds.Rest(o, qty); got != want || err != nil {
		t.Errorf("Rest(%v, %d): got %v %v, want %v", o, qty, got, err, want)
	}
}

func wantRestError(t *testing.T, o api.Order, qty int, want api.Errno) {
	t.Helper()
	if got, err := kinds.Rest(o, qty); got != (api.Rest{}) || plain.Told(err) != want {
		t.Errorf("Rest(%v, %d): got %v %v, want %v", o, qty, got, err, want)
	}
}

func TestRestShowsAllIfShowIsZero(t *testing.T) {
	eachSide(func(s int) {
		for kind := api.Limit; kind <= api.Post; kind++ {
			for _, qty := range []int{1, 2, 6, 7} {
				wantRest(t, ofKind(comes(s, 0, 7), kind), qty, rest(comer, comerWho, qty, 0, 0))
			}
		}
	})
}

func TestRestHidesWhatShowDoesNotSay(t *testing.T) {
	eachSide(func(s int) {
		for _, kind := range []int{api.Limit, api.Post} {
			o := ofKind(withShow(comes(s, 0, 9), 4), kind)
			wantRest(t, o, 9, rest(comer, comerWho, 4, 5, 4))
			wantRest(t, o, 8, rest(comer, comerWho, 4, 4, 4))
			wantRest(t, o, 5, rest(comer, comerWho, 4, 1, 4))
			wantRest(t, o, 4, rest(comer, comerWho, 4, 0, 4))
			// There is less than Show says: what there is is shown, and Show stays.
			wantRest(t, o, 3, rest(comer, comerWho, 3, 0, 4))
			wantRest(t, o, 1, rest(comer, comerWho, 1, 0, 4))
			wantRest(t, withShow(o, 1), 9, rest(comer, comerWho, 1, 8, 1))
			wantRest(t, withShow(o, 1), 1, rest(comer, comerWho, 1, 0, 1))
			wantRest(t, withShow(o, 9), 9, rest(comer, comerWho, 9, 0, 9))
			wantRest(t, withShow(o, 9), 8, rest(comer, comerWho, 8, 0, 9))
		}
	})
}

func TestRestAtTheBounds(t *testing.T) {
	for _, end := range []struct{ id, who, price int }{{1, 1, 1}, {9999, 9, 10000}} {
		o := api.Order{Id: end.id, Who: end.who, Side: api.Sell, Kind: api.Limit, Price: end.price, Qty: 10000}
		wantRest(t, o, 10000, rest(end.id, end.who, 10000, 0, 0))
		wantRest(t, o, 1, rest(end.id, end.who, 1, 0, 0))
		wantRest(t, withShow(o, 1), 10000, rest(end.id, end.who, 1, 9999, 1))
		wantRest(t, withShow(o, 10000), 10000, rest(end.id, end.who, 10000, 0, 10000))
	}
	one := comes(api.Buy, 0, 1)
	wantRest(t, one, 1, rest(comer, comerWho, 1, 0, 0))
	wantRest(t, withShow(one, 1), 1, rest(comer, comerWho, 1, 0, 1))
}

// A Stop is Do's to refuse.
func TestRestDoesNotAskForStop(t *testing.T) {
	for _, stop := range []int{1, 4990, 10000} {
		wantRest(t, withStop(comes(api.Buy, 0, 7), stop), 3, rest(comer, comerWho, 3, 0, 0))
		wantRest(t, withStop(withShow(comes(api.Sell, 0, 7), 2), stop), 3, rest(comer, comerWho, 2, 1, 2))
	}
}

func TestRestRefusesQty(t *testing.T) {
	eachSide(func(s int) {
		for _, of := range []int{1, 7, 10000} {
			for _, qty := range []int{math.MinInt, -of, -1, 0, of + 1, 10001, 1<<32 + 1, math.MaxInt} {
				wantRestError(t, comes(s, 0, of), qty, api.ErrRange)
				wantRestError(t, withShow(comes(s, 0, of), 1), qty, api.ErrRange)
				wantRestError(t, ofKind(comes(s, 0, of), api.Market), qty, api.ErrRange)
			}
		}
	})
}

func TestRestTellsTheOrdersFaultFirst(t *testing.T) {
	eachSide(func(s int) {
		for _, f := range badOrders(s) {
			for _, qty := range []int{math.MinInt, 0, 1, 5, 6, math.MaxInt} {
				wantRestError(t, f.of, qty, f.want)
			}
		}
	})
	wantRestError(t, api.Order{}, 0, api.ErrRange)
	wantRestError(t, api.Order{}, 1, api.ErrRange)
}

// TestRestEverywhere holds Rest against the promise's words; what comes is always a Rest that chapter 3 allows.
func TestRestEverywhere(t *testing.T) {
	for of := 1; of <= 9; of++ {
		for show := 0; show <= of; show++ {
			o := withShow(comes(api.Buy, 0, of), show)
			for qty := -1; qty <= of+1; qty++ {
				if qty < 1 || qty > of {
					wantRestError(t, o, qty, api.ErrRange)
					continue
				}
				want := spokenRest(o, qty)
				wantRest(t, o, qty, want)
				if err := held.Rest(want); err != nil {
					t.Errorf("Rest(%v, %d): %v %v", o, qty, want, err)
				}
			}
		}
	}
}

// spokenRest is K1's Rest, one piece after the other.
func spokenRest(o api.Order, qty int) api.Rest {
	r := rest(o.Id, o.Who, 0, 0, o.Show)
	for range qty {
		if o.Show == 0 || r.Qty < o.Show {
			r.Qty++
		} else {
			r.Hidden++
		}
	}
	return r
}

func ExampleRest() {
	o := api.Order{Id: 9, Who: 2, Side: api.Buy, Kind: api.Limit, Price: 102, Qty: 9, Show: 4}
	fmt.Println(kinds.Rest(o, 6))
	fmt.Println(kinds.Rest(o, 3))
	fmt.Println(kinds.Rest(o, 10))
	// Output:
	// {9 2 4 2 4} <nil>
	// {9 2 3 0 4} <nil>
	// {0 0 0 0 0} ErrRange
}
