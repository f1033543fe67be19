package wake_test

import (
	"fmt"
	"slices"
	"testing"

	"pitfloor/api"
	"pitfloor/wake"
)

// W1: what Stops do where nothing is wrong.

func TestNewHasNone(t *testing.T) {
	s := wake.New()
	wantAll(t, s)
	wantWake(t, s, 1)
	wantWake(t, s, 5000)
	wantWake(t, s, 10000)
	wantAll(t, s)
}

// Neither Id, side nor Stop tells where one stands: who came first is ahead.
func TestAllStandAsTheyCame(t *testing.T) {
	l := []api.Order{sell(7, 50), buy(3, 900), buy(9999, 1), sell(1, 10000), buy(4, 50), sell(2, 50), buy(5, 900)}
	wantAll(t, stopsOf(t, l...), l...)
}

func TestPutTakesAllKindsAndSides(t *testing.T) {
	s, id := wake.New(), 0
	eachSide(func(side int) {
		for kind := api.Limit; kind <= api.Post; kind++ {
			id++
			wantPut(t, s, ofKind(waiting(id, side, 100), kind), api.OK)
		}
	})
}

func TestPutAtTheBounds(t *testing.T) {
	for number, ends := range [][]int{{1, 9999}, {1, 9}, {1, 2}, {1, 5}, {1, 10000}, {9, 10000}, {0, 9}, {1, 10000}} {
		for _, n := range ends {
			o := api.Order{Id: 7, Who: 3, Side: api.Sell, Kind: api.Limit, Price: 99, Qty: 9, Stop: 98}
			*field(&o, number) = n
			wantPut(t, wake.New(), o, api.OK)
		}
	}
	wantPut(t, wake.New(), api.Order{Id: 7, Who: 3, Side: api.Buy, Kind: api.Limit, Price: 1, Qty: 1, Show: 1, Stop: 1}, api.OK)
}

func TestDropTakesOneOut(t *testing.T) {
	a, b, c, d := buy(8, 100), sell(3, 100), buy(5, 200), sell(9, 1)
	s := stopsOf(t, a, b, c, d)
	wantDrop(t, s, b)
	wantAll(t, s, a, c, d)
	wantDrop(t, s, d)
	wantAll(t, s, a, c)
	wantDrop(t, s, a)
	wantAll(t, s, c)
	wantDrop(t, s, c)
	wantAll(t, s)
}

func TestDropTellsAllOfAnOrder(t *testing.T) {
	for kind := api.Limit; kind <= api.Post; kind++ {
		eachSide(func(side int) {
			o := ofKind(waiting(6, side, 77), kind)
			wantDrop(t, stopsOf(t, buy(1, 77), o, sell(2, 77)), o)
		})
	}
}

// Who is dropped, and comes again, stands behind the others.
func TestPutBehindDropAndWake(t *testing.T) {
	a, b, c := buy(1, 100), buy(2, 300), sell(3, 50)
	s := stopsOf(t, a, b, c)
	wantDrop(t, s, a)
	wantPut(t, s, a, api.OK)
	wantAll(t, s, b, c, a)
	wantWake(t, s, 100, a)
	wantPut(t, s, a, api.OK)
	wantAll(t, s, b, c, a)
	wantWake(t, s, 50, c)
	wantPut(t, s, sell(1000, 50), api.OK)
	wantPut(t, s, c, api.OK)
	wantAll(t, s, b, a, sell(1000, 50), c)
}

func TestBuyWakesAtItsStopAndAbove(t *testing.T) {
	for _, stop := range []int{1, 2, 5000, 9999, 10000} {
		for _, price := range []int{1, 2, 4999, 5000, 5001, 9999, 10000} {
			s := stopsOf(t, buy(4, stop))
			if price >= stop {
				wantWake(t, s, price, buy(4, stop))
				wantAll(t, s)
			} else {
				wantWake(t, s, price)
				wantAll(t, s, buy(4, stop))
			}
		}
	}
}

func TestSellWakesAtItsStopAndBelow(t *testing.T) {
	for _, stop := range []int{1, 2, 5000, 9999, 10000} {
		for _, price := range []int{1, 2, 4999, 5000, 5001, 9999, 10000} {
			s := stopsOf(t, sell(4, stop))
			if price <= stop {
				wantWake(t, s, price, sell(4, stop))
				wantAll(t, s)
			} else {
				wantWake(t, s, price)
				wantAll(t, s, sell(4, stop))
			}
		}
	}
}

// The Stop alone tells who wakes: neither an order's Price nor its kind does.
func TestWakeAsksTheStopAlone(t *testing.T) {
	for kind := api.Limit; kind <= api.Post; kind++ {
		eachSide(func(side int) {
			for _, price := range []int{1, 499, 500, 501, 10000} {
				o := waiting(4, side, 500)
				o.Price = price
				o = ofKind(o, kind)
				wantWake(t, stopsOf(t, o), 500, o)
			}
		})
	}
}

func TestWakeBuysTheLowestStopFirst(t *testing.T) {
	a, b, c, d := buy(1, 300), buy(2, 100), buy(3, 400), buy(4, 200)
	s := stopsOf(t, a, b, c, d)
	wantWake(t, s, 300, b, d, a)
	wantAll(t, s, c)
}

func TestWakeSellsTheHighestStopFirst(t *testing.T) {
	a, b, c, d := sell(1, 300), sell(2, 400), sell(3, 100), sell(4, 200)
	s := stopsOf(t, a, b, c, d)
	wantWake(t, s, 200, b, a, d)
	wantAll(t, s, c)
}

func TestWakeBuysAheadOfSells(t *testing.T) {
	l := []api.Order{sell(1, 900), buy(2, 500), sell(3, 500), buy(4, 1), sell(5, 499), buy(6, 501), sell(7, 700), buy(8, 499)}
	s := stopsOf(t, l...)
	wantWake(t, s, 500, l[3], l[7], l[1], l[0], l[6], l[2])
	wantAll(t, s, l[4], l[5])
}

// Ids tell nothing of who came first.
func TestWakeEqualOnesAsTheyCame(t *testing.T) {
	l := []api.Order{sell(9, 60), buy(8, 50), sell(2, 60), buy(3, 50), buy(5, 40), sell(6, 70), buy(1, 50), sell(4, 60)}
	s := stopsOf(t, l...)
	wantWake(t, s, 55, l[4], l[1], l[3], l[6], l[5], l[0], l[2], l[7])
	wantAll(t, s)
}

// So many that no sort keeps them in order by chance.
func TestWakeManyEqualOnesAsTheyCame(t *testing.T) {
	for stops := 1; stops <= 4; stops++ {
		eachSide(func(side int) {
			var l, want []api.Order
			for i := range api.MaxStops {
				l = append(l, waiting(i*7%api.MaxStops+1, side, 100+i*3%stops))
			}
			for by := range stops {
				stop := 100 + by
				if side == api.Sell {
					stop = 100 + stops - 1 - by
				}
				want = append(want, slices.DeleteFunc(slices.Clone(l), func(o api.Order) bool { return o.Stop != stop })...)
			}
			price := map[int]int{api.Buy: 10000, api.Sell: 1}[side]
			s := stopsOf(t, l...)
			wantWake(t, s, price, want...)
			wantAll(t, s)
		})
	}
}

func TestWhoHasWokenWaitsNoMore(t *testing.T) {
	s := stopsOf(t, buy(1, 100), sell(2, 100), buy(3, 101), sell(4, 99))
	wantWake(t, s, 100, buy(1, 100), sell(2, 100))
	wantWake(t, s, 100)
	wantNoDrop(t, s, 1)
	wantNoDrop(t, s, 2)
	wantAll(t, s, buy(3, 101), sell(4, 99))
	wantWake(t, s, 101, buy(3, 101))
	wantWake(t, s, 99, sell(4, 99))
	wantAll(t, s)
}

// A price that was met once is forgotten: who comes behind it waits for another one.
func TestPricesAreNotKept(t *testing.T) {
	s := wake.New()
	wantWake(t, s, 100)
	wantPut(t, s, buy(1, 100), api.OK)
	wantPut(t, s, sell(2, 100), api.OK)
	wantAll(t, s, buy(1, 100), sell(2, 100))
	wantWake(t, s, 99, sell(2, 100))
	wantWake(t, s, 101, buy(1, 100))
}

func TestStopsAreApart(t *testing.T) {
	s, other := stopsOf(t, buy(1, 100), sell(2, 100)), wake.New()
	wantAll(t, other)
	wantPut(t, other, sell(1, 200), api.OK)
	wantWake(t, s, 100, buy(1, 100), sell(2, 100))
	wantAll(t, s)
	wantAll(t, other, sell(1, 200))
}

func ExampleStops_Wake() {
	s := wake.New()
	fmt.Println(s.Put(api.Order{Id: 4, Who: 1, Side: api.Sell, Kind: api.Market, Qty: 2, Stop: 100}))
	fmt.Println(s.Put(api.Order{Id: 7, Who: 3, Side: api.Buy, Kind: api.Limit, Price: 105, Qty: 9, Stop: 99}))
	fmt.Println(s.Put(api.Order{Id: 8, Who: 2, Side: api.Buy, Kind: api.Now, Price: 105, Qty: 5, Stop: 101}))
	fmt.Println(s.Wake(100))
	fmt.Println(s.All())
	fmt.Println(s.Drop(8))
	fmt.Println(s.Drop(8))
	// Output:
	// <nil>
	// <nil>
	// <nil>
	// [{7 3 1 1 105 9 0 0} {4 1 2 2 0 2 0 0}] <nil>
	// [{8 2 1 3 105 5 0 101}]
	// {8 2 1 3 105 5 0 101} <nil>
	// {0 0 0 0 0 0 0 0} ErrNone
}

// What is done to Stops is not done to a Fresh of them, nor the other way.
func TestFreshIsApart(t *testing.T) {
	for _, count := range []int{0, 1, 2, 3, 5, 8, 19} {
		s := stopsOf(t, mixed(count)...)
		other := s.Fresh()
		wantAll(t, other, mixed(count)...)
		wantPut(t, s, buy(500, 100), api.OK)
		wantAll(t, other, mixed(count)...)
		wantPut(t, other, sell(501, 100), api.OK)
		wantAll(t, s, append(mixed(count), buy(500, 100))...)
		for _, o := range mixed(count) {
			wantDrop(t, s, o)
		}
		wantAll(t, other, append(mixed(count), sell(501, 100))...)
		if _, err := other.Wake(100); err != nil {
			t.Error(err)
		}
		wantAll(t, s, buy(500, 100))
	}
}
