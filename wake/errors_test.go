package wake_test

import (
	"math"
	"testing"

	"pitfloor/api"
	"pitfloor/plain"
	"pitfloor/wake"
)

// W1: which errors are told, and which first. What is wrong changes nothing.

// fault of an order, and what is told of it.
type fault struct {
	of   api.Order
	want api.Errno
}

// badOrders have one thing wrong each that chapter 2 names.
func badOrders(good api.Order) (l []fault) {
	wrong := func(want api.Errno, change func(o *api.Order)) {
		o := good
		change(&o)
		l = append(l, fault{o, want})
	}
	highs := []int{10000, 10, 3, 6, 10001, 10001, good.Qty + 1, 10001}
	for number, high := range highs {
		for _, n := range []int{math.MinInt, -1, high, 1<<32 + 1, math.MaxInt} {
			wrong(api.ErrRange, func(o *api.Order) { *field(o, number) = n })
		}
		if number < 6 {
			wrong(api.ErrRange, func(o *api.Order) { *field(o, number) = 0 })
		}
	}
	wrong(api.ErrRange, func(o *api.Order) { o.Kind = api.Market })
	for _, kind := range []int{api.Market, api.Now, api.Whole} {
		wrong(api.ErrShape, func(o *api.Order) { *o = ofKind(*o, kind); o.Show = 1 })
	}
	return l
}

// stopsWith has so many that wait, and a good order, of the Id of one of them or of none, that would come.
func stopsWith(t *testing.T, count int, do func(s *wake.Stops, o api.Order)) {
	t.Helper()
	eachSide(func(side int) {
		for _, id := range []int{1, 20, 500} {
			do(stopsOf(t, row(count, 100)...), waiting(id, side, 100))
		}
	})
}

// Chapter 2's errors come ahead of all others.
func TestPutTellsCheckFirst(t *testing.T) {
	for _, count := range []int{0, 1, 19, 20} {
		stopsWith(t, count, func(s *wake.Stops, o api.Order) {
			for _, bad := range badOrders(o) {
				wantPut(t, s, bad.of, bad.want)
			}
			for _, bad := range badOrders(withStop(o, 0)) {
				wantPut(t, s, bad.of, bad.want)
			}
			wantPut(t, s, api.Order{}, api.ErrRange)
		})
	}
}

// An order without a Stop may not wait, whether or not its Id does, and there is room.
func TestPutWantsAStop(t *testing.T) {
	for _, count := range []int{0, 1, 19, 20} {
		stopsWith(t, count, func(s *wake.Stops, o api.Order) {
			for kind := api.Limit; kind <= api.Post; kind++ {
				wantPut(t, s, withStop(ofKind(o, kind), 0), api.ErrState)
			}
		})
	}
}

// An Id waits once, whatever else of the order is another.
func TestPutWantsAnotherId(t *testing.T) {
	for _, count := range []int{1, 2, 19, 20} {
		for id := 1; id <= count; id++ {
			s := stopsOf(t, row(count, 100)...)
			wantPut(t, s, buy(id, 100), api.ErrClash)
			wantPut(t, s, withId(sell(id+50, 900), id), api.ErrClash)
			wantPut(t, s, withId(ofKind(buy(id+50, 1), api.Market), id), api.ErrClash)
		}
	}
}

func TestPutTakesAnIdThatWaitsNoMore(t *testing.T) {
	s := stopsOf(t, buy(1, 100), buy(2, 200))
	wantDrop(t, s, buy(1, 100))
	wantPut(t, s, sell(1, 100), api.OK)
	wantPut(t, s, sell(1, 100), api.ErrClash)
	wantWake(t, s, 100, sell(1, 100))
	wantPut(t, s, buy(1, 100), api.OK)
	wantPut(t, s, sell(2, 100), api.ErrClash)
}

func TestTwentyWaitAtMost(t *testing.T) {
	full := row(20, 100)
	for _, o := range []api.Order{buy(21, 100), sell(9999, 1), ofKind(sell(500, 10000), api.Market)} {
		wantPut(t, stopsOf(t, full[:19]...), o, api.OK)
		wantPut(t, stopsOf(t, full...), o, api.ErrFull)
	}
}

// Who waits no more makes room again.
func TestRoomComesBack(t *testing.T) {
	s := stopsOf(t, row(20, 100)...)
	wantDrop(t, s, buy(9, 100))
	wantPut(t, s, sell(30, 100), api.OK)
	wantPut(t, s, sell(31, 100), api.ErrFull)
	wantWake(t, s, 99, sell(30, 100))
	wantPut(t, s, sell(31, 100), api.OK)
	wantPut(t, s, sell(32, 100), api.ErrFull)
	if _, err := s.Wake(100); err != nil {
		t.Error(err)
	}
	wantAll(t, s)
	for _, o := range row(20, 300) {
		wantPut(t, s, o, api.OK)
	}
	wantPut(t, s, sell(32, 100), api.ErrFull)
}

func TestDropOfWhoDoesNotWait(t *testing.T) {
	for _, count := range []int{0, 1, 20} {
		s := stopsOf(t, row(count, 100)...)
		for _, id := range []int{math.MinInt, -1, 0, count + 1, 9999, 10000, 1<<32 + 1, math.MaxInt} {
			wantNoDrop(t, s, id)
		}
	}
	s := stopsOf(t, row(3, 100)...)
	wantDrop(t, s, buy(2, 100))
	wantNoDrop(t, s, 2)
}

// What is gone leaves no order behind that an Id of 0 would find.
func TestDropFindsNothingThatIsGone(t *testing.T) {
	s := stopsOf(t, row(3, 100)...)
	wantDrop(t, s, buy(1, 100))
	wantNoDrop(t, s, 0)
	wantWake(t, s, 100, buy(2, 100), buy(3, 100))
	wantNoDrop(t, s, 0)
	wantNoDrop(t, s, 3)
}

func TestWakeWantsAPrice(t *testing.T) {
	for _, l := range [][]api.Order{nil, {buy(1, 1), sell(2, 10000)}, row(20, 1)} {
		s := stopsOf(t, l...)
		for _, price := range []int{math.MinInt, -1, 0, 10001, 1<<32 + 1, math.MaxInt} {
			if got, err := s.Wake(price); len(got) != 0 || plain.Told(err) != api.ErrRange {
				t.Errorf("Wake(%d): got %v %v, want ErrRange", price, got, err)
			}
			wantAll(t, s, l...)
		}
	}
}
