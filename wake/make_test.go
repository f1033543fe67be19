package wake_test

import (
	"slices"
	"testing"

	"pitfloor/api"
	"pitfloor/plain"
	"pitfloor/wake"
)

// What the tests of package wake are made of.

// waiting is an order of a side that waits for a price; no two of them are alike but for their Stop.
func waiting(id, side, stop int) api.Order {
	return api.Order{Id: id, Who: id%9 + 1, Side: side, Kind: api.Limit, Price: 2000 + id%5000, Qty: id%900 + 3, Show: id % 4, Stop: stop}
}

func buy(id, stop int) api.Order { return waiting(id, api.Buy, stop) }

func sell(id, stop int) api.Order { return waiting(id, api.Sell, stop) }

// row of so many orders to buy, with Ids from 1 on, that wait for one price.
func row(count, stop int) (l []api.Order) {
	for id := 1; id <= count; id++ {
		l = append(l, buy(id, stop))
	}
	return l
}

// ofKind gives an order with another Kind, and what goes with it.
func ofKind(o api.Order, kind int) api.Order {
	o.Kind = kind
	if kind == api.Market {
		o.Price = 0
	}
	if kind != api.Limit && kind != api.Post {
		o.Show = 0
	}
	return o
}

func withStop(o api.Order, stop int) api.Order {
	o.Stop = stop
	return o
}

func withId(o api.Order, id int) api.Order {
	o.Id = id
	return o
}

// field of an order, by its number: Id, Who, Side, Kind, Price, Qty, Show, Stop.
func field(o *api.Order, number int) *int {
	return []*int{&o.Id, &o.Who, &o.Side, &o.Kind, &o.Price, &o.Qty, &o.Show, &o.Stop}[number]
}

// awake gives orders as they are when they have woken.
func awake(l ...api.Order) []api.Order {
	l = slices.Clone(l)
	for i := range l {
		l[i].Stop = 0
	}
	return l
}

func eachSide(do func(side int)) {
	do(api.Buy)
	do(api.Sell)
}

// stopsOf has put all of these, in order.
func stopsOf(t *testing.T, l ...api.Order) *wake.Stops {
	t.Helper()
	s := wake.New()
	for _, o := range l {
		wantPut(t, s, o, api.OK)
	}
	return s
}

func wantAll(t *testing.T, s *wake.Stops, want ...api.Order) {
	t.Helper()
	if got := s.All(); !slices.Equal(got, want) {
		t.Errorf("All: got %v, want %v", got, want)
	}
}

func wantPut(t *testing.T, s *wake.Stops, o api.Order, want api.Errno) {
	t.Helper()
	was := s.All()
	if got := plain.Told(s.Put(o)); got != want {
		t.Errorf("Put(%+v): got %v, want %v", o, got, want)
	}
	if want == api.OK {
		was = append(was, o)
	}
	wantAll(t, s, was...)
}

func wantDrop(t *testing.T, s *wake.Stops, want api.Order) {
	t.Helper()
	if got, err := s.Drop(want.Id); got != want || err != nil {
		t.Errorf("Drop(%d): got %v %v, want %v", want.Id, got, err, want)
	}
}

func wantNoDrop(t *testing.T, s *wake.Stops, id int) {
	t.Helper()
	was := s.All()
	if got, err := s.Drop(id); got != (api.Order{}) || plain.Told(err) != api.ErrNone {
		t.Errorf("Drop(%d): got %v %v, want ErrNone", id, got, err)
	}
	wantAll(t, s, was...)
}

func wantWake(t *testing.T, s *wake.Stops, price int, want ...api.Order) {
	t.Helper()
	if got, err := s.Wake(price); !slices.Equal(got, awake(want...)) || err != nil {
		t.Errorf("Wake(%d): got %v %v, want %v", price, got, err, awake(want...))
	}
}
