package side_test

import (
	"fmt"
	"math"
	"slices"
	"testing"

	"pitfloor/api"
	"pitfloor/plain"
	"pitfloor/side"
)

// S1: Best, Depth, Add, Drop and Find.

func wantBest(t *testing.T, s int, l []api.Level, want int, wantErr api.Errno) {
	t.Helper()
	got, err := side.Best(s, l)
	if got != want || plain.Told(err) != wantErr {
		t.Errorf("Best(%d, %v): got %d %v, want %d %v", s, l, got, err, want, wantErr)
	}
}

func wantDepth(t *testing.T, s int, l []api.Level, n int, want [][2]int, wantErr api.Errno) {
	t.Helper()
	got, err := side.Depth(s, l, n)
	if !slices.Equal(got, want) || plain.Told(err) != wantErr {
		t.Errorf("Depth(%d, %v, %d): got %v %v, want %v %v", s, l, n, got, err, want, wantErr)
	}
}

func wantAdd(t *testing.T, s int, l []api.Level, price int, r api.Rest, want []api.Level, wantErr api.Errno) {
	t.Helper()
	got, err := side.Add(s, l, price, r)
	if !same(got, want) || plain.Told(err) != wantErr {
		t.Errorf("Add(%d, %v, %d, %v): got %v %v, want %v %v", s, l, price, r, got, err, want, wantErr)
	}
}

func wantDrop(t *testing.T, s int, l []api.Level, id int, want []api.Level, wantRest api.Rest, wantPrice int, wantErr api.Errno) {
	t.Helper()
	got, r, price, err := side.Drop(s, l, id)
	if !same(got, want) || r != wantRest || price != wantPrice || plain.Told(err) != wantErr {
		t.Errorf("Drop(%d, %v, %d): got %v %v %d %v, want %v %v %d %v",
			s, l, id, got, r, price, err, want, wantRest, wantPrice, wantErr)
	}
}

func wantFind(t *testing.T, s int, l []api.Level, id, wantAt, wantWhich int, wantErr api.Errno) {
	t.Helper()
	at, which, err := side.Find(s, l, id)
	if at != wantAt || which != wantWhich || plain.Told(err) != wantErr {
		t.Errorf("Find(%d, %v, %d): got %d %d %v, want %d %d %v", s, l, id, at, which, err, wantAt, wantWhich, wantErr)
	}
}

// eachBadSide goes over sides that something is wrong with, and what Check tells of them.
func eachBadSide(do func(s int, l []api.Level, want api.Errno)) {
	for _, s := range noSides {
		do(s, nil, api.ErrRange)
		do(s, flat(api.Buy, 2), api.ErrRange)
	}
	eachSide(func(s int) {
		for _, f := range faults(behind(s, top, 2)) {
			do(s, changed(flat(s, 3), 1, f.level), f.want)
		}
		do(s, []api.Level{level(top, 1), level(top, 2)}, api.ErrClash)
		do(s, flat(3-s, 2), api.ErrClash)
		do(s, stairs(s, 60, 1), api.ErrFull)
		do(s, []api.Level{level(top, 1), level(behind(s, top, 1), 1)}, api.ErrClash)
	})
}

func TestEveryCallTellsCheckFirst(t *testing.T) {
	numbers := []int{math.MinInt, -1, 0, 1, 3, 9000, math.MaxInt}
	eachBadSide(func(s int, l []api.Level, want api.Errno) {
		wantCheck(t, s, l, want)
		wantBest(t, s, l, 0, want)
		for _, n := range numbers {
			wantDepth(t, s, l, n, nil, want)
			wantDrop(t, s, l, n, nil, api.Rest{}, 0, want)
			wantFind(t, s, l, n, 0, 0, want)
			for _, r := range []api.Rest{rest(1), rest(9000), ranged, shaped} {
				wantAdd(t, s, l, n, r, nil, want)
			}
		}
	})
}

func TestBest(t *testing.T) {
	eachSide(func(s int) {
		wantBest(t, s, stairs(s, 1), top, api.OK)
		wantBest(t, s, stairs(s, 60), top, api.OK)
		wantBest(t, s, flat(s, 60), top, api.OK)
		for _, p := range []int{1, 2, 9999, 10000} {
			wantBest(t, s, []api.Level{level(p, 1)}, p, api.OK)
		}
	})
	wantBest(t, api.Buy, []api.Level{level(102, 1), level(99, 2), level(98, 3)}, 102, api.OK)
	wantBest(t, api.Sell, []api.Level{level(98, 1), level(99, 2), level(102, 3)}, 98, api.OK)
}

func TestBestOfNone(t *testing.T) {
	eachSide(func(s int) {
		wantBest(t, s, nil, 0, api.ErrNone)
		wantBest(t, s, []api.Level{}, 0, api.ErrNone)
		wantBest(t, s, stairs(s, 1)[:0], 0, api.ErrNone)
	})
}

func TestDepth(t *testing.T) {
	l := []api.Level{
		{Price: 102, Rests: []api.Rest{{Id: 1, Who: 1, Qty: 5}, {Id: 2, Who: 2, Qty: 3, Hidden: 100, Show: 4}}},
		{Price: 99, Rests: []api.Rest{{Id: 3, Who: 1, Qty: 1, Hidden: 10000, Show: 1}}},
		{Price: 98, Rests: []api.Rest{{Id: 4, Who: 1, Qty: 10000}, {Id: 5, Who: 1, Qty: 10000}, {Id: 6, Who: 1, Qty: 7, Show: 9}}},
	}
	want := [][2]int{{102, 8}, {99, 1}, {98, 20007}}
	for n := 0; n <= 3; n++ {
		wantDepth(t, api.Buy, l, n, want[:n], api.OK)
	}
	for _, n := range []int{4, 60, 1 << 32, math.MaxInt} {
		wantDepth(t, api.Buy, l, n, want, api.OK)
	}
	slices.Reverse(l)
	slices.Reverse(want)
	for n := 0; n <= 3; n++ {
		wantDepth(t, api.Sell, l, n, want[:n], api.OK)
	}
}

func TestDepthOfMuch(t *testing.T) {
	eachSide(func(s int) {
		l := stairs(s, 60)
		for i := range l[0].Rests {
			l[0].Rests[i].Qty, l[0].Rests[i].Hidden, l[0].Rests[i].Show = 10000, 10000, 10000
		}
		wantDepth(t, s, l, 1, [][2]int{{top, 600000}}, api.OK)
		var want [][2]int
		for i := range 60 {
			want = append(want, [2]int{behind(s, top, 2*i), 3})
		}
		for n := range 62 {
			wantDepth(t, s, flat(s, 60), n, want[:min(n, 60)], api.OK)
		}
	})
}

func TestDepthOfNothing(t *testing.T) {
	eachSide(func(s int) {
		for _, n := range []int{0, 1, math.MaxInt} {
			wantDepth(t, s, nil, n, nil, api.OK)
			wantDepth(t, s, []api.Level{}, n, nil, api.OK)
		}
	})
}

func TestDepthBelowNothing(t *testing.T) {
	eachSide(func(s int) {
		for _, n := range []int{math.MinInt, math.MinInt + 1, -1<<32 + 1, -2, -1} {
			wantDepth(t, s, nil, n, nil, api.ErrRange)
			wantDepth(t, s, flat(s, 3), n, nil, api.ErrRange)
		}
	})
}

func TestAddToNothing(t *testing.T) {
	eachSide(func(s int) {
		for _, p := range []int{1, 2, 9999, 10000} {
			wantAdd(t, s, nil, p, rest(7), []api.Level{level(p, 7)}, api.OK)
			wantAdd(t, s, []api.Level{}, p, rest(7), []api.Level{level(p, 7)}, api.OK)
		}
	})
}

func TestAddAtTheEndOfALevel(t *testing.T) {
	eachSide(func(s int) {
		l := stairs(s, 2, 1, 3)
		for at := range l {
			want := copied(l)
			want[at].Rests = append(want[at].Rests, rest(30))
			wantAdd(t, s, l, l[at].Price, rest(30), want, api.OK)
		}
	})
}

func TestAddALevel(t *testing.T) {
	eachSide(func(s int) {
		for _, levels := range []int{1, 2, 5, 59} {
			l := flat(s, levels)
			for at := range levels + 1 {
				// Prices are two apart: there is one between, one ahead of all, one behind all.
				price := behind(s, top, 2*at-1)
				want := slices.Concat(l[:at], []api.Level{level(price, 9000)}, l[at:])
				wantAdd(t, s, l, price, rest(9000), want, api.OK)
			}
		}
	})
}

func TestAddAtTheEndsOfAllPrices(t *testing.T) {
	mid, low, high := level(50, 1), level(1, 7), level(10000, 7)
	wantAdd(t, api.Buy, []api.Level{mid}, 1, rest(7), []api.Level{mid, low}, api.OK)
	wantAdd(t, api.Buy, []api.Level{mid}, 10000, rest(7), []api.Level{high, mid}, api.OK)
	wantAdd(t, api.Sell, []api.Level{mid}, 1, rest(7), []api.Level{low, mid}, api.OK)
	wantAdd(t, api.Sell, []api.Level{mid}, 10000, rest(7), []api.Level{mid, high}, api.OK)
}

func TestAddPrice(t *testing.T) {
	eachSide(func(s int) {
		for _, p := range []int{math.MinInt, -1, 0, 10001, 1<<32 + top, math.MaxInt} {
			for _, l := range [][]api.Level{nil, flat(s, 3), flat(s, 60)} {
				// The price is told ahead of all that is wrong with the Rest, and of no room.
				for _, r := range []api.Rest{rest(9000), rest(1), ranged, shaped} {
					wantAdd(t, s, l, p, r, nil, api.ErrRange)
				}
			}
		}
	})
}

func TestAddTellsARestsErrors(t *testing.T) {
	bad := []struct {
		r    api.Rest
		want api.Errno
	}{
		{api.Rest{}, api.ErrRange}, {ranged, api.ErrRange}, {shaped, api.ErrShape},
		{api.Rest{Id: 0, Who: 1, Qty: 1}, api.ErrRange}, {api.Rest{Id: 10000, Who: 1, Qty: 1}, api.ErrRange},
		{api.Rest{Id: 1, Who: 10, Qty: 1}, api.ErrRange}, {api.Rest{Id: 1, Who: 1, Qty: 0}, api.ErrRange},
		{api.Rest{Id: 1, Who: 1, Qty: 10001}, api.ErrRange}, {api.Rest{Id: 1, Who: 1, Qty: 1, Hidden: -1}, api.ErrRange},
		{api.Rest{Id: 1, Who: 1, Qty: 1, Hidden: 10001, Show: 1}, api.ErrRange}, {api.Rest{Id: 1, Who: 1, Qty: 1, Show: -1}, api.ErrRange},
		{api.Rest{Id: 1, Who: 1, Qty: 1, Show: 10001}, api.ErrRange}, {api.Rest{Id: 1, Who: 1, Qty: 2, Show: 1}, api.ErrShape},
		{api.Rest{Id: 1, Who: 1, Qty: 2, Hidden: 3}, api.ErrShape},
	}
	eachSide(func(s int) {
		for _, b := range bad {
			// In a row of 60 its Id, if it is one, is there, and there is no room: its own fault is told first.
			for _, l := range [][]api.Level{nil, stairs(s, 3, 4), stairs(s, 60), flat(s, 60)} {
				wantAdd(t, s, l, top, b.r, nil, b.want)
			}
		}
	})
}

func TestAddClash(t *testing.T) {
	eachSide(func(s int) {
		for _, counts := range [][]int{{1}, {2, 1, 3}, {60}, {30, 30}, {29, 30}} {
			l := stairs(s, counts...)
			for _, v := range l {
				for _, r := range v.Rests {
					wantAdd(t, s, l, v.Price, api.Rest{Id: r.Id, Who: 9, Qty: 1}, nil, api.ErrClash)
					wantAdd(t, s, l, 1, rest(r.Id), nil, api.ErrClash)
					wantAdd(t, s, l, 10000, rest(r.Id), nil, api.ErrClash)
				}
			}
		}
	})
}

func TestAddNearFull(t *testing.T) {
	eachSide(func(s int) {
		for _, full := range [][]api.Level{stairs(s, 60), stairs(s, 1, 59), stairs(s, 30, 30), flat(s, 60)} {
			for _, price := range []int{1, top, 10000} {
				wantAdd(t, s, full, price, rest(9000), nil, api.ErrFull)
			}
		}
		near := stairs(s, 29, 30)
		want := copied(near)
		want[1].Rests = append(want[1].Rests, rest(9000))
		wantAdd(t, s, near, near[1].Price, rest(9000), want, api.OK)
		wantAdd(t, s, want, near[1].Price, rest(9001), nil, api.ErrFull)
	})
}

// TestAddAllOrders adds Rests in all orders of prices: what comes of it is a side, who came first ahead at each price.
func TestAddAllOrders(t *testing.T) {
	eachSide(func(s int) {
		for code := range 5 * 5 * 5 * 5 * 5 {
			var l []api.Level
			var ids [6][]int // by price
			for id := 1; id <= 5; id++ {
				price := code%5 + 1
				code /= 5
				got, err := side.Add(s, l, price, rest(id))
				if err != nil {
					t.Fatal(s, l, price, err)
				}
				l, ids[price] = got, append(ids[price], id)
			}
			if want := laid(s, ids); !same(l, want) || side.Check(s, l) != nil {
				t.Errorf("%d: got %v, want %v", s, l, want)
			}
		}
	})
}

// laid gives the side that has the Ids of each price.
func laid(s int, ids [6][]int) (l []api.Level) {
	for price, at := range ids {
		if len(at) > 0 {
			l = append(l, level(price, at...))
		}
	}
	if s == api.Buy {
		slices.Reverse(l)
	}
	return l
}

func TestDropAndFindEveryRest(t *testing.T) {
	eachSide(func(s int) {
		for _, l := range [][]api.Level{stairs(s, 1), stairs(s, 3), stairs(s, 2, 1, 3), stairs(s, 60), flat(s, 60), stairs(s, 1, 59)} {
			for at, v := range l {
				for which, r := range v.Rests {
					want := changed(l, at, api.Level{Price: v.Price, Rests: slices.Delete(slices.Clone(v.Rests), which, which+1)})
					if len(v.Rests) == 1 {
						want = slices.Concat(l[:at], l[at+1:])
					}
					wantDrop(t, s, l, r.Id, want, r, v.Price, api.OK)
					wantFind(t, s, l, r.Id, at, which, api.OK)
				}
			}
		}
	})
}

// The Rest comes out whole, whatever Ids stand about it.
func TestDropTellsTheRest(t *testing.T) {
	a, b := api.Rest{Id: 9999, Who: 9, Qty: 10000, Hidden: 10000, Show: 10000}, api.Rest{Id: 1, Who: 1, Qty: 1}
	l := []api.Level{{Price: 10000, Rests: []api.Rest{a}}, {Price: 1, Rests: []api.Rest{b}}}
	wantDrop(t, api.Buy, l, 9999, l[1:], a, 10000, api.OK)
	wantDrop(t, api.Buy, l, 1, l[:1], b, 1, api.OK)
	wantFind(t, api.Buy, l, 9999, 0, 0, api.OK)
	wantFind(t, api.Buy, l, 1, 1, 0, api.OK)
}

func TestDropAndFindNone(t *testing.T) {
	eachSide(func(s int) {
		for _, id := range []int{math.MinInt, -1, 0, 7, 9999, 10000, 1<<32 + 1, math.MaxInt} {
			for _, l := range [][]api.Level{nil, {}, stairs(s, 6), flat(s, 6), stairs(s, 2, 1, 3)} {
				wantDrop(t, s, l, id, nil, api.Rest{}, 0, api.ErrNone)
				wantFind(t, s, l, id, 0, 0, api.ErrNone)
			}
		}
	})
}

// What is added is there, and dropping it gives back what was.
func TestDropUndoesAdd(t *testing.T) {
	eachSide(func(s int) {
		for _, l := range [][]api.Level{nil, stairs(s, 2, 1, 3), flat(s, 59), stairs(s, 59)} {
			for price := top - 8; price <= top+8; price++ {
				more, err := side.Add(s, l, price, rest(9000))
				if err != nil {
					t.Fatal(err)
				}
				wantDrop(t, s, more, 9000, l, rest(9000), price, api.OK)
			}
		}
	})
}

// Fresh copies whatever there is, and asks nothing of it.
func TestFresh(t *testing.T) {
	for _, l := range [][]api.Level{nil, {}, {{}}, stairs(api.Buy, 2, 1, 3), flat(api.Sell, 61), {level(0, 1, 1), level(-1)}} {
		if got := side.Fresh(l); !same(got, l) {
			t.Errorf("Fresh(%v): got %v", l, got)
		}
	}
}

func ExampleAdd() {
	l, err := side.Add(api.Buy, nil, 98, api.Rest{Id: 7, Who: 3, Qty: 5})
	l, err = side.Add(api.Buy, l, 101, api.Rest{Id: 8, Who: 1, Qty: 2})
	l, err = side.Add(api.Buy, l, 98, api.Rest{Id: 9, Who: 2, Qty: 4, Hidden: 6, Show: 4})
	fmt.Println(l, err)
	fmt.Println(side.Best(api.Buy, l))
	fmt.Println(side.Depth(api.Buy, l, 2))
	fmt.Println(side.Find(api.Buy, l, 9))
	fmt.Println(side.Drop(api.Buy, l, 8))
	// Output:
	// [{101 [{8 1 2 0 0}]} {98 [{7 3 5 0 0} {9 2 4 6 4}]}] <nil>
	// 101 <nil>
	// [[101 2] [98 9]] <nil>
	// 1 1 <nil>
	// [{98 [{7 3 5 0 0} {9 2 4 6 4}]}] {8 1 2 0 0} 101 <nil>
}
