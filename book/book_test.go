package book_test

import (
	"fmt"
	"math"
	"slices"
	"testing"

	"pitfloor/api"
	"pitfloor/book"
	"pitfloor/plain"
	"pitfloor/side"
)

// B1: Top, Put, Cancel, Find and Count.

func wantTop(t *testing.T, b api.Book, wantBuy, wantSell int, wantErr api.Errno) {
	t.Helper()
	buy, sell, err := book.Top(b)
	if buy != wantBuy || sell != wantSell || plain.Told(err) != wantErr {
		t.Errorf("Top(%v): got %d %d %v, want %d %d %v", b, buy, sell, err, wantBuy, wantSell, wantErr)
	}
}

func wantPut(t *testing.T, b api.Book, s, price int, r api.Rest, want api.Book, wantErr api.Errno) {
	t.Helper()
	got, err := book.Put(b, s, price, r)
	if !same(got, want) || plain.Told(err) != wantErr {
		t.Errorf("Put(%v, %d, %d, %v): got %v %v, want %v %v", b, s, price, r, got, err, want, wantErr)
	}
}

func wantCancel(t *testing.T, b api.Book, id int, want api.Book, wantRest api.Rest, wantErr api.Errno) {
	t.Helper()
	got, r, err := book.Cancel(b, id)
	if !same(got, want) || r != wantRest || plain.Told(err) != wantErr {
		t.Errorf("Cancel(%v, %d): got %v %v %v, want %v %v %v", b, id, got, r, err, want, wantRest, wantErr)
	}
}

func wantFind(t *testing.T, b api.Book, id, wantSide, wantPrice int, wantRest api.Rest, wantErr api.Errno) {
	t.Helper()
	s, price, r, err := book.Find(b, id)
	if s != wantSide || price != wantPrice || r != wantRest || plain.Told(err) != wantErr {
		t.Errorf("Find(%v, %d): got %d %d %v %v, want %d %d %v %v", b, id, s, price, r, err, wantSide, wantPrice, wantRest, wantErr)
	}
}

func wantCount(t *testing.T, b api.Book, want int, wantErr api.Errno) {
	t.Helper()
	got, err := book.Count(b)
	if got != want || plain.Told(err) != wantErr {
		t.Errorf("Count(%v): got %d %v, want %d %v", b, got, err, want, wantErr)
	}
}

func TestEveryCallTellsCheckFirst(t *testing.T) {
	numbers := []int{math.MinInt, -1, 0, 1, 2, 3, bid, ask, firstSell, math.MaxInt}
	eachBadBook(func(b api.Book, want api.Errno) {
		wantCheck(t, b, want)
		wantTop(t, b, 0, 0, want)
		wantCount(t, b, 0, want)
		wantPrint(t, b, "", want)
		for _, n := range numbers {
			wantCancel(t, b, n, api.Book{}, api.Rest{}, want)
			wantFind(t, b, n, 0, 0, api.Rest{}, want)
			for _, r := range []api.Rest{rest(1), rest(9000), ranged, shaped} {
				wantPut(t, b, n, bid, r, api.Book{}, want)
				wantPut(t, b, api.Sell, n, r, api.Book{}, want)
			}
		}
	})
}

func TestTop(t *testing.T) {
	wantTop(t, api.Book{}, 0, 0, api.OK)
	wantTop(t, api.Book{Buys: []api.Level{}, Sells: stairs(api.Sell, 1, 1)[:0]}, 0, 0, api.OK)
	wantTop(t, made([]int{1, 2}, nil), bid, 0, api.OK)
	wantTop(t, made(nil, []int{3, 1}), 0, ask, api.OK)
	wantTop(t, made([]int{2, 1}, []int{1, 1, 1}), bid, ask, api.OK)
	wantTop(t, made(flat(30), flat(30)), bid, ask, api.OK)
	wantTop(t, api.Book{Buys: []api.Level{level(1, 1)}, Sells: []api.Level{level(2, 2)}}, 1, 2, api.OK)
	wantTop(t, api.Book{Buys: []api.Level{level(9999, 1)}, Sells: []api.Level{level(10000, 2)}}, 9999, 10000, api.OK)
}

func TestCount(t *testing.T) {
	wantCount(t, api.Book{}, 0, api.OK)
	wantCount(t, made([]int{2, 1, 3}, nil), 6, api.OK)
	wantCount(t, made(nil, []int{2, 5}), 7, api.OK)
	wantCount(t, made([]int{2, 1, 3}, []int{4, 1}), 11, api.OK)
	wantCount(t, made([]int{59}, []int{1}), 60, api.OK)
	wantCount(t, made(flat(30), flat(30)), 60, api.OK)
}

// Put is Add on its side, wherever it does not meet the other one.
func TestPutIsAdd(t *testing.T) {
	for _, b := range []api.Book{{}, made([]int{2, 1}, nil), made(nil, []int{1, 3}), made([]int{2, 1, 3}, []int{1, 2}), made([]int{29}, []int{30})} {
		eachSide(func(s int) {
			for by := -3; by <= 8; by++ {
				price := behind(s, by)
				l, err := side.Add(s, levels(b, s), price, rest(9000))
				if err != nil {
					t.Fatal(err)
				}
				wantPut(t, b, s, price, rest(9000), with(b, s, l), api.OK)
			}
		})
	}
}

func TestPutIntoNothing(t *testing.T) {
	for _, p := range []int{1, 2, 5000, 9999, 10000} {
		wantPut(t, api.Book{}, api.Buy, p, rest(7), api.Book{Buys: []api.Level{level(p, 7)}}, api.OK)
		wantPut(t, api.Book{}, api.Sell, p, rest(7), api.Book{Sells: []api.Level{level(p, 7)}}, api.OK)
	}
}

func TestPutSide(t *testing.T) {
	for _, s := range []int{math.MinInt, -2, -1, 0, 3, 4, 1<<32 + 1, math.MaxInt} {
		for _, b := range []api.Book{{}, made([]int{2, 1}, []int{1}), made([]int{30}, []int{30})} {
			for _, r := range []api.Rest{rest(9000), rest(1), rest(firstSell), ranged, shaped} {
				for _, price := range []int{0, 1, bid, ask, 10000, 10001} {
					wantPut(t, b, s, price, r, api.Book{}, api.ErrRange)
				}
			}
		}
	}
}

func TestPutTellsAddsErrors(t *testing.T) {
	// In a full book, on either side, at a price that meets the other side: Add's errors are told first.
	full := made([]int{30}, []int{30})
	eachSide(func(s int) {
		meets := behind(3-s, 0)
		for _, p := range []int{math.MinInt, -1, 0, 10001, 1<<32 + bid, math.MaxInt} {
			for _, r := range []api.Rest{rest(9000), rest(1), rest(firstSell), ranged, shaped} {
				wantPut(t, full, s, p, r, api.Book{}, api.ErrRange)
			}
		}
		wantPut(t, full, s, meets, ranged, api.Book{}, api.ErrRange)
		wantPut(t, full, s, meets, shaped, api.Book{}, api.ErrShape)
		wantPut(t, full, s, meets, api.Rest{}, api.Book{}, api.ErrRange)
		wantPut(t, full, s, meets, api.Rest{Id: 10000, Who: 1, Qty: 1}, api.Book{}, api.ErrRange)
		own := levels(full, s)[0].Rests[0]
		wantPut(t, full, s, meets, own, api.Book{}, api.ErrClash)
		wantPut(t, full, s, behind(s, 0), own, api.Book{}, api.ErrClash)
		wantPut(t, full, s, behind(s, 9), own, api.Book{}, api.ErrClash)
	})
	// A side that is full itself is told ahead of the cross, as Add does.
	wantPut(t, made([]int{60}, nil), api.Buy, bid, rest(9000), api.Book{}, api.ErrFull)
	wantPut(t, made(nil, []int{60}), api.Sell, ask, rest(9000), api.Book{}, api.ErrFull)
}

func TestPutCross(t *testing.T) {
	for _, b := range []api.Book{made([]int{1}, []int{1}), made([]int{2, 1}, []int{1, 3}), made([]int{30}, []int{30})} {
		eachSide(func(s int) {
			other := levels(b, 3-s)[0].Rests[0]
			// At the best price of the other side, and behind it there.
			for by := range 4 {
				wantPut(t, b, s, behind(3-s, by), rest(9000), api.Book{}, api.ErrCross)
				// Its Id is on the other side, too: the cross is told first.
				wantPut(t, b, s, behind(3-s, by), other, api.Book{}, api.ErrCross)
			}
		})
		wantPut(t, b, api.Buy, 10000, rest(9000), api.Book{}, api.ErrCross)
		wantPut(t, b, api.Sell, 1, rest(9000), api.Book{}, api.ErrCross)
	}
}

// Into a side that has nothing yet, a Rest may meet the other side as well.
func TestPutCrossFromAnEmptySide(t *testing.T) {
	eachSide(func(s int) {
		b := with(api.Book{}, 3-s, stairs(3-s, 1, 2, 1))
		wantPut(t, b, s, behind(3-s, 0), rest(9000), api.Book{}, api.ErrCross)
		wantPut(t, b, s, behind(3-s, -1), rest(9000), with(b, s, []api.Level{level(behind(3-s, -1), 9000)}), api.OK)
	})
}

func TestPutClashWithTheOtherSide(t *testing.T) {
	for _, b := range []api.Book{made([]int{2, 1}, []int{1, 3}), made([]int{30}, []int{30}), made([]int{1, 58}, []int{1})} {
		eachSide(func(s int) {
			for _, v := range levels(b, 3-s) {
				for _, r := range v.Rests {
					for by := -3; by <= 3; by++ {
						wantPut(t, b, s, behind(s, by), api.Rest{Id: r.Id, Who: 9, Qty: 1}, api.Book{}, api.ErrClash)
					}
				}
			}
		})
	}
}

func TestPutFull(t *testing.T) {
	for _, b := range []api.Book{made([]int{30}, []int{30}), made([]int{59}, []int{1}), made([]int{1}, []int{59}), made(flat(30), flat(30))} {
		eachSide(func(s int) {
			for by := -3; by <= 3; by++ {
				wantPut(t, b, s, behind(s, by), rest(9000), api.Book{}, api.ErrFull)
			}
		})
	}
	near := made([]int{29}, []int{30})
	want := copied(near)
	want.Buys[0].Rests = append(want.Buys[0].Rests, rest(9000))
	wantPut(t, near, api.Buy, bid, rest(9000), want, api.OK)
	// 60 on one side, nothing on the other one: the book is full, the side that is put to is not.
	eachSide(func(s int) {
		b := with(api.Book{}, s, stairs(s, 1, 60))
		wantPut(t, b, 3-s, behind(3-s, 0), rest(9000), api.Book{}, api.ErrFull)
		wantPut(t, b, 3-s, behind(3-s, 0), rest(60), api.Book{}, api.ErrClash)
		wantPut(t, b, 3-s, behind(s, 0), rest(9000), api.Book{}, api.ErrCross)
	})
}

func TestCancelAndFindEveryRest(t *testing.T) {
	for _, b := range []api.Book{
		made([]int{1}, nil), made(nil, []int{1}), made([]int{1}, []int{1}), made([]int{2, 1, 3}, []int{1, 2}), made(flat(30), flat(30)), made([]int{1, 29}, []int{29, 1}),
	} {
		eachSide(func(s int) {
			for at, v := range levels(b, s) {
				for which, r := range v.Rests {
					want := changed(b, s, at, api.Level{Price: v.Price, Rests: slices.Delete(slices.Clone(v.Rests), which, which+1)})
					if len(v.Rests) == 1 {
						want = with(b, s, slices.Delete(copiedLevels(levels(b, s)), at, at+1))
					}
					wantCancel(t, b, r.Id, want, r, api.OK)
					wantFind(t, b, r.Id, s, v.Price, r, api.OK)
				}
			}
		})
	}
}

func TestCancelTellsTheRestWhole(t *testing.T) {
	a, z := api.Rest{Id: 1, Who: 1, Qty: 1}, api.Rest{Id: 9999, Who: 9, Qty: 10000, Hidden: 10000, Show: 10000}
	b := api.Book{Buys: []api.Level{{Price: 1, Rests: []api.Rest{a}}}, Sells: []api.Level{{Price: 10000, Rests: []api.Rest{z}}}}
	wantCancel(t, b, 1, api.Book{Sells: b.Sells}, a, api.OK)
	wantCancel(t, b, 9999, api.Book{Buys: b.Buys}, z, api.OK)
	wantFind(t, b, 1, api.Buy, 1, a, api.OK)
	wantFind(t, b, 9999, api.Sell, 10000, z, api.OK)
}

func TestCancelAndFindNone(t *testing.T) {
	for _, b := range []api.Book{{}, {Buys: []api.Level{}, Sells: []api.Level{}}, made([]int{6}, nil), made(nil, []int{1, 1}), made([]int{2, 1, 3}, []int{2, 1})} {
		for _, id := range []int{math.MinInt, -1, 0, 7, 99, 103, 9999, 10000, 1<<32 + 1, math.MaxInt} {
			wantCancel(t, b, id, api.Book{}, api.Rest{}, api.ErrNone)
			wantFind(t, b, id, 0, 0, api.Rest{}, api.ErrNone)
		}
	}
}

// What is put is there, and cancelling it gives back what was.
func TestCancelUndoesPut(t *testing.T) {
	for _, b := range []api.Book{{}, made([]int{2, 1, 3}, nil), made([]int{2, 1, 3}, []int{1, 2}), made(flat(29), flat(30))} {
		eachSide(func(s int) {
			for by := -3; by <= 8; by++ {
				more, err := book.Put(b, s, behind(s, by), rest(9000))
				if err != nil {
					t.Fatal(err)
				}
				count, _ := book.Count(b)
				wantCount(t, more, count+1, api.OK)
				wantFind(t, more, 9000, s, behind(s, by), rest(9000), api.OK)
				wantCancel(t, more, 9000, b, rest(9000), api.OK)
			}
		})
	}
}

// TestPutAllOrders puts Rests on both sides in all orders of few prices: what comes of it is always a book, and what is refused would be none.
func TestPutAllOrders(t *testing.T) {
	const prices, most = 3, 5
	for code := range 7776 { // (2 sides of 3 prices) to the 5th
		var b api.Book
		for id := 1; id <= most; id++ {
			s, price := code%2+1, code/2%prices+1
			code /= 2 * prices
			l, err := side.Add(s, levels(b, s), price, rest(id))
			if err != nil {
				t.Fatal(err)
			}
			want, wantErr := with(b, s, l), spoken(with(b, s, l))
			if wantErr != api.OK {
				want = api.Book{}
			}
			wantPut(t, b, s, price, rest(id), want, wantErr)
			if wantErr == api.OK {
				b = want
			}
		}
	}
}

// Fresh copies whatever there is, and asks nothing of it.
func TestFresh(t *testing.T) {
	odd := []api.Level{level(0, 1, 1), level(-1), {}}
	for _, b := range []api.Book{{}, {Buys: odd}, {Sells: odd}, {Buys: odd, Sells: odd}, made([]int{2, 1}, []int{3}), made(flat(61), flat(60))} {
		if got := book.Fresh(b); !same(got, b) {
			t.Errorf("Fresh(%v): got %v", b, got)
		}
	}
}

func ExamplePut() {
	b, err := book.Put(api.Book{}, api.Buy, 98, api.Rest{Id: 7, Who: 3, Qty: 5})
	b, err = book.Put(b, api.Sell, 101, api.Rest{Id: 8, Who: 1, Qty: 2, Hidden: 6, Show: 2})
	fmt.Println(b, err)
	fmt.Println(book.Put(b, api.Buy, 101, api.Rest{Id: 9, Who: 2, Qty: 1}))
	fmt.Println(book.Top(b))
	fmt.Println(book.Find(b, 8))
	fmt.Println(book.Cancel(b, 7))
	fmt.Println(book.Count(b))
	// Output:
	// {[{98 [{7 3 5 0 0}]}] [{101 [{8 1 2 6 2}]}]} <nil>
	// {[] []} ErrCross
	// 98 101 <nil>
	// 2 101 {8 1 2 6 2} <nil>
	// {[] [{101 [{8 1 2 6 2}]}]} {7 3 5 0 0} <nil>
	// 2 <nil>
}
