package book_test

import (
	"slices"
	"testing"

	"pitfloor/api"
	"pitfloor/book"
	"pitfloor/plain"
	"pitfloor/side"
)

// B1: Check.

func wantCheck(t *testing.T, b api.Book, want api.Errno) {
	t.Helper()
	if got := plain.Told(book.Check(b)); got != want {
		t.Errorf("Check(%v): got %v, want %v", b, got, want)
	}
}

func TestCheckTakesGoodBooks(t *testing.T) {
	wantCheck(t, api.Book{}, api.OK)
	wantCheck(t, api.Book{Buys: []api.Level{}, Sells: []api.Level{}}, api.OK)
	shapes := [][]int{nil, {1}, {2}, {30}, {1, 1}, {3, 1, 4, 1, 5}, slices.Repeat([]int{1}, 30)}
	for _, buys := range shapes {
		for _, sells := range shapes {
			wantCheck(t, made(buys, sells), api.OK)
		}
	}
}

func TestCheckTellsASidesFault(t *testing.T) {
	good := made([]int{1, 2, 1}, []int{2, 1, 1})
	eachSide(func(s int) {
		for at, v := range levels(good, s) {
			for _, f := range faults(v.Price) {
				wantCheck(t, changed(good, s, at, f.level), f.want)
				wantCheck(t, with(api.Book{}, s, []api.Level{f.level}), f.want)
			}
		}
		// Levels of the other side's order, a Level twice, an Id twice.
		for _, l := range [][]api.Level{
			stairs(3-s, 8001, 1, 1), {level(behind(s, 0), 8001), level(behind(s, 0), 8002)}, {level(behind(s, 0), 8001), level(behind(s, 1), 8001)},
		} {
			wantCheck(t, with(good, s, l), api.ErrClash)
		}
	})
}

func TestCheckTellsBuysFirst(t *testing.T) {
	good := made([]int{1, 2}, []int{2, 1})
	for _, a := range faults(behind(api.Buy, 2)) {
		for _, b := range faults(behind(api.Sell, 0)) {
			wantCheck(t, changed(changed(good, api.Buy, 1, a.level), api.Sell, 0, b.level), a.want)
		}
	}
	// Of Buys, what is told last of a side is told ahead of what is told first of Sells.
	twice := []api.Level{level(bid, 1), level(bid-1, 1)}
	for _, b := range faults(ask) {
		wantCheck(t, api.Book{Buys: twice, Sells: []api.Level{b.level}}, api.ErrClash)
		wantCheck(t, api.Book{Buys: stairs(api.Buy, 1, 60, 1), Sells: []api.Level{b.level}}, api.ErrFull)
	}
}

func TestCheckCross(t *testing.T) {
	for _, buy := range []int{1, 2, 50, 51, 52, 9999, 10000} {
		for _, sell := range []int{1, 2, 50, 51, 52, 9999, 10000} {
			want := api.ErrCross
			if buy < sell {
				want = api.OK
			}
			wantCheck(t, api.Book{Buys: []api.Level{level(buy, 1)}, Sells: []api.Level{level(sell, 2)}}, want)
		}
	}
	// The best alone is asked: what stands behind it is behind.
	wantCheck(t, api.Book{Buys: []api.Level{level(51, 1), level(1, 2)}, Sells: []api.Level{level(51, 3), level(100, 4)}}, api.ErrCross)
	wantCheck(t, api.Book{Buys: []api.Level{level(50, 1), level(1, 2)}, Sells: []api.Level{level(51, 3), level(100, 4)}}, api.OK)
}

// A side without Levels meets nobody, at whatever price the other one stands.
func TestCheckOneSideAlone(t *testing.T) {
	eachSide(func(s int) {
		for _, price := range []int{1, 5000, 10000} {
			wantCheck(t, with(api.Book{}, s, []api.Level{level(price, 1)}), api.OK)
		}
	})
}

func TestCheckAnIdOnBothSides(t *testing.T) {
	good := made([]int{1, 2, 1}, []int{2, 1})
	for _, buy := range good.Buys {
		for _, r := range buy.Rests {
			for at, sell := range good.Sells {
				for which := range sell.Rests {
					b := copied(good)
					b.Sells[at].Rests[which].Id = r.Id
					wantCheck(t, b, api.ErrClash)
				}
			}
		}
	}
}

// Nothing but the Id tells one from another.
func TestCheckOneTraderMayRestOnBothSides(t *testing.T) {
	a, b := rest(1), rest(1)
	b.Id = 2
	wantCheck(t, api.Book{Buys: []api.Level{{Price: 1, Rests: []api.Rest{a}}}, Sells: []api.Level{{Price: 2, Rests: []api.Rest{b}}}}, api.OK)
}

func TestCheckFull(t *testing.T) {
	for buys := 0; buys <= 60; buys++ {
		wantCheck(t, made(flat(buys), flat(60-buys)), api.OK)
		if buys > 0 {
			wantCheck(t, made(flat(buys), flat(61-buys)), api.ErrFull)
			wantCheck(t, made([]int{buys}, []int{61 - buys}), api.ErrFull)
		}
	}
	wantCheck(t, made([]int{60}, nil), api.OK)
	wantCheck(t, made(nil, []int{60}), api.OK)
	wantCheck(t, made([]int{60}, []int{60}), api.ErrFull)
}

// flat counts are so many Levels of a Rest each.
func flat(levels int) []int { return slices.Repeat([]int{1}, levels) }

func TestCheckOrderOfWhatIsWrongInAll(t *testing.T) {
	sixty := stairs(api.Buy, 1, 60)
	wantCheck(t, api.Book{Buys: sixty, Sells: []api.Level{level(bid, 1)}}, api.ErrCross)
	wantCheck(t, api.Book{Buys: sixty, Sells: []api.Level{level(bid, 99)}}, api.ErrCross)
	wantCheck(t, api.Book{Buys: sixty, Sells: []api.Level{level(ask, 60)}}, api.ErrClash)
	wantCheck(t, api.Book{Buys: sixty, Sells: []api.Level{level(ask, 99)}}, api.ErrFull)
	wantCheck(t, api.Book{Buys: sixty[:1], Sells: []api.Level{{Price: bid, Rests: []api.Rest{ranged}}}}, api.ErrRange)
	wantCheck(t, api.Book{Buys: sixty, Sells: stairs(api.Buy, 1, 1, 1)}, api.ErrClash)
	wantCheck(t, api.Book{Buys: []api.Level{level(bid, 1)}, Sells: []api.Level{level(bid, 1)}}, api.ErrCross)
}

// TestCheckEverywhere holds Check against the promise's words, of all pairs of small sides, and of such with much beside.
func TestCheckEverywhere(t *testing.T) {
	kinds := []api.Level{
		level(50, 1), level(50, 2), level(51, 2), level(51, 3), level(52, 3, 1), level(49, 4), level(50), level(0, 1), {Price: 51, Rests: []api.Rest{shaped}},
	}
	sides := [][]api.Level{nil}
	for _, a := range kinds {
		sides = append(sides, []api.Level{a})
		for _, b := range kinds {
			sides = append(sides, []api.Level{a, b})
		}
	}
	for _, buys := range sides {
		for _, sells := range sides {
			wantSpoken(t, api.Book{Buys: buys, Sells: sells})
			wantSpoken(t, api.Book{Buys: slices.Concat(buys, []api.Level{level(1, row(500, 57)...)}), Sells: sells})
			wantSpoken(t, api.Book{Buys: buys, Sells: slices.Concat(sells, []api.Level{level(99, row(500, 58)...)})})
		}
	}
}

func wantSpoken(t *testing.T, b api.Book) {
	t.Helper()
	wantCheck(t, b, spoken(b))
}

// spoken is what B1 says of a book, word by word.
func spoken(b api.Book) api.Errno {
	for s, l := range [][]api.Level{b.Buys, b.Sells} {
		if err := side.Check(s+1, l); err != nil {
			return plain.Told(err)
		}
	}
	if len(b.Buys) > 0 && len(b.Sells) > 0 && !(b.Buys[0].Price < b.Sells[0].Price) {
		return api.ErrCross
	}
	count := 0
	for _, v := range b.Buys {
		for _, r := range v.Rests {
			if _, _, err := side.Find(api.Sell, b.Sells, r.Id); err == nil {
				return api.ErrClash
			}
		}
		count += len(v.Rests)
	}
	for _, v := range b.Sells {
		count += len(v.Rests)
	}
	if count > 60 {
		return api.ErrFull
	}
	return api.OK
}
