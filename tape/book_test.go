package tape_test

import (
	"slices"
	"testing"

	"pitfloor/api"
)

// T1 of chapter 15: what rests by what was told.

func TestWhatRestedIsThere(t *testing.T) {
	wantBook(t, told(rested(7, 5, 99)), [3]int{7, 5, 99})
	wantBook(t, told(rested(9999, 10000, 10000), rested(1, 1, 0)), [3]int{1, 1, 0}, [3]int{9999, 10000, 10000})
}

func TestTheBookGoesById(t *testing.T) {
	ids := []int{30, 4, 9999, 100, 1, 31, 12, 2, 9, 1000}
	var l []api.Event
	for i, id := range ids {
		l = append(l, rested(id, i+1, 100-i))
	}
	want := [][3]int{{1, 5, 96}, {2, 8, 93}, {4, 2, 99}, {9, 9, 92}, {12, 7, 94}, {30, 1, 100}, {31, 6, 95}, {100, 4, 97}, {1000, 10, 91}, {9999, 3, 98}}
	wantBook(t, l, want...)
	slices.Reverse(l)
	wantBook(t, l, want...)
}

// As many as may be told, far more than rest in a book at a time.
func TestABookOfAllThatMayBeTold(t *testing.T) {
	var l []api.Event
	var want [][3]int
	for id := 400; id >= 1; id-- {
		l = append(l, rested(id, id+1, id+2))
	}
	for id := 1; id <= 400; id++ {
		want = append(want, [3]int{id, id + 1, id + 2})
	}
	wantBook(t, l, want...)
}

// Rested sets how much there is, be it more or less than there was, and the price.
func TestRestedAnew(t *testing.T) {
	wantBook(t, told(rested(7, 5, 99), rested(7, 2, 98)), [3]int{7, 2, 98})
	wantBook(t, told(rested(7, 5, 99), rested(7, 8, 100)), [3]int{7, 8, 100})
	wantBook(t, told(rested(7, 5, 99), gone(7, 5, 99), rested(7, 6, 101)), [3]int{7, 6, 101})
	wantBook(t, told(rested(7, 5, 99), traded(7, 8, 99, 5), rested(7, 3, 97)), [3]int{7, 3, 97})
	wantBook(t, told(rested(7, 5, 99), traded(7, 8, 99, 2), rested(7, 5, 97), traded(7, 8, 97, 1)), [3]int{7, 4, 97})
}

func TestOfWhatRestedWithNothingThereIsNone(t *testing.T) {
	wantBook(t, told(rested(7, 0, 99)))
	wantBook(t, told(rested(7, 5, 99), rested(7, 0, 99)))
	wantBook(t, told(rested(7, 0, 99), rested(7, 5, 98)), [3]int{7, 5, 98})
}

// What traded is taken from who rested, at the price at which that rested.
func TestTradedTakesFromTheMaker(t *testing.T) {
	wantBook(t, told(rested(7, 5, 99), traded(7, 8, 42, 2)), [3]int{7, 3, 99})
	wantBook(t, told(rested(7, 5, 99), traded(7, 8, 99, 2), traded(7, 9, 99, 2)), [3]int{7, 1, 99})
	wantBook(t, told(rested(7, 5, 99), traded(7, 8, 99, 5)))
	wantBook(t, told(rested(7, 5, 99), rested(8, 5, 99), traded(7, 8, 99, 2)), [3]int{7, 3, 99}, [3]int{8, 5, 99})
	wantBook(t, told(rested(8, 5, 99), traded(7, 8, 99, 5)), [3]int{8, 5, 99})
}

func TestBelowNothingIsNothing(t *testing.T) {
	wantBook(t, told(rested(7, 5, 99), traded(7, 8, 99, 6)))
	wantBook(t, told(rested(7, 5, 99), traded(7, 8, 99, 10000), rested(7, 4, 98)), [3]int{7, 4, 98})
	wantBook(t, told(traded(7, 8, 99, 6)))
	wantBook(t, told(traded(7, 8, 99, 6), rested(7, 5, 98)), [3]int{7, 5, 98})
	wantBook(t, told(rested(7, 1, 99), traded(7, 8, 99, 3), traded(7, 8, 99, 3), rested(7, 5, 98), traded(7, 8, 98, 4)), [3]int{7, 1, 98})
}

// Gone of an Id leaves nothing of it, however much is told to be gone.
func TestGoneLeavesNothing(t *testing.T) {
	for _, qty := range []int{0, 1, 4, 5, 6, 10000} {
		wantBook(t, told(rested(7, 5, 99), gone(7, qty, 99)))
		wantBook(t, told(rested(7, 5, 99), rested(8, 2, 98), gone(7, qty, 1)), [3]int{8, 2, 98})
	}
	wantBook(t, told(gone(7, 5, 99)))
	wantBook(t, told(gone(7, 5, 99), rested(7, 5, 99)), [3]int{7, 5, 99})
}

func TestWhoWaitsAndWakesDoesNotRest(t *testing.T) {
	wantBook(t, told(sleeping(7, 5, 99), woken(8, 5, 99)))
	wantBook(t, told(rested(7, 5, 99), sleeping(7, 3, 98), woken(7, 2, 97)), [3]int{7, 5, 99})
}

// What stands in the fields of Traded beside its Trade tells nothing.
func TestTheIdBesideATradeTellsNothing(t *testing.T) {
	e := traded(7, 8, 99, 2)
	e.Id, e.Qty, e.Price = 9, 3, 50
	wantBook(t, told(rested(7, 5, 99), rested(9, 5, 98), e), [3]int{7, 3, 99}, [3]int{9, 5, 98})
	wantVolume(t, told(e), 2, 1)
	wantLast(t, told(e), 99)
	wantText(t, told(e), "traded 7 8 2 99\n")
}

func TestATradeBesideOthersTellsNothing(t *testing.T) {
	for _, e := range others() {
		e.Trade = api.Trade{Maker: 5, Taker: 7, From: 1, To: 2, Price: 42, Qty: 3}
		bare := e
		bare.Trade = api.Trade{}
		if got, want := ask(told(rested(5, 9, 50), e)), ask(told(rested(5, 9, 50), bare)); !same(got, want) {
			t.Errorf("%+v: got %v, want %v", e, got, want)
		}
	}
}
