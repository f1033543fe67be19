package tape_test

import (
	"math"
	"slices"
	"testing"

	"pitfloor/api"
	"pitfloor/tape"
)

// The rules that hold everywhere (P1 to P4 of the document), asked of package tape.

// No list that is handed in is written into, nor read or written behind its length.
func TestWhatIsHandedInStaysAsItWas(t *testing.T) {
	l := append(each(), rested(9, 4, 98), traded(9, 2, 98, 1), api.Event{}, rested(2, 3, 97), traded(0, 0, 0, 0))
	was := slices.Clone(l)
	for length := range l {
		clipped := ask(slices.Clip(slices.Clone(l[:length])))
		if got := ask(l[:length]); !same(got, clipped) {
			t.Errorf("%v: got %v, want %v", l[:length], got, clipped)
		}
		if !slices.Equal(l, was) {
			t.Fatalf("%v is now %v", was, l)
		}
	}
}

// What comes out is the caller's: that it is written into is not seen by a later call.
func TestABookIsFresh(t *testing.T) {
	l := told(rested(7, 5, 99), rested(3, 2, 98))
	first, err := tape.Book(l)
	if err != nil {
		t.Fatal(err)
	}
	for i := range first[:cap(first)] {
		first[:cap(first)][i] = [3]int{-1, -1, -1}
	}
	wantBook(t, l, [3]int{3, 2, 98}, [3]int{7, 5, 99})
}

// ends of numbers, next to all bounds.
var ends = []int{
	math.MinInt, math.MinInt + 1, -1 << 32, -1, 0, 1, 2, 3, 4, 5, 6, 8, 9, 10, 9999, 10000, 10001, 1<<32 + 1, math.MaxInt - 1, math.MaxInt,
}

// wellFormed is an answer in which nothing stands beside an error, and all calls tell the same one.
func wellFormed(a answer) bool {
	if e := a.errs[0]; e != api.OK {
		return (e == api.ErrRange || e == api.ErrFull) && same(a, refused(e))
	}
	return a.errs == [5]api.Errno{} && a.qty >= a.trades && (a.trades > 0) == (a.last > 0)
}

// eachOdd goes over events whose fields are two numbers of any kind.
func eachOdd(a, b int, do func(e api.Event)) {
	for _, e := range each() {
		for number := range bounds {
			odd := e
			*field(&odd, number) = a
			*field(&odd, (number+1)%len(bounds)) = b
			do(odd)
		}
		e.What, e.Id = a, b
		do(e)
	}
}

func TestNoCallPanicsAndAnswersHangOnArgumentsAlone(t *testing.T) {
	for _, a := range ends {
		for _, b := range ends {
			eachOdd(a, b, func(e api.Event) {
				l := told(rested(7, 9, 98), e, traded(7, 1, 98, 2), e)
				first := ask(l)
				ask(told(e))
				if again := ask(l); !same(again, first) || !wellFormed(first) {
					t.Errorf("%v: first %v, then %v", l, first, again)
				}
			})
		}
	}
}
