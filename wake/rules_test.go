package wake_test

import (
	"math"
	"slices"
	"testing"

	"pitfloor/api"
	"pitfloor/wake"
)

// The rules that hold everywhere (P1 to P4 of the document), asked of package wake.

// mixed orders of both sides, of which some wake at any price.
func mixed(count int) (l []api.Order) {
	for i := range count {
		l = append(l, waiting(count-i, api.Buy+i%2, 90+i*7%20))
	}
	return l
}

// scribble over a list, and all that lies behind its length.
func scribble(l []api.Order) {
	l = l[:cap(l)]
	for i := range l {
		l[i] = api.Order{Id: -1, Side: -1, Stop: -1}
	}
}

// What comes out is the caller's: written over, it changes nothing of what waits.
func TestAnswersAreTheCallers(t *testing.T) {
	for _, count := range []int{0, 1, 2, 3, 5, 8, 19, 20} {
		for _, price := range []int{1, 95, 100, 105, 10000} {
			s, other := stopsOf(t, mixed(count)...), stopsOf(t, mixed(count)...)
			scribble(s.All())
			wantAll(t, s, mixed(count)...)
			woken, _ := s.Wake(price)
			want, _ := other.Wake(price)
			if !slices.Equal(woken, want) {
				t.Errorf("Wake(%d) of %d: got %v, want %v", price, count, woken, want)
			}
			scribble(woken)
			wantAll(t, s, other.All()...)
			wantPut(t, s, buy(500, 100), api.OK)
			scribble(woken)
			wantPut(t, other, buy(500, 100), api.OK)
			wantAll(t, s, other.All()...)
		}
	}
}

// What came out stays as it was, whatever is called later.
func TestAnswersStayAsTheyWere(t *testing.T) {
	for _, count := range []int{2, 3, 5, 8, 16, 19, 20} {
		s := stopsOf(t, mixed(count)...)
		all, again := s.All(), s.All()
		woken, _ := s.Wake(100)
		left := s.All()
		wasWoken, wasLeft := slices.Clone(woken), slices.Clone(left)
		scribble(again)
		for _, o := range wasWoken {
			s.Put(withStop(o, 50))
		}
		for _, o := range wasLeft {
			s.Drop(o.Id)
		}
		later, _ := s.Wake(50)
		scribble(later)
		if !slices.Equal(all, mixed(count)) || !slices.Equal(woken, wasWoken) || !slices.Equal(left, wasLeft) {
			t.Errorf("of %d: %v, %v, %v are others now: %v, %v, %v", count, mixed(count), wasWoken, wasLeft, all, woken, left)
		}
	}
}

func TestAllChangesNothing(t *testing.T) {
	s := stopsOf(t, mixed(9)...)
	for range 3 {
		wantAll(t, s, mixed(9)...)
	}
}

// answer of all calls, one behind the other.
type answer struct {
	put, dropErr, wakeErr error
	dropped               api.Order
}

func ask(s *wake.Stops, o api.Order, n int) (a answer, lists [][]api.Order) {
	a.put = s.Put(o)
	all := s.All()
	woken, err := s.Wake(n)
	a.wakeErr = err
	a.dropped, a.dropErr = s.Drop(n)
	return a, [][]api.Order{all, woken, s.All()}
}

func TestNoCallPanicsAndAnswersHangOnWhatWasCalledAlone(t *testing.T) {
	ends := []int{math.MinInt, math.MinInt + 1, -1, 0, 1, 2, 99, 100, 101, 10000, math.MaxInt - 1, math.MaxInt}
	for _, count := range []int{0, 1, 2, 19, 20} {
		for number := range 8 {
			for _, n := range ends {
				odd := buy(30, 100)
				*field(&odd, number) = n
				first, lists := ask(stopsOf(t, mixed(count)...), odd, n)
				ask(stopsOf(t, row(3, 100)...), sell(40, 100), 100)
				again, listsAgain := ask(stopsOf(t, mixed(count)...), odd, n)
				if again != first || !slices.EqualFunc(lists, listsAgain, slices.Equal) {
					t.Errorf("%d, %+v, %d: first %v %v, then %v %v", count, odd, n, first, lists, again, listsAgain)
				}
			}
		}
	}
}
