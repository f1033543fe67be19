package queue_test

import (
	"fmt"
	"math"
	"slices"
	"testing"

	"pitfloor/api"
	"pitfloor/plain"
	"pitfloor/queue"
)

// Q2: Take.

func fill(id, who, qty int) api.Fill { return api.Fill{Id: id, Who: who, Qty: qty} }

func wantTake(t *testing.T, l []api.Rest, n int, want []api.Fill, wantLeft []api.Rest, wantErr api.Errno) {
	t.Helper()
	got, left, err := queue.Take(l, n)
	if !slices.Equal(got, want) || !slices.Equal(left, wantLeft) || plain.Told(err) != wantErr {
		t.Errorf("Take(%v, %d): got %v %v %v, want %v %v %v", l, n, got, left, err, want, wantLeft, wantErr)
	}
}

func TestTakeOfOneThatHidesNothing(t *testing.T) {
	for _, s := range []int{0, 5, 9} {
		l := []api.Rest{rest(7, 3, 5, 0, s)}
		wantTake(t, l, 1, []api.Fill{fill(7, 3, 1)}, []api.Rest{rest(7, 3, 4, 0, s)}, api.OK)
		wantTake(t, l, 4, []api.Fill{fill(7, 3, 4)}, []api.Rest{rest(7, 3, 1, 0, s)}, api.OK)
		wantTake(t, l, 5, []api.Fill{fill(7, 3, 5)}, nil, api.OK)
		wantTake(t, l, 6, []api.Fill{fill(7, 3, 5)}, nil, api.OK)
		wantTake(t, l, 10000, []api.Fill{fill(7, 3, 5)}, nil, api.OK)
	}
}

func TestTakeFromTheFirstOn(t *testing.T) {
	a, b, c := rest(9, 1, 2, 0, 0), rest(4, 1, 3, 0, 0), rest(6, 2, 4, 0, 0)
	l := []api.Rest{a, b, c}
	wantTake(t, l, 1, []api.Fill{fill(9, 1, 1)}, []api.Rest{with(a, qty, 1), b, c}, api.OK)
	wantTake(t, l, 2, []api.Fill{fill(9, 1, 2)}, []api.Rest{b, c}, api.OK)
	wantTake(t, l, 3, []api.Fill{fill(9, 1, 2), fill(4, 1, 1)}, []api.Rest{with(b, qty, 2), c}, api.OK)
	wantTake(t, l, 5, []api.Fill{fill(9, 1, 2), fill(4, 1, 3)}, []api.Rest{c}, api.OK)
	wantTake(t, l, 8, []api.Fill{fill(9, 1, 2), fill(4, 1, 3), fill(6, 2, 3)}, []api.Rest{with(c, qty, 1)}, api.OK)
	wantTake(t, l, 9, []api.Fill{fill(9, 1, 2), fill(4, 1, 3), fill(6, 2, 4)}, nil, api.OK)
	wantTake(t, l, 10, []api.Fill{fill(9, 1, 2), fill(4, 1, 3), fill(6, 2, 4)}, nil, api.OK)
}

func TestTakeWhatIsHiddenGoesToTheEnd(t *testing.T) {
	a, b := rest(7, 3, 2, 5, 4), rest(8, 4, 3, 0, 0)
	l := []api.Rest{a, b}
	// As long as something is shown of it, it keeps its place, and nothing comes out of hiding.
	wantTake(t, l, 1, []api.Fill{fill(7, 3, 1)}, []api.Rest{rest(7, 3, 1, 5, 4), b}, api.OK)
	// Just all that is shown: Show of what is hidden is shown at once.
	wantTake(t, l, 2, []api.Fill{fill(7, 3, 2)}, []api.Rest{b, rest(7, 3, 4, 1, 4)}, api.OK)
	wantTake(t, l, 3, []api.Fill{fill(7, 3, 2), fill(8, 4, 1)}, []api.Rest{rest(8, 4, 2, 0, 0), rest(7, 3, 4, 1, 4)}, api.OK)
	wantTake(t, l, 5, []api.Fill{fill(7, 3, 2), fill(8, 4, 3)}, []api.Rest{rest(7, 3, 4, 1, 4)}, api.OK)
	wantTake(t, l, 8, []api.Fill{fill(7, 3, 2), fill(8, 4, 3), fill(7, 3, 3)}, []api.Rest{rest(7, 3, 1, 1, 4)}, api.OK)
	// At last there is less than Show.
	wantTake(t, l, 9, []api.Fill{fill(7, 3, 2), fill(8, 4, 3), fill(7, 3, 4)}, []api.Rest{rest(7, 3, 1, 0, 4)}, api.OK)
	all := []api.Fill{fill(7, 3, 2), fill(8, 4, 3), fill(7, 3, 4), fill(7, 3, 1)}
	wantTake(t, l, 10, all, nil, api.OK)
	wantTake(t, l, 11, all, nil, api.OK)
}

func TestTakeShowsAsMuchAsThereIs(t *testing.T) {
	for h := 1; h <= 6; h++ {
		shown := min(h, 4)
		wantTake(t, []api.Rest{rest(7, 3, 1, h, 4)}, 1, []api.Fill{fill(7, 3, 1)}, []api.Rest{rest(7, 3, shown, h-shown, 4)}, api.OK)
	}
}

func TestTakeAgainAndAgain(t *testing.T) {
	l := []api.Rest{rest(1, 1, 1, 3, 1), rest(2, 2, 2, 4, 2)}
	want := []api.Fill{fill(1, 1, 1), fill(2, 2, 2), fill(1, 1, 1), fill(2, 2, 2), fill(1, 1, 1), fill(2, 2, 2), fill(1, 1, 1)}
	wantTake(t, l, 10, want, nil, api.OK)
	wantTake(t, l, 9, want[:6], []api.Rest{rest(1, 1, 1, 0, 1)}, api.OK)
}

// One that is alone, and comes back, has a Fill for each time.
func TestTakeTellsEachTime(t *testing.T) {
	fills, left, err := queue.Take([]api.Rest{rest(7, 3, 1, 10000, 1)}, 10000)
	if err != nil || len(fills) != 10000 || !slices.Equal(left, []api.Rest{rest(7, 3, 1, 0, 1)}) {
		t.Errorf("got %d Fills, %v %v", len(fills), left, err)
	}
	if slices.ContainsFunc(fills, func(f api.Fill) bool { return f != fill(7, 3, 1) }) {
		t.Errorf("got another Fill")
	}
}

func TestTakeOfAFullQueue(t *testing.T) {
	full := row(60)
	for i := range full {
		full[i].Qty, full[i].Hidden, full[i].Show = 1, 10000, 1
	}
	fills, left, err := queue.Take(full, 10000)
	if err != nil || len(fills) != 10000 || len(left) != 60 {
		t.Fatalf("got %d Fills, %d Rests, %v", len(fills), len(left), err)
	}
	for i, f := range fills {
		if f != fill(i%60+1, full[i%60].Who, 1) {
			t.Errorf("Fill %d: got %v", i, f)
		}
	}
}

func TestTakeOfNothing(t *testing.T) {
	for _, n := range []int{1, 2, 10000} {
		wantTake(t, nil, n, nil, nil, api.OK)
		wantTake(t, []api.Rest{}, n, nil, nil, api.OK)
	}
}

func TestTakeRefusesNumbersThatAreNone(t *testing.T) {
	for _, n := range []int{math.MinInt, -1, 0, 10001, 1<<32 + 1, math.MaxInt} {
		for _, l := range [][]api.Rest{nil, row(1), row(60)} {
			wantTake(t, l, n, nil, nil, api.ErrRange)
		}
	}
}

func TestTakeTellsCheckFirst(t *testing.T) {
	for _, n := range []int{math.MinInt, 0, 1, 10000, 10001} {
		wantTake(t, row(61), n, nil, nil, api.ErrFull)
		wantTake(t, append(row(2), ranged), n, nil, nil, api.ErrRange)
		wantTake(t, append(row(2), shaped), n, nil, nil, api.ErrShape)
		wantTake(t, append(row(2), row(1)...), n, nil, nil, api.ErrClash)
	}
}

// TestTakeEverywhere holds Take against taking one at a time, of all small queues.
func TestTakeEverywhere(t *testing.T) {
	eachQueue(3, func(l []api.Rest) {
		total, err := queue.Total(l)
		if err != nil {
			t.Fatal(l, err)
		}
		for n := 1; n <= total+1; n++ {
			fills, left := oneByOne(l, n)
			wantTake(t, l, n, fills, left, api.OK)
			wantAll(t, l, n, total)
		}
	})
}

// wantAll: nothing is made, nothing lost, and what is left is a queue.
func wantAll(t *testing.T, l []api.Rest, n, total int) {
	t.Helper()
	fills, left, _ := queue.Take(l, n)
	taken := 0
	for _, f := range fills {
		taken += f.Qty
	}
	rests, err := queue.Total(left)
	if err != nil || taken != min(n, total) || taken+rests != total {
		t.Errorf("Take(%v, %d): %d taken, %d left, %v", l, n, taken, rests, err)
	}
}

// oneByOne is Q2's Take, a single piece at a time.
func oneByOne(l []api.Rest, n int) (fills []api.Fill, left []api.Rest) {
	left = slices.Clone(l)
	begins := true
	for ; n > 0 && len(left) > 0; n-- {
		r := left[0]
		if begins {
			fills = append(fills, fill(r.Id, r.Who, 0))
		}
		fills[len(fills)-1].Qty++
		r.Qty--
		begins = r.Qty == 0
		if !begins {
			left[0] = r
			continue
		}
		for r.Qty < r.Show && r.Hidden > 0 {
			r.Qty++
			r.Hidden--
		}
		left = left[1:]
		if r.Qty > 0 {
			left = append(left, r)
		}
	}
	return fills, left
}

// eachQueue goes over all queues of up to so many small Rests.
func eachQueue(most int, do func(l []api.Rest)) {
	var grow func(l []api.Rest)
	grow = func(l []api.Rest) {
		do(l)
		if len(l) == most {
			return
		}
		for _, r := range smallRests(len(l) + 1) {
			grow(append(l[:len(l):len(l)], r))
		}
	}
	grow(nil)
}

// smallRests are all Rests of an Id with small numbers that nothing is wrong with.
func smallRests(id int) (l []api.Rest) {
	for q := 1; q <= 2; q++ {
		for h := range 4 {
			for s := range 4 {
				if r := rest(id, id, q, h, s); spoken(r) == api.OK {
					l = append(l, r)
				}
			}
		}
	}
	return l
}

func ExampleTake() {
	l := []api.Rest{{Id: 7, Who: 3, Qty: 2, Hidden: 5, Show: 4}, {Id: 8, Who: 4, Qty: 3}}
	fmt.Println(queue.Take(l, 4))
	// Output:
	// [{7 3 2} {8 4 2}] [{8 4 1 0 0} {7 3 4 1 4}] <nil>
}
