package queue_test

import (
	"fmt"
	"math"
	"slices"
	"testing"

	"pitfloor/api"
	"pitfloor/plain"
	"pitfloor/queue"
)

// Q1: a Rest, Check, Total, Push and Drop.

// The fields of a Rest.
const (
	id = iota
	who
	qty
	hidden
	show
)

// with gives a Rest with another number in one of its fields.
func with(r api.Rest, field, n int) api.Rest {
	*[]*int{&r.Id, &r.Who, &r.Qty, &r.Hidden, &r.Show}[field] = n
	return r
}

func rest(id, who, qty, hidden, show int) api.Rest {
	return api.Rest{Id: id, Who: who, Qty: qty, Hidden: hidden, Show: show}
}

// row of so many Rests, with Ids from 1 on: nothing is wrong with it.
func row(count int) (l []api.Rest) {
	for n := 1; n <= count; n++ {
		l = append(l, rest(n, n%9+1, 3, 5, 4))
	}
	return l
}

// swapped gives a list with another Rest at a place.
func swapped(l []api.Rest, at int, r api.Rest) []api.Rest {
	l = slices.Clone(l)
	l[at] = r
	return l
}

var (
	ranged = rest(7, 0, 3, 0, 0) // ErrRange
	shaped = rest(7, 1, 3, 1, 0) // ErrShape
)

func wantCheck(t *testing.T, l []api.Rest, want api.Errno) {
	t.Helper()
	if got := plain.Told(queue.Check(l)); got != want {
		t.Errorf("Check(%v): got %v, want %v", l, got, want)
	}
}

func wantTotal(t *testing.T, l []api.Rest, want int, wantErr api.Errno) {
	t.Helper()
	got, err := queue.Total(l)
	if got != want || plain.Told(err) != wantErr {
		t.Errorf("Total(%v): got %d %v, want %d %v", l, got, err, want, wantErr)
	}
}

func wantPush(t *testing.T, l []api.Rest, r api.Rest, want []api.Rest, wantErr api.Errno) {
	t.Helper()
	got, err := queue.Push(l, r)
	if !slices.Equal(got, want) || plain.Told(err) != wantErr {
		t.Errorf("Push(%v, %v): got %v %v, want %v %v", l, r, got, err, want, wantErr)
	}
}

func wantDrop(t *testing.T, l []api.Rest, id int, want []api.Rest, wantRest api.Rest, wantErr api.Errno) {
	t.Helper()
	got, r, err := queue.Drop(l, id)
	if !slices.Equal(got, want) || r != wantRest || plain.Told(err) != wantErr {
		t.Errorf("Drop(%v, %d): got %v %v %v, want %v %v %v", l, id, got, r, err, want, wantRest, wantErr)
	}
}

func TestCheckTakesGoodQueues(t *testing.T) {
	wantCheck(t, nil, api.OK)
	wantCheck(t, []api.Rest{}, api.OK)
	for _, count := range []int{1, 2, 59, 60} {
		wantCheck(t, row(count), api.OK)
	}
	wantCheck(t, []api.Rest{rest(9999, 9, 10000, 10000, 10000), rest(1, 1, 1, 0, 0), rest(2, 1, 1, 0, 1)}, api.OK)
}

func TestCheckOfARestAtTheBounds(t *testing.T) {
	bounds := []struct {
		r                api.Rest
		field, low, high int
	}{
		{rest(7, 3, 3, 0, 0), id, 1, 9999},
		{rest(7, 3, 3, 0, 0), who, 1, 9},
		{rest(7, 3, 3, 0, 0), qty, 1, 10000},
		{rest(7, 3, 3, 0, 4), hidden, 0, 10000},
		{rest(7, 3, 1, 0, 0), show, 0, 10000},
	}
	for _, b := range bounds {
		for _, n := range []int{b.low, b.low + 1, b.high - 1, b.high} {
			wantCheck(t, []api.Rest{with(b.r, b.field, n)}, api.OK)
		}
		for _, n := range []int{math.MinInt, b.low - 1, b.high + 1, 1<<32 + b.low, math.MaxInt} {
			wantCheck(t, []api.Rest{with(b.r, b.field, n)}, api.ErrRange)
		}
	}
}

func TestCheckHiddenNeedsShow(t *testing.T) {
	for _, n := range []int{1, 2, 9999, 10000} {
		wantCheck(t, []api.Rest{rest(7, 3, 3, n, 0)}, api.ErrShape)
		wantCheck(t, []api.Rest{rest(7, 3, 3, n, 3)}, api.OK)
	}
	wantCheck(t, []api.Rest{rest(7, 3, 3, 0, 0)}, api.OK)
	wantCheck(t, []api.Rest{rest(7, 3, 3, 0, 3)}, api.OK)
}

func TestCheckShowIsNotBelowQty(t *testing.T) {
	for _, q := range []int{2, 3, 500, 9999} {
		for _, h := range []int{0, 1, 10000} {
			wantCheck(t, []api.Rest{rest(7, 3, q, h, 1)}, api.ErrShape)
			wantCheck(t, []api.Rest{rest(7, 3, q, h, q-1)}, api.ErrShape)
			wantCheck(t, []api.Rest{rest(7, 3, q, h, q)}, api.OK)
			wantCheck(t, []api.Rest{rest(7, 3, q, h, q+1)}, api.OK)
		}
	}
}

// TestRestEverywhere holds a Rest's errors against the promise's words, at all edges of all fields.
func TestRestEverywhere(t *testing.T) {
	eachRest(func(r api.Rest) {
		want := spoken(r)
		if got := plain.Told(queue.Rest(r)); got != want {
			t.Errorf("Rest(%v): got %v, want %v", r, got, want)
		}
		wantCheck(t, []api.Rest{r}, want)
	})
}

// spoken is what Q1 says of a Rest, word by word.
func spoken(r api.Rest) api.Errno {
	switch {
	case r.Id < 1, r.Id > 9999, r.Who < 1, r.Who > 9:
		return api.ErrRange
	case r.Qty < 1, r.Qty > 10000, r.Hidden < 0, r.Hidden > 10000, r.Show < 0, r.Show > 10000:
		return api.ErrRange
	case r.Show == 0 && r.Hidden != 0, r.Show != 0 && r.Show < r.Qty:
		return api.ErrShape
	}
	return api.OK
}

// eachRest goes over Rests of the numbers next to the bounds.
func eachRest(do func(r api.Rest)) {
	for _, i := range []int{math.MinInt, 0, 1, 9999, 10000, math.MaxInt} {
		for _, w := range []int{math.MinInt, 0, 1, 9, 10, math.MaxInt} {
			eachNumbers(func(q, h, s int) { do(rest(i, w, q, h, s)) })
		}
	}
}

func eachNumbers(do func(q, h, s int)) {
	for _, q := range []int{math.MinInt, 0, 1, 2, 9999, 10000, 10001, math.MaxInt} {
		for _, h := range []int{math.MinInt, -1, 0, 1, 10000, 10001, math.MaxInt} {
			for _, s := range []int{math.MinInt, -1, 0, 1, 2, 9998, 9999, 10000, 10001, math.MaxInt} {
				do(q, h, s)
			}
		}
	}
}

func TestCheckFull(t *testing.T) {
	for _, count := range []int{61, 62, 120, 20000} {
		wantCheck(t, row(count), api.ErrFull)
	}
}

func TestCheckTellsFullFirst(t *testing.T) {
	for _, at := range []int{0, 30, 59, 60} {
		wantCheck(t, swapped(row(61), at, ranged), api.ErrFull)
		wantCheck(t, swapped(row(61), at, shaped), api.ErrFull)
		wantCheck(t, swapped(row(61), at, row(1)[0]), api.ErrFull)
	}
}

func TestCheckTellsAFaultWhereverItStands(t *testing.T) {
	for _, count := range []int{7, 60} {
		for at := range count {
			// Both faulty ones have Id 7: without the one that has it in a row, they do not clash too.
			l := swapped(row(count), 6, rest(9000, 1, 1, 0, 0))
			wantCheck(t, swapped(l, at, ranged), api.ErrRange)
			wantCheck(t, swapped(l, at, shaped), api.ErrShape)
		}
	}
}

func TestCheckClash(t *testing.T) {
	for _, count := range []int{2, 3, 60} {
		for at := range count {
			for of := range at {
				wantCheck(t, swapped(row(count), at, rest(of+1, 9, 1, 0, 0)), api.ErrClash)
			}
		}
	}
}

func TestCheckTellsTheFirstFault(t *testing.T) {
	one, two := rest(1, 1, 3, 0, 0), rest(2, 1, 3, 0, 0)
	twice := rest(1, 2, 4, 0, 0)
	faults := []struct {
		r    api.Rest
		want api.Errno
	}{{ranged, api.ErrRange}, {shaped, api.ErrShape}, {twice, api.ErrClash}}
	for _, a := range faults {
		for _, b := range faults {
			wantCheck(t, []api.Rest{one, a.r, two, b.r}, a.want)
		}
	}
}

// Of one Rest its own errors are told ahead of a clash.
func TestCheckTellsARestsErrorsAheadOfItsClash(t *testing.T) {
	one := rest(7, 1, 3, 0, 0)
	wantCheck(t, []api.Rest{one, ranged}, api.ErrRange)
	wantCheck(t, []api.Rest{one, shaped}, api.ErrShape)
	wantCheck(t, []api.Rest{one, with(shaped, who, 0)}, api.ErrRange)
	wantCheck(t, []api.Rest{one, one}, api.ErrClash)
}

func TestTotal(t *testing.T) {
	wantTotal(t, nil, 0, api.OK)
	wantTotal(t, []api.Rest{}, 0, api.OK)
	wantTotal(t, []api.Rest{rest(1, 1, 5, 0, 0)}, 5, api.OK)
	wantTotal(t, []api.Rest{rest(1, 1, 5, 0, 9)}, 5, api.OK)
	wantTotal(t, []api.Rest{rest(1, 1, 3, 8, 4), rest(2, 1, 7, 0, 0), rest(3, 1, 1, 10000, 1)}, 10019, api.OK)
	wantTotal(t, row(60), 60*8, api.OK)
	most := row(60)
	for i := range most {
		most[i].Qty, most[i].Hidden, most[i].Show = 10000, 10000, 10000
	}
	wantTotal(t, most, 1200000, api.OK)
}

func TestTotalTellsCheck(t *testing.T) {
	wantTotal(t, row(61), 0, api.ErrFull)
	wantTotal(t, []api.Rest{rest(1, 1, 5, 0, 0), ranged}, 0, api.ErrRange)
	wantTotal(t, []api.Rest{rest(1, 1, 5, 0, 0), shaped}, 0, api.ErrShape)
	wantTotal(t, []api.Rest{rest(1, 1, 5, 0, 0), rest(1, 1, 5, 0, 0)}, 0, api.ErrClash)
	wantTotal(t, []api.Rest{rest(1, 1, math.MaxInt, math.MaxInt, 0)}, 0, api.ErrRange)
}

func TestPush(t *testing.T) {
	a, b := rest(4, 1, 3, 8, 4), rest(2, 1, 5, 0, 0)
	wantPush(t, nil, a, []api.Rest{a}, api.OK)
	wantPush(t, []api.Rest{}, a, []api.Rest{a}, api.OK)
	wantPush(t, []api.Rest{a}, b, []api.Rest{a, b}, api.OK)
	wantPush(t, []api.Rest{b}, a, []api.Rest{b, a}, api.OK)
	for count := range 60 {
		wantPush(t, row(count), row(count + 1)[count], row(count+1), api.OK)
	}
}

func TestPushNearFull(t *testing.T) {
	other := rest(9000, 1, 1, 0, 0)
	wantPush(t, row(59), other, append(row(59), other), api.OK)
	wantPush(t, row(60), other, nil, api.ErrFull)
	wantPush(t, row(61), other, nil, api.ErrFull)
}

func TestPushClash(t *testing.T) {
	for _, count := range []int{1, 2, 59, 60} {
		for at := range count {
			wantPush(t, row(count), rest(at+1, 9, 1, 0, 0), nil, api.ErrClash)
		}
	}
}

func TestPushTellsARestsErrors(t *testing.T) {
	eachNumbers(func(q, h, s int) {
		r := rest(9999, 9, q, h, s)
		want := spoken(r)
		if want == api.OK {
			wantPush(t, row(1), r, append(row(1), r), want)
			return
		}
		wantPush(t, row(1), r, nil, want)
	})
	wantPush(t, row(1), rest(10000, 1, 1, 0, 0), nil, api.ErrRange)
	wantPush(t, row(1), rest(2, 10, 1, 0, 0), nil, api.ErrRange)
	wantPush(t, nil, api.Rest{}, nil, api.ErrRange)
}

func TestPushOrderOfErrors(t *testing.T) {
	other := rest(9000, 1, 1, 0, 0)
	clashing := append(row(1), row(1)...)
	for _, r := range []api.Rest{ranged, shaped, row(1)[0], other} {
		wantPush(t, row(61), r, nil, api.ErrFull)
		wantPush(t, clashing, r, nil, api.ErrClash)
		wantPush(t, []api.Rest{shaped}, r, nil, api.ErrShape)
		wantPush(t, []api.Rest{ranged}, r, nil, api.ErrRange)
	}
	// Both have Id 7, that is there, and there is no room for them.
	wantPush(t, row(60), ranged, nil, api.ErrRange)
	wantPush(t, row(60), shaped, nil, api.ErrShape)
	wantPush(t, row(60), with(shaped, hidden, 0), nil, api.ErrClash)
	wantPush(t, row(7), ranged, nil, api.ErrRange)
	wantPush(t, row(7), shaped, nil, api.ErrShape)
}

func TestDrop(t *testing.T) {
	a, b, c := rest(4, 1, 3, 8, 4), rest(9, 2, 5, 0, 0), rest(2, 1, 1, 0, 7)
	l := []api.Rest{a, b, c}
	wantDrop(t, l, 4, []api.Rest{b, c}, a, api.OK)
	wantDrop(t, l, 9, []api.Rest{a, c}, b, api.OK)
	wantDrop(t, l, 2, []api.Rest{a, b}, c, api.OK)
	wantDrop(t, []api.Rest{a}, 4, nil, a, api.OK)
	for at := range 60 {
		full := row(60)
		wantDrop(t, full, at+1, append(row(at), full[at+1:]...), full[at], api.OK)
	}
}

func TestDropNone(t *testing.T) {
	for _, n := range []int{math.MinInt, -1, 0, 4, 9999, 10000, 1<<32 + 1, math.MaxInt} {
		wantDrop(t, row(3), n, nil, api.Rest{}, api.ErrNone)
		wantDrop(t, nil, n, nil, api.Rest{}, api.ErrNone)
		wantDrop(t, []api.Rest{}, n, nil, api.Rest{}, api.ErrNone)
	}
}

func TestDropTellsCheckFirst(t *testing.T) {
	for _, n := range []int{1, 7, 61, 100, math.MinInt} {
		wantDrop(t, row(61), n, nil, api.Rest{}, api.ErrFull)
		wantDrop(t, append(row(2), ranged), n, nil, api.Rest{}, api.ErrRange)
		wantDrop(t, append(row(2), shaped), n, nil, api.Rest{}, api.ErrShape)
		wantDrop(t, append(row(2), row(1)...), n, nil, api.Rest{}, api.ErrClash)
	}
	// An Id that is none is found nowhere, though it stands there.
	wantDrop(t, []api.Rest{rest(0, 1, 1, 0, 0)}, 0, nil, api.Rest{}, api.ErrRange)
}

func TestPushAndDropUndoEachOther(t *testing.T) {
	other := rest(9000, 1, 1, 0, 0)
	for count := range 60 {
		more, err := queue.Push(row(count), other)
		if err != nil {
			t.Fatal(err)
		}
		wantDrop(t, more, 9000, row(count), other, api.OK)
	}
}

func ExamplePush() {
	l, err := queue.Push(nil, api.Rest{Id: 7, Who: 3, Qty: 5})
	fmt.Println(l, err)
	l, err = queue.Push(l, api.Rest{Id: 7, Who: 4, Qty: 2})
	fmt.Println(l, err)
	// Output:
	// [{7 3 5 0 0}] <nil>
	// [] ErrClash
}
