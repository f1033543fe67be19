package queue_test

import (
	"math"
	"slices"
	"testing"

	"pitfloor/api"
	"pitfloor/queue"
)

// The rules that hold everywhere (P1 to P4 of the document), asked of package queue.

// calls on a queue, and the lists of Rests that they answer.
var calls = []struct {
	name string
	do   func(l []api.Rest) []api.Rest
}{
	{"Check", func(l []api.Rest) []api.Rest { queue.Check(l); return nil }},
	{"Total", func(l []api.Rest) []api.Rest { queue.Total(l); return nil }},
	{"Push", func(l []api.Rest) []api.Rest { got, _ := queue.Push(l, rest(9000, 1, 1, 0, 0)); return got }},
	{"Drop the first", func(l []api.Rest) []api.Rest { got, _, _ := queue.Drop(l, 1); return got }},
	{"Drop another", func(l []api.Rest) []api.Rest { got, _, _ := queue.Drop(l, 2); return got }},
	{"Take a little", func(l []api.Rest) []api.Rest { _, got, _ := queue.Take(l, 1); return got }},
	{"Take what one shows", func(l []api.Rest) []api.Rest { _, got, _ := queue.Take(l, 3); return got }},
	{"Take a lot", func(l []api.Rest) []api.Rest { _, got, _ := queue.Take(l, 17); return got }},
}

// roomy gives a list with other Rests behind its length.
func roomy(l []api.Rest) []api.Rest {
	return append(slices.Clone(l), row(70)...)[:len(l)]
}

func TestWhatIsHandedInStaysAsItWas(t *testing.T) {
	for _, count := range []int{0, 1, 2, 3, 59, 60, 61} {
		for _, c := range calls {
			l := roomy(row(count))
			was := slices.Clone(l[:cap(l)])
			got := c.do(l)
			scribble(got[:cap(got)])
			if !slices.Equal(l[:cap(l)], was) {
				t.Errorf("%s of %d: what was handed in is another one", c.name, count)
			}
		}
	}
}

// What is handed in may be written over later: nothing of it is kept.
func TestAnswersStayAsTheyWere(t *testing.T) {
	for _, count := range []int{0, 1, 2, 3, 59, 60} {
		for _, c := range calls {
			l := roomy(row(count))
			got := c.do(l)
			was := slices.Clone(got)
			scribble(l[:cap(l)])
			if !slices.Equal(got, was) {
				t.Errorf("%s of %d: the answer is another one", c.name, count)
			}
		}
	}
}

func scribble(l []api.Rest) {
	for i := range l {
		l[i] = rest(-1, -1, -1, -1, -1)
	}
}

func TestWhatStandsBehindAListIsNotRead(t *testing.T) {
	for _, count := range []int{0, 1, 3, 59, 60} {
		for _, c := range calls {
			l, odd := roomy(row(count)), roomy(row(count))
			scribble(odd[:cap(odd)][count:])
			if a, b := c.do(l), c.do(odd); !slices.Equal(a, b) {
				t.Errorf("%s of %d: got %v, but %v with others behind", c.name, count, a, b)
			}
		}
	}
}

// answer of all calls that give more than a list of Rests.
type answer struct {
	check, totalErr, pushErr, dropErr, takeErr error
	total                                      int
	dropped                                    api.Rest
}

func ask(l []api.Rest, r api.Rest, n int) (a answer, lists [][]api.Rest, fills []api.Fill) {
	lists = make([][]api.Rest, 3)
	a.check = queue.Check(l)
	a.total, a.totalErr = queue.Total(l)
	lists[0], a.pushErr = queue.Push(l, r)
	lists[1], a.dropped, a.dropErr = queue.Drop(l, n)
	fills, lists[2], a.takeErr = queue.Take(l, n)
	return a, lists, fills
}

func TestNoCallPanicsAndAnswersHangOnArgumentsAlone(t *testing.T) {
	ends := []int{math.MinInt, math.MinInt + 1, -1, 0, 1, math.MaxInt - 1, math.MaxInt}
	for _, count := range []int{1, 2, 60, 61} {
		for field := id; field <= show; field++ {
			for _, n := range ends {
				odd := with(row(1)[0], field, n)
				l := swapped(row(count), count/2, odd)
				first, lists, fills := ask(l, odd, n)
				ask(row(3), ranged, 2)
				again, listsAgain, fillsAgain := ask(l, odd, n)
				if again != first || !slices.Equal(fills, fillsAgain) || !slices.EqualFunc(lists, listsAgain, slices.Equal) {
					t.Errorf("%v, %v, %d: first %v, then %v", l, odd, n, first, again)
				}
			}
		}
	}
}
