package tick_test

import (
	"math"
	"strconv"
	"strings"
	"testing"

	"pitfloor/api"
	"pitfloor/plain"
	"pitfloor/tick"
)

// The rules that hold everywhere (P1 to P4 of the document), asked of package tick.

// edges: the numbers next to every bound of the chapter, and the ends of int.
var edges = []int{
	math.MinInt, math.MinInt + 1, math.MinInt32, -10001, -10000, -101, -100, -1, 0, 1, 2, 3, 50, 99, 100, 101,
	9900, 9901, 9999, 10000, 10001, math.MaxInt32, math.MaxUint32, math.MaxInt / 100, math.MaxInt - 1, math.MaxInt,
}

// call as it would be written.
func call(name string, numbers ...int) string {
	words := make([]string, len(numbers))
	for i, n := range numbers {
		words[i] = strconv.Itoa(n)
	}
	return name + "(" + strings.Join(words, ", ") + ")"
}

// answer of a call, whatever it is: what it told, and its error.
type answer struct {
	truth  bool
	number int
	err    error
}

// answers of all calls on three numbers; a call that takes fewer leaves the last ones out.
func answers(a, b, c int) (l [5]answer) {
	l[0].err = tick.Price(a)
	l[1].truth, l[1].err = tick.On(a, b)
	l[2].number, l[2].err = tick.Round(a, b, c)
	l[3].truth, l[3].err = tick.Band(a, b, c)
	l[4].truth, l[4].err = tick.Better(a, b, c)
	return l
}

func wellFormed(a answer) bool {
	if a.err == nil {
		return true
	}
	return plain.Told(a.err) == api.ErrRange && !a.truth && a.number == 0
}

func eachEdge(do func(a, b, c int)) {
	for _, a := range edges {
		for _, b := range edges {
			for _, c := range edges {
				do(a, b, c)
			}
		}
	}
}

func TestNoCallPanicsAndErrorsStandAlone(t *testing.T) {
	eachEdge(func(a, b, c int) {
		defer func() {
			if e := recover(); e != nil {
				t.Errorf("panic at %d %d %d: %v", a, b, c, e)
			}
		}()
		for i, got := range answers(a, b, c) {
			if !wellFormed(got) {
				t.Errorf("call %d at %d %d %d: %+v", i, a, b, c, got)
			}
		}
	})
}

func TestAnswersHangOnArgumentsAlone(t *testing.T) {
	var first [][5]answer
	eachEdge(func(a, b, c int) { first = append(first, answers(a, b, c)) })
	i := 0
	eachEdge(func(a, b, c int) {
		answers(c, a, b)
		if again := answers(a, b, c); again != first[i] {
			t.Errorf("%d %d %d: first %+v, then %+v", a, b, c, first[i], again)
		}
		i++
	})
}

func TestErrorsHaveTheirNumbersAndNames(t *testing.T) {
	names := []string{
		"OK", "ErrRange", "ErrSyntax", "ErrShape", "ErrFull", "ErrNone", "ErrState", "ErrClash", "ErrCross", "ErrPoor",
	}
	numbers := []api.Errno{
		api.OK, api.ErrRange, api.ErrSyntax, api.ErrShape, api.ErrFull,
		api.ErrNone, api.ErrState, api.ErrClash, api.ErrCross, api.ErrPoor,
	}
	for i, e := range numbers {
		if int(e) != i || e.Error() != names[i] {
			t.Errorf("error %d: got %d %s, want %s", i, int(e), e, names[i])
		}
	}
}

func TestNumbersHaveSixtyFourBits(t *testing.T) {
	if strconv.IntSize != 64 {
		t.Fatalf("an int has %d bits", strconv.IntSize)
	}
	// A number that is a price in its low 32 bits alone is none.
	if got := plain.Told(tick.Price(1<<32 + 1)); got != api.ErrRange {
		t.Errorf("Price(1<<32 + 1): got %v", got)
	}
}
