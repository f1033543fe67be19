package span_test

import (
	"math"
	"testing"

	"pitfloor/api"
	"pitfloor/plain"
	"pitfloor/span"
)

func wantCheck(t *testing.T, want api.Errno, what string, spans ...span.Span) {
	t.Helper()
	if got := plain.Told(span.Check(spans...)); got != want {
		t.Errorf("%s: got %v, want %v", what, got, want)
	}
}

func TestBounds(t *testing.T) {
	kinds := []struct {
		name      string
		of        func(n int) span.Span
		low, high int
	}{
		{"Of", func(n int) span.Span { return span.Of(n, -3, 5) }, -3, 5},
		{"Of one number", func(n int) span.Span { return span.Of(n, 7, 7) }, 7, 7},
		{"Price", span.Price, 1, 10000},
		{"Side", span.Side, 1, 2},
		{"Id", span.Id, 1, 9999},
		{"Who", span.Who, 1, 9},
		{"Qty", span.Qty, 1, 10000},
		{"Mode", span.Mode, 0, 3},
	}
	for _, k := range kinds {
		wantCheck(t, api.OK, k.name+" at the least", k.of(k.low))
		wantCheck(t, api.OK, k.name+" at the greatest", k.of(k.high))
		for _, n := range []int{math.MinInt, k.low - 1, k.high + 1, 1<<32 + k.low, math.MaxInt} {
			wantCheck(t, api.ErrRange, k.name+" outside", k.of(n))
		}
	}
}

// A span whose greatest number is below its least has none.
func TestBoundsOfNothing(t *testing.T) {
	for n := -2; n <= 3; n++ {
		wantCheck(t, api.ErrRange, "nothing", span.Of(n, 1, 0))
	}
}

func TestCheckOfSeveral(t *testing.T) {
	good, bad := span.Id(1), span.Id(0)
	wantCheck(t, api.OK, "none")
	wantCheck(t, api.OK, "good ones", good, good, good)
	wantCheck(t, api.ErrRange, "bad first", bad, good, good)
	wantCheck(t, api.ErrRange, "bad between", good, bad, good)
	wantCheck(t, api.ErrRange, "bad last", good, good, bad)
}
