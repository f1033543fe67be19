package kinds_test

import (
	"testing"

	"pitfloor/api"
	"pitfloor/kinds"
	"pitfloor/plain"
)

// Settle, which chapter 8 asks too.

func wantSettle(t *testing.T, b api.Book, o api.Order, left int, want answer) {
	t.Helper()
	done, gone, err := kinds.Settle(b, o, left)
	if got := (answer{book: done, gone: gone, err: plain.Told(err)}); !equal(got, want) {
		t.Errorf("Settle(%v, %v, %d): got %v, want %v", b, o, left, got, want)
	}
}

func TestSettle(t *testing.T) {
	eachSide(func(s int) {
		b := facing(s, row(1, 2))
		for _, left := range []int{0, 1, 7} {
			for _, kind := range []int{api.Market, api.Now, api.Whole} {
				wantSettle(t, b, ofKind(comes(s, -1, 7), kind), left, answer{book: b, gone: left})
			}
		}
		for _, kind := range []int{api.Limit, api.Post} {
			o := withShow(ofKind(comes(s, -1, 7), kind), 4)
			wantSettle(t, b, o, 0, answer{book: b})
			wantSettle(t, b, o, 3, answer{book: joined(b, s, o.Price, rest(comer, comerWho, 3, 0, 4))})
			wantSettle(t, b, o, 7, answer{book: joined(b, s, o.Price, rest(comer, comerWho, 4, 3, 4))})
			wantSettle(t, facing(s, row(1, 59)), o, 3, answer{err: api.ErrFull})
			wantSettle(t, b, o, 8, answer{err: api.ErrRange})
			wantSettle(t, b, o, -1, answer{err: api.ErrRange})
		}
	})
}

// The book that comes is in memory of its own, whether something rests or not.
func TestSettleSharesNoMemory(t *testing.T) {
	eachSide(func(s int) {
		for _, left := range []int{0, 3} {
			eachKind(comes(s, -1, 7), func(o api.Order) {
				b := roomy(facing(s, row(1, 2), row(3, 1)))
				was := whole(b)
				done, _, _ := kinds.Settle(b, o, left)
				scribble(done)
				if !same(whole(b), was) {
					t.Errorf("Settle(%v, %d): what was handed in is another one", o, left)
				}
			})
		}
	})
}
