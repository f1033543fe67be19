package wire_test

import (
	"math"
	"slices"
	"strings"
	"testing"

	"pitfloor/api"
)

// W1 of chapter 17: which errors are told, which first.

// outside is beyond what may be, from low to high.
func outside(low, high int) []int {
	return []int{math.MinInt, math.MinInt + 1, -high - 1, low - 1, high + 1, 1<<32 + max(low, 1), math.MaxInt - 1, math.MaxInt}
}

// notZero are numbers that may not stand where 0 is asked.
var notZero = []int{math.MinInt, -1, 1, 2, 256, 65536, 1 << 32, math.MaxInt}

func TestWhatIsNone(t *testing.T) {
	for _, c := range each() {
		for _, what := range append(outside(1, 5), 1<<8+c.What, 6, 255, 256) {
			c.What = what
			wantRefused(t, c, api.ErrRange)
		}
	}
	wantRefused(t, api.Command{}, api.ErrRange)
	wantRefused(t, api.Command{Who: 1, N: 1}, api.ErrRange)
}

func TestFieldsBeyondTheirBounds(t *testing.T) {
	for _, c := range each() {
		for _, b := range bounds(c.What) {
			for _, to := range outside(b.low, b.high) {
				wantRefused(t, with(c, b.number, to), api.ErrRange)
			}
		}
	}
}

// What chapter 2 asks of an order beyond the bounds of each number.
func TestOrdersThatAreNone(t *testing.T) {
	c := place(limit())
	wantRefused(t, with(c, show, 514), api.ErrRange)
	wantRefused(t, with(c, qty, 257), api.ErrRange)
	wantRefused(t, with(c, price, 0), api.ErrRange)
	for _, to := range []int{api.Now, api.Whole} {
		wantRefused(t, with(c, kind, to), api.ErrShape)
	}
	wantRefused(t, with(c, kind, api.Market), api.ErrRange)
	wantRefused(t, with(with(c, kind, api.Market), price, 0), api.ErrShape)
	wantRefused(t, place(api.Order{}), api.ErrRange)
}

func TestFieldsThatDoNotBelongThere(t *testing.T) {
	for _, c := range each() {
		for _, number := range others(c.What) {
			for _, to := range notZero {
				wantRefused(t, with(c, number, to), api.ErrShape)
			}
		}
	}
}

// A command that is another one's by all but its What.
func TestFieldsOfAnotherCommand(t *testing.T) {
	for _, c := range each() {
		for what := api.Place; what <= api.Give; what++ {
			odd := c
			odd.What = what
			alike := what == c.What || what >= api.Pay && c.What >= api.Pay
			switch {
			case alike:
				wantGood(t, odd)
			case what == api.Cancel && c.Order.Id != 0 || what == api.Swap && c.What == api.Place:
				wantRefused(t, odd, api.ErrShape)
			default:
				wantRefused(t, odd, api.ErrRange)
			}
		}
	}
}

// That a number may not be is told ahead of one that does not belong there.
func TestRangeIsToldAheadOfShape(t *testing.T) {
	for _, c := range each() {
		for _, b := range bounds(c.What) {
			for _, number := range others(c.What) {
				wantRefused(t, with(with(c, b.number, -1), number, 1), api.ErrRange)
			}
		}
	}
}

// fill gives all fields of a command that are not written a number.
func fill(c api.Command, to int) api.Command {
	for _, number := range others(c.What) {
		c = with(c, number, to)
	}
	return c
}

func TestAllThatDoesNotBelongThere(t *testing.T) {
	for _, c := range each() {
		for _, to := range notZero {
			wantRefused(t, fill(c, to), api.ErrShape)
			wantRefused(t, with(fill(c, to), bounds(c.What)[0].number, 0), api.ErrRange)
		}
	}
}

func TestMoreThanMayBePacked(t *testing.T) {
	for _, c := range each() {
		for _, count := range []int{401, 402, 1000} {
			wantNotPacked(t, slices.Repeat(commands(c), count), api.ErrFull)
		}
	}
}

// That there are too many is told ahead of what is wrong with one of them.
func TestTooManyIsToldFirst(t *testing.T) {
	wantNotPacked(t, make([]api.Command, 401), api.ErrFull)
	wantNotPacked(t, make([]api.Command, 400), api.ErrRange)
	wantNotPacked(t, append(commands(with(cancel(1), n, 1)), slices.Repeat(commands(cancel(1)), 400)...), api.ErrFull)
}

// Wherever the command stands that has a fault, nothing is told of the others.
func TestAFaultAnywhere(t *testing.T) {
	for at := range len(each()) + 1 {
		wantNotPacked(t, slices.Insert(each(), at, api.Command{}), api.ErrRange)
		wantNotPacked(t, slices.Insert(each(), at, cancel(10000)), api.ErrRange)
		wantNotPacked(t, slices.Insert(each(), at, with(pay(1, 1), orderId, 1)), api.ErrShape)
	}
	l := slices.Repeat(commands(cancel(1)), 400)
	l[399] = with(cancel(1), who, 1)
	wantNotPacked(t, l, api.ErrShape)
}

// Of several with a fault that of the first one is told.
func TestTheFirstFaultIsTold(t *testing.T) {
	ranged, misshaped := cancel(0), with(cancel(1), who, 1)
	wantNotPacked(t, commands(cancel(1), ranged, misshaped), api.ErrRange)
	wantNotPacked(t, commands(cancel(1), misshaped, ranged), api.ErrShape)
	wantNotPacked(t, commands(misshaped, cancel(1), ranged), api.ErrShape)
}

func TestBytesOfAnotherLength(t *testing.T) {
	wantNotRead(t, "")
	for _, c := range each() {
		b := written(t, c)
		for end := range len(b) {
			wantNotRead(t, b[:end])
			if end < len(b)-1 {
				wantNotRead(t, withSum(b[:end]))
			}
		}
		for next := range 256 {
			wantNotRead(t, b+bytes(byte(next)))
			wantNotRead(t, bytes(byte(next))+b)
		}
		wantNotRead(t, withSum(b))
		wantNotRead(t, b+b)
		wantNotRead(t, strings.Repeat(b, 100000))
	}
}

// withSum puts the sum of bytes behind them.
func withSum(b string) string {
	all := 0
	for i := range len(b) {
		all += int(b[i])
	}
	return b + bytes(byte(all%251))
}

func TestBytesOfAnotherSum(t *testing.T) {
	for _, c := range append(each(), cancel(249), cancel(250), cancel(253)) {
		b := written(t, c)
		ahead, last := b[:len(b)-1], b[len(b)-1]
		for other := range 256 {
			if byte(other) != last {
				wantNotRead(t, ahead+bytes(byte(other)))
			}
		}
	}
}

// What stands in the bytes of a command is no error of its own: they are none of a command.
func TestBytesOfNumbersThatMayNotBe(t *testing.T) {
	for _, l := range [][]byte{
		{2, 0, 0}, {2, 39, 16}, {2, 255, 255}, // Id
		{3, 0, 0, 0, 1, 0, 1}, {3, 39, 16, 0, 1, 0, 1}, // Id
		{3, 0, 1, 0, 0, 0, 1}, {3, 0, 1, 39, 17, 0, 1}, // Price
		{3, 0, 1, 0, 1, 0, 0}, {3, 0, 1, 0, 1, 39, 17}, // Qty
		{4, 0, 0, 0, 0, 1}, {4, 10, 0, 0, 0, 1}, {5, 255, 0, 0, 0, 1}, // Who
		{4, 1, 0, 0, 0, 0}, {5, 1, 59, 154, 202, 1}, {4, 1, 255, 255, 255, 255}, // N
		{1, 0, 1, 0, 1, 0, 1, 0, 2, 0, 98, 0, 5, 0, 0, 0, 0},   // Market at a price
		{1, 0, 1, 0, 1, 0, 1, 0, 3, 0, 98, 0, 5, 0, 2, 0, 0},   // Now, and it shows a part
		{1, 0, 1, 0, 1, 0, 1, 0, 1, 0, 98, 0, 5, 0, 6, 0, 0},   // it shows more than it has
		{1, 0, 1, 0, 1, 0, 1, 0, 1, 0, 98, 0, 5, 0, 0, 39, 17}, // Stop
		{1, 0, 1, 0, 1, 0, 3, 0, 1, 0, 98, 0, 5, 0, 0, 0, 0},   // Side
		{1, 0, 1, 1, 1, 0, 1, 0, 1, 0, 98, 0, 5, 0, 0, 0, 0},   // Who
	} {
		wantNotRead(t, withSum(string(l)))
		wantNotUnpacked(t, bytes(byte(len(l)+1))+withSum(string(l)))
	}
}

func TestBytesOfAnotherWhat(t *testing.T) {
	for _, c := range each() {
		ahead := written(t, c)
		ahead = ahead[1 : len(ahead)-1]
		for what := range 256 {
			// Pay and Give are alike but for their What.
			if what != c.What && (what < api.Pay || what > api.Give || c.What < api.Pay) {
				wantNotRead(t, withSum(bytes(byte(what))+ahead))
			}
		}
	}
	for what := range 256 {
		wantNotRead(t, bytes(byte(what)))
		wantNotRead(t, withSum(bytes(byte(what))))
	}
}

// A pack that is cut is one only where a command ends.
func TestPacksThatAreCut(t *testing.T) {
	l := each()
	b := packed(t, l...)
	ends := map[int]int{} // how many commands end there
	for count := range len(l) + 1 {
		ends[len(packed(t, l[:count]...))] = count
	}
	for cut := range len(b) + 1 {
		if count, whole := ends[cut]; whole {
			wantUnpacked(t, b[:cut], l[:count]...)
			continue
		}
		wantNotUnpacked(t, b[:cut])
	}
}

// Ahead of a command stands just how many bytes it has.
func TestPacksWithAnotherLength(t *testing.T) {
	for _, c := range each() {
		b := written(t, c)
		for length := range 256 {
			if length != len(b) {
				wantNotUnpacked(t, bytes(byte(length))+b)
				wantNotUnpacked(t, bytes(byte(length))+b+packed(t, each()...))
				wantNotUnpacked(t, bytes(byte(length))+b+strings.Repeat("\x00", 256))
				wantNotUnpacked(t, packed(t, each()...)+bytes(byte(length))+b)
			}
		}
	}
}

func TestPacksWithMoreBehind(t *testing.T) {
	b := packed(t, each()...)
	for next := range 256 {
		wantNotUnpacked(t, b+bytes(byte(next)))
		wantNotUnpacked(t, bytes(byte(next)))
	}
	for _, c := range each() {
		wantNotUnpacked(t, written(t, c))
	}
}

func TestAFaultAnywhereInAPack(t *testing.T) {
	l := each()
	for at := range len(l) + 1 {
		ahead, behind := packed(t, l[:at]...), packed(t, l[at:]...)
		for _, odd := range []string{bytes(0), bytes(1, 0), bytes(4, 2, 0, 1, 4), bytes(4, 2, 0, 0, 2), bytes(4, 6, 0, 1, 7)} {
			wantNotUnpacked(t, ahead+odd+behind)
		}
	}
}

// Of more than may be packed there are no such bytes.
func TestMoreThanMayBeUnpacked(t *testing.T) {
	for _, c := range each() {
		most := packed(t, slices.Repeat(commands(c), 400)...)
		wantNotUnpacked(t, most+packed(t, c))
		wantNotUnpacked(t, most+bytes(0))
		wantNotUnpacked(t, most+most)
	}
}
