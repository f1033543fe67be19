package wire_test

import (
	"slices"
	"strings"
	"testing"

	"pitfloor/api"
	"pitfloor/wire"
)

// W1 of chapter 17: commands as bytes, and back.

func TestPlaceAsBytes(t *testing.T) {
	o := api.Order{Id: 1, Who: 1, Side: api.Buy, Kind: api.Limit, Price: 98, Qty: 5}
	wantBytes(t, place(o), bytes(1, 0, 1, 0, 1, 0, 1, 0, 1, 0, 98, 0, 5, 0, 0, 0, 0, 108))
	o = api.Order{Id: 9999, Who: 9, Side: api.Sell, Kind: api.Post, Price: 10000, Qty: 10000, Show: 10000, Stop: 10000}
	wantBytes(t, place(o), bytes(1, 39, 15, 0, 9, 0, 2, 0, 5, 39, 16, 39, 16, 39, 16, 39, 16, 40))
	o = api.Order{Id: 258, Who: 3, Side: api.Buy, Kind: api.Market, Qty: 772, Stop: 1286}
	wantBytes(t, place(o), bytes(1, 1, 2, 0, 3, 0, 1, 0, 2, 0, 0, 3, 4, 0, 0, 5, 6, 28))
	wantBytes(t, place(limit()), bytes(1, 18, 52, 0, 7, 0, 2, 0, 1, 3, 4, 2, 1, 1, 2, 5, 6, 105))
}

func TestCancelAsBytes(t *testing.T) {
	wantBytes(t, cancel(1), bytes(2, 0, 1, 3))
	wantBytes(t, cancel(255), bytes(2, 0, 255, 6))
	wantBytes(t, cancel(256), bytes(2, 1, 0, 3))
	wantBytes(t, cancel(9999), bytes(2, 39, 15, 56))
}

func TestSwapAsBytes(t *testing.T) {
	wantBytes(t, swap(258, 772, 1286), bytes(3, 1, 2, 3, 4, 5, 6, 24))
	wantBytes(t, swap(1, 1, 1), bytes(3, 0, 1, 0, 1, 0, 1, 6))
	wantBytes(t, swap(9999, 10000, 10000), bytes(3, 39, 15, 39, 16, 39, 16, 167))
}

func TestPayAndGiveAsBytes(t *testing.T) {
	wantBytes(t, pay(1, 1), bytes(4, 1, 0, 0, 0, 1, 6))
	wantBytes(t, pay(9, 1000000000), bytes(4, 9, 59, 154, 202, 0, 177))
	wantBytes(t, give(2, 16909060), bytes(5, 2, 1, 2, 3, 4, 17))
	wantBytes(t, give(3, 65536), bytes(5, 3, 0, 1, 0, 0, 9))
}

// The sum is never 251 or above.
func TestTheSumAroundItsModulo(t *testing.T) {
	wantBytes(t, cancel(248), bytes(2, 0, 248, 250))
	wantBytes(t, cancel(249), bytes(2, 0, 249, 0))
	wantBytes(t, cancel(250), bytes(2, 0, 250, 1))
	wantBytes(t, cancel(254), bytes(2, 0, 254, 5))
	wantBytes(t, pay(1, 1<<24-1), bytes(4, 1, 0, 255, 255, 255, 17))
}

// All fields at their bounds, one by one.
func TestCommandsAtTheirBounds(t *testing.T) {
	for _, c := range each() {
		for _, b := range bounds(c.What) {
			if b.number == kind || b.number == qty || b.number == show {
				continue
			}
			wantGood(t, with(c, b.number, b.low))
			wantGood(t, with(c, b.number, b.high))
		}
	}
	wantGood(t, swap(7, 99, 1))
	wantGood(t, swap(7, 99, 10000))
}

// Of an order more goes together than each number by itself: chapter 2's Check.
func TestOrdersAtTheirBounds(t *testing.T) {
	c := with(place(limit()), show, 0)
	for _, to := range []int{api.Limit, api.Now, api.Whole, api.Post} {
		wantGood(t, with(c, kind, to))
	}
	wantGood(t, with(with(c, kind, api.Market), price, 0))
	wantGood(t, with(c, qty, 1))
	wantGood(t, with(c, qty, 10000))
	for _, to := range []int{api.Limit, api.Post} {
		wantGood(t, with(with(c, kind, to), show, 513))
		wantGood(t, with(with(c, kind, to), show, 1))
	}
}

func TestPackOneBehindTheOther(t *testing.T) {
	l := commands(pay(1, 1), cancel(1), swap(1, 1, 1), give(3, 65536))
	want := bytes(
		7, 4, 1, 0, 0, 0, 1, 6,
		4, 2, 0, 1, 3,
		8, 3, 0, 1, 0, 1, 0, 1, 6,
		7, 5, 3, 0, 1, 0, 0, 9,
	)
	wantPacked(t, l, want)
	wantUnpacked(t, want, l...)
	placed := place(api.Order{Id: 1, Who: 1, Side: api.Buy, Kind: api.Limit, Price: 98, Qty: 5})
	want = bytes(4, 2, 0, 1, 3, 18, 1, 0, 1, 0, 1, 0, 1, 0, 1, 0, 98, 0, 5, 0, 0, 0, 0, 108)
	wantPacked(t, commands(cancel(1), placed), want)
	wantUnpacked(t, want, cancel(1), placed)
}

func TestNothingPacked(t *testing.T) {
	wantPacked(t, nil, "")
	wantPacked(t, commands(), "")
	wantUnpacked(t, "")
}

func TestTheSameCommandSeveralTimes(t *testing.T) {
	for _, c := range each() {
		one := written(t, c)
		want := strings.Repeat(bytes(byte(len(one)))+one, 3)
		wantPacked(t, commands(c, c, c), want)
		wantUnpacked(t, want, c, c, c)
	}
}

func TestAsManyAsMayBePacked(t *testing.T) {
	for _, c := range each() {
		one := written(t, c)
		for _, count := range []int{399, 400} {
			want := strings.Repeat(bytes(byte(len(one)))+one, count)
			wantPacked(t, slices.Repeat(commands(c), count), want)
			wantUnpacked(t, want, slices.Repeat(commands(c), count)...)
		}
	}
}

// Packs one behind the other are a pack of all.
func TestPacksJoined(t *testing.T) {
	a, b := each(), commands(give(2, 7), cancel(8))
	want := slices.Concat(a, b)
	wantPacked(t, want, packed(t, a...)+packed(t, b...))
	wantUnpacked(t, packed(t, a...)+packed(t, b...), want...)
}

// Cut has the bytes of the first command of a pack, and those behind it.
func TestCut(t *testing.T) {
	one, more := written(t, cancel(515)), packed(t, pay(1, 2), cancel(3))
	whole := packed(t, cancel(515)) + more
	for end := range len(one) + 1 {
		wantCut(t, whole[:end], "", "", false)
	}
	for end := range len(more) + 1 {
		wantCut(t, whole[:1+len(one)+end], one, more[:end], true)
	}
	// It asks for the length alone.
	wantCut(t, bytes(0), "", "", true)
	wantCut(t, bytes(0, 0), "", bytes(0), true)
	wantCut(t, bytes(1, 77), bytes(77), "", true)
	wantCut(t, bytes(255)+strings.Repeat("x", 254), "", "", false)
	wantCut(t, bytes(255)+strings.Repeat("x", 256), strings.Repeat("x", 255), "x", true)
}

func wantCut(t *testing.T, b, one, others string, whole bool) {
	t.Helper()
	if gotOne, gotOthers, got := wire.Cut(b); gotOne != one || gotOthers != others || got != whole {
		t.Errorf("Cut(%q): got %q %q %v, want %q %q %v", b, gotOne, gotOthers, got, one, others, whole)
	}
}
