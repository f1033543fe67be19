package call_test

import (
	"slices"
	"testing"

	"pitfloor/api"
)

// highest Price of the orders that are held against the words here.
const highest = 6

// piece is an order's Id and trader, as often as it wants a piece.
type piece struct{ id, who int }

// pieces of all orders of a side that have a Price, one behind the other.
func pieces(l []api.Order, side, price int) (all []piece) {
	for _, o := range l {
		if o.Side == side && o.Price == price {
			all = append(all, slices.Repeat([]piece{{o.Id, o.Who}}, o.Qty)...)
		}
	}
	return all
}

// lines of what may be traded at a price: Buys from the highest Price on, Sells from the lowest.
func lines(l []api.Order, price int) (buys, sells []piece) {
	for p := highest; p >= price; p-- {
		buys = append(buys, pieces(l, api.Buy, p)...)
	}
	for p := 1; p <= price; p++ {
		sells = append(sells, pieces(l, api.Sell, p)...)
	}
	return buys, sells
}

func spokenVolume(l []api.Order, price int) volume {
	buys, sells := lines(l, price)
	return volume{qty: min(len(buys), len(sells)), over: len(buys) - len(sells)}
}

// spokenPrice is C1's Price: of all Prices those that are best by one thing, of these those by the next.
func spokenPrice(l []api.Order) (int, int) {
	var prices []int
	for p := 1; p <= highest; p++ {
		if slices.ContainsFunc(l, func(o api.Order) bool { return o.Price == p }) {
			prices = append(prices, p)
		}
	}
	qty := func(p int) int { return -spokenVolume(l, p).qty }
	over := func(p int) int { return max(spokenVolume(l, p).over, -spokenVolume(l, p).over) }
	prices = least(least(prices, qty), over)
	if len(prices) == 0 || qty(prices[0]) == 0 {
		return 0, 0
	}
	return prices[0], -qty(prices[0])
}

// least keeps those of which a measure is the least, in order.
func least(l []int, measure func(n int) int) (kept []int) {
	for _, n := range l {
		if !slices.ContainsFunc(l, func(other int) bool { return measure(other) < measure(n) }) {
			kept = append(kept, n)
		}
	}
	return kept
}

// spokenEnd is C1's Price and C2's Uncross, one piece at a time.
func spokenEnd(l []api.Order) end {
	price, qty := spokenPrice(l)
	if qty == 0 {
		return refused(api.ErrNone)
	}
	want := end{price: price, qty: qty, at: price, left: slices.Clone(l)}
	buys, sells := lines(l, price)
	for i := range qty {
		b, s := buys[i], sells[i]
		if i == 0 || b != buys[i-1] || s != sells[i-1] {
			want.trades = append(want.trades, api.Trade{Maker: s.id, Taker: b.id, From: s.who, To: b.who, Price: price})
		}
		want.trades[len(want.trades)-1].Qty++
		for k := range want.left {
			if want.left[k].Id == b.id || want.left[k].Id == s.id {
				want.left[k].Qty--
			}
		}
	}
	want.left = slices.DeleteFunc(want.left, func(o api.Order) bool { return o.Qty == 0 })
	return want
}

// wantSpoken holds all three calls against the promises' words.
func wantSpoken(t *testing.T, l []api.Order) {
	t.Helper()
	for price := 1; price <= highest; price++ {
		if got, want := volumeOf(l, price), spokenVolume(l, price); got != want {
			t.Errorf("Volume(%v, %d): got %v, want %v", l, price, got, want)
		}
	}
	wantEnd(t, l, spokenEnd(l))
	wantAll(t, l)
}

// wantAll: nothing is made or lost, nobody trades at a price that is worse than one's own, and nothing more could be traded.
func wantAll(t *testing.T, l []api.Order) {
	t.Helper()
	got := endOf(l)
	if got.err != api.OK {
		return
	}
	had := map[int]api.Order{}
	for _, o := range l {
		had[o.Id] = o
	}
	sums := map[int]int{}
	for _, v := range got.trades {
		b, s := had[v.Taker], had[v.Maker]
		if v.Qty < 1 || b.Side != api.Buy || s.Side != api.Sell || b.Price < v.Price || s.Price > v.Price || v.From != s.Who || v.To != b.Who {
			t.Errorf("of %v: the Trade %v", l, v)
		}
		sums[v.Taker] += v.Qty
		sums[v.Maker] += v.Qty
	}
	for _, o := range got.left {
		sums[o.Id] += o.Qty
	}
	for _, o := range l {
		if sums[o.Id] != o.Qty {
			t.Errorf("of %v: %d of order %d are somewhere: %v", l, sums[o.Id], o.Id, got)
		}
	}
	wantNone(t, got.left)
}

// TestEverywhere holds all calls of up to four small orders against the promises' words.
func TestEverywhere(t *testing.T) {
	var l []api.Order
	var further func(more int)
	further = func(more int) {
		wantSpoken(t, l)
		if more == 0 {
			return
		}
		for side := api.Buy; side <= api.Sell; side++ {
			for price := 2; price <= 4; price++ {
				for qty := 1; qty <= 2; qty++ {
					l = append(l, wants(90-len(l), side, price, qty))
					further(more - 1)
					l = l[:len(l)-1]
				}
			}
		}
	}
	further(4)
}

// TestLongCalls holds calls of many orders, of few and of many pieces, against the promises' words.
func TestLongCalls(t *testing.T) {
	for begin := range 600 {
		seed := uint32(begin)
		next := func(n int) int {
			seed = seed*1664525 + 1013904223
			return int(seed>>8) % n
		}
		ids := make([]int, 60)
		for i := range ids {
			at := next(i + 1)
			ids[i], ids[at] = ids[at], i+1
		}
		var l []api.Order
		most := 1 + next(20)
		for _, id := range ids[:next(61)] {
			l = append(l, wants(id, api.Buy+next(2), 1+next(highest), 1+next(most)))
		}
		wantSpoken(t, l)
	}
}
