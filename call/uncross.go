package call

import (
	"cmp"
	"slices"

	"pitfloor/api"
)

// Uncross a call.
func Uncross(l []api.Order) (int, []api.Trade, []api.Order, error) {
	price, volume, err := Price(l)
	if err != nil {
		return 0, nil, nil, err
	}
	left := slices.Clone(l)
	trades := trade(line(left, api.Buy), line(left, api.Sell), price, volume)
	left = slices.DeleteFunc(left, func(o api.Order) bool { return o.Qty == 0 })
	return price, trades, left, nil
}

// line up the orders of a side, where they stand: who gives the best price ahead.
func line(l []api.Order, side int) []*api.Order {
	var own []*api.Order
	for i := range l {
		if l[i].Side == side {
			own = append(own, &l[i])
		}
	}
	// Equal ones must stay as they came, so that the sort is a stable one.
	slices.SortStableFunc(own, func(a, b *api.Order) int {
		if side == api.Buy {
			return cmp.Compare(b.Price, a.Price)
		}
		return cmp.Compare(a.Price, b.Price)
	})
	return own
}

// trade so much at a price, and take it off the orders; of one line it is just what all who may trade there want, so that it ends with one of them.
func trade(buys, sells []*api.Order, price, volume int) []api.Trade {
	var trades []api.Trade
	for volume > 0 {
		buy, sell := buys[0], sells[0]
		qty := min(buy.Qty, sell.Qty)
		trades = append(trades, api.Trade{
			Maker: sell.Id, Taker: buy.Id, From: sell.Who, To: buy.Who, Price: price, Qty: qty,
		})
		volume -= qty
		buys, sells = take(buys, qty), take(sells, qty)
	}
	return trades
}

// take so much off the first of a line; who wants nothing more goes.
func take(l []*api.Order, qty int) []*api.Order {
	l[0].Qty -= qty
	if l[0].Qty == 0 {
		return l[1:]
	}
	return l
}
