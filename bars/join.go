package bars

import (
	"slices"

	"pitfloor/api"
	"pitfloor/span"
)

// mostQty is what a Bar has at most: as many trades as may be, each of as much as may be.
const mostQty = api.MaxTrades * api.MaxQty

// Join bars.
func Join(l []api.Bar) (api.Bar, error) {
	if len(l) > api.MaxTrades {
		return api.Bar{}, api.ErrFull
	}
	if len(l) == 0 {
		return api.Bar{}, api.ErrNone
	}
	// Whatever is wrong with a Bar is ErrShape, so that it does not matter with which one it is.
	if slices.ContainsFunc(l, func(b api.Bar) bool { return checkBar(b) != nil }) {
		return api.Bar{}, api.ErrShape
	}
	all := l[0]
	for _, b := range l[1:] {
		all = behind(all, b)
	}
	return all, nil
}

// checkBar tells what is wrong with a Bar. High is bound by Low alone: no greatest price is asked of it.
func checkBar(b api.Bar) error {
	low, open, last := span.Of(b.Low, 1, b.High), span.Of(b.Open, b.Low, b.High), span.Of(b.Close, b.Low, b.High)
	if span.Check(low, open, last, span.Of(b.Qty, 1, mostQty)) != nil {
		return api.ErrShape
	}
	return nil
}

// barOf trades, of which there is one at least.
func barOf(l []api.Trade) api.Bar {
	all := single(l[0])
	for _, t := range l[1:] {
		all = behind(all, single(t))
	}
	return all
}

// single is the Bar of one trade.
func single(t api.Trade) api.Bar {
	return api.Bar{Open: t.Price, High: t.Price, Low: t.Price, Close: t.Price, Qty: t.Qty}
}

// behind is the Bar of two, the second one behind the first.
func behind(a, b api.Bar) api.Bar {
	return api.Bar{Open: a.Open, High: max(a.High, b.High), Low: min(a.Low, b.Low), Close: b.Close, Qty: a.Qty + b.Qty}
}
