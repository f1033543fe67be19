package queue

import (
	"slices"

	"pitfloor/api"
	"pitfloor/span"
)

// Take so much.
func Take(l []api.Rest, n int) ([]api.Fill, []api.Rest, error) {
	if err := Check(l); err != nil {
		return nil, nil, err
	}
	if err := span.Check(span.Qty(n)); err != nil {
		return nil, nil, err
	}
	var fills []api.Fill
	left := slices.Concat(l)
	for n > 0 && len(left) > 0 {
		first := left[0]
		qty := min(n, first.Qty)
		fills = append(fills, api.Fill{Id: first.Id, Who: first.Who, Qty: qty})
		left = takeFirst(left, qty)
		n -= qty
	}
	return fills, left, nil
}

// takeFirst takes so much of what the first one shows, in the queue's own memory.
func takeFirst(l []api.Rest, qty int) []api.Rest {
	l[0].Qty -= qty
	first := l[0]
	if first.Qty > 0 {
		return l
	}
	if first.Hidden == 0 {
		return l[1:]
	}
	// What was hidden came into sight last, so that it waits behind all others.
	first.Qty = min(first.Show, first.Hidden)
	first.Hidden -= first.Qty
	return append(l[1:], first)
}
