// Package span tells whether numbers lie between their bounds.
package span

import (
	"slices"

	"pitfloor/api"
)

// Span is a number, and the least and the greatest that may stand in its place.
type Span struct{ n, low, high int }

// Of a number from low to high.
func Of(n, low, high int) Span { return Span{n, low, high} }

// Price is one that chapter 1 allows.
func Price(n int) Span { return Of(n, 1, api.MaxPrice) }

// Side is Buy or Sell.
func Side(n int) Span { return Of(n, api.Buy, api.Sell) }

// Id of an order.
func Id(n int) Span { return Of(n, 1, api.MaxId) }

// Who is a trader.
func Who(n int) Span { return Of(n, 1, api.MaxWho) }

// Qty is at least 1: nobody wants nothing.
func Qty(n int) Span { return Of(n, 1, api.MaxQty) }

// Mode of what is done when one would trade with oneself.
func Mode(n int) Span { return Of(n, api.Allow, api.DropBoth) }

// Check tells whether all numbers may stand where they do.
func Check(spans ...Span) error {
	if slices.ContainsFunc(spans, func(s Span) bool { return s.n < s.low || s.n > s.high }) {
		return api.ErrRange
	}
	return nil
}
