// Package tick tells which prices there are.
package tick

import (
	"pitfloor/api"
	"pitfloor/span"
)

const (
	maxTick  = 100
	maxParts = 100
	whole    = 100 // parts of a price are hundredths of it
)

// Price tells what is wrong with one.
func Price(p int) error { return span.Check(span.Price(p)) }

// On a tick?
func On(p, tick int) (bool, error) {
	if err := span.Check(span.Price(p), ofTick(tick)); err != nil {
		return false, err
	}
	return p%tick == 0, nil
}

// Round a price.
func Round(p, tick, side int) (int, error) {
	if err := span.Check(span.Price(p), ofTick(tick), span.Side(side)); err != nil {
		return 0, err
	}
	rounded := p - p%tick
	if side == api.Sell && rounded < p {
		rounded += tick
	}
	// Near both ends the tick may have no price on the side that is asked for.
	if err := Price(rounded); err != nil {
		return 0, err
	}
	return rounded, nil
}

// Band about a price.
func Band(p, ref, parts int) (bool, error) {
	if err := span.Check(span.Price(p), span.Price(ref), span.Of(parts, 0, maxParts)); err != nil {
		return false, err
	}
	apart := max(p, ref) - min(p, ref)
	return whole*apart <= parts*ref, nil
}

// Better of two prices.
func Better(side, a, b int) (bool, error) {
	if err := span.Check(span.Side(side), span.Price(a), span.Price(b)); err != nil {
		return false, err
	}
	if side == api.Buy {
		return a < b, nil
	}
	return a > b, nil
}

func ofTick(n int) span.Span { return span.Of(n, 1, maxTick) }
