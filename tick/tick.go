// Package tick tells which prices there are.
package tick

import "pitfloor/api"

const (
	maxTick  = 100
	maxParts = 100
	whole    = 100 // parts of a price are hundredths of it
)

// Price tells what is wrong with one.
func Price(p int) error { return within(p, 1, api.MaxPrice) }

// On a tick?
func On(p, tick int) (bool, error) {
	if err := priceAndTick(p, tick); err != nil {
		return false, err
	}
	return p%tick == 0, nil
}

// Round a price.
func Round(p, tick, side int) (int, error) {
	if err := priceAndTick(p, tick); err != nil {
		return 0, err
	}
	if err := knownSide(side); err != nil {
		return 0, err
	}
	rounded := p - p%tick
	if side == api.Sell && rounded < p {
		rounded += tick
	}
	// Near both ends the tick may have no price on the side that is asked for.
	if err := Price(rounded); err != nil {
		return 0, err
	}
	return rounded, nil
}

// Band about a price.
func Band(p, ref, parts int) (bool, error) {
	if err := bothPrices(p, ref); err != nil {
		return false, err
	}
	if err := within(parts, 0, maxParts); err != nil {
		return false, err
	}
	apart := max(p, ref) - min(p, ref)
	return whole*apart <= parts*ref, nil
}

// Better of two prices.
func Better(side, a, b int) (bool, error) {
	if err := knownSide(side); err != nil {
		return false, err
	}
	if err := bothPrices(a, b); err != nil {
		return false, err
	}
	if side == api.Buy {
		return a < b, nil
	}
	return a > b, nil
}

func priceAndTick(p, tick int) error {
	if err := Price(p); err != nil {
		return err
	}
	return within(tick, 1, maxTick)
}

func bothPrices(a, b int) error {
	if err := Price(a); err != nil {
		return err
	}
	return Price(b)
}

func knownSide(side int) error {
	if side != api.Buy && side != api.Sell {
		return api.ErrRange
	}
	return nil
}

func within(n, low, high int) error {
	if n < low || n > high {
		return api.ErrRange
	}
	return nil
}
