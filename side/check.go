package side

import (
	"pitfloor/api"
	"pitfloor/queue"
	"pitfloor/span"
	"pitfloor/tick"
)

// place of a Rest: at which Level, and which there.
type place struct{ level, rest int }

// places tells of a side that nothing is wrong with where each Id stands.
func places(side int, l []api.Level) (map[int]place, error) {
	if err := span.Check(span.Side(side)); err != nil {
		return nil, err
	}
	for i, level := range l {
		if err := checkLevel(level); err != nil {
			return nil, err
		}
		if i > 0 && !leads(side, l[i-1].Price, level.Price) {
			return nil, api.ErrClash
		}
	}
	rests := count(l)
	if rests > api.MaxRest {
		return nil, api.ErrFull
	}
	seen := see(l)
	if len(seen) < rests {
		return nil, api.ErrClash
	}
	return seen, nil
}

// checkLevel tells what is wrong with a Level, wherever it stands.
func checkLevel(level api.Level) error {
	if err := tick.Price(level.Price); err != nil {
		return err
	}
	if len(level.Rests) == 0 {
		return api.ErrShape
	}
	return queue.Check(level.Rests)
}

// leads tells whether a price stands ahead of another one: who comes from the other side meets it first.
func leads(side, a, b int) bool {
	comes := api.Buy + api.Sell - side
	better, err := tick.Better(comes, a, b)
	return err == nil && better
}

// count all Rests.
func count(l []api.Level) int {
	total := 0
	for _, level := range l {
		total += len(level.Rests)
	}
	return total
}

// see where each Id stands; of an Id that is there twice one place is left.
func see(l []api.Level) map[int]place {
	seen := map[int]place{}
	for i, level := range l {
		for k, r := range level.Rests {
			seen[r.Id] = place{i, k}
		}
	}
	return seen
}
