package side_test

import (
	"math"
	"slices"
	"testing"

	"pitfloor/api"
	"pitfloor/plain"
	"pitfloor/queue"
	"pitfloor/side"
)

// S1: Check.

var noSides = []int{math.MinInt, -2, -1, 0, 3, 4, 1<<32 + 1, math.MaxInt}

func wantCheck(t *testing.T, s int, l []api.Level, want api.Errno) {
	t.Helper()
	if got := plain.Told(side.Check(s, l)); got != want {
		t.Errorf("Check(%d, %v): got %v, want %v", s, l, got, want)
	}
}

func TestCheckTakesGoodSides(t *testing.T) {
	eachSide(func(s int) {
		wantCheck(t, s, nil, api.OK)
		wantCheck(t, s, []api.Level{}, api.OK)
		for _, counts := range [][]int{{1}, {2}, {60}, {1, 1}, {59, 1}, {1, 59}, {20, 20, 20}, {3, 1, 4, 1, 5}} {
			wantCheck(t, s, stairs(s, counts...), api.OK)
		}
		wantCheck(t, s, flat(s, 60), api.OK)
	})
}

func TestCheckSide(t *testing.T) {
	for _, s := range noSides {
		wantCheck(t, s, nil, api.ErrRange)
		wantCheck(t, s, stairs(api.Buy, 2, 1), api.ErrRange)
		wantCheck(t, s, stairs(api.Sell, 2, 1), api.ErrRange)
	}
}

func TestCheckTellsSideFirst(t *testing.T) {
	for _, s := range noSides {
		for _, f := range faults(top) {
			wantCheck(t, s, []api.Level{f.level}, api.ErrRange)
		}
		wantCheck(t, s, stairs(api.Buy, 60, 1), api.ErrRange)
		wantCheck(t, s, []api.Level{level(top, 1), level(top, 2)}, api.ErrRange)
		wantCheck(t, s, []api.Level{level(top, 1), level(top-1, 1)}, api.ErrRange)
	}
}

func TestCheckPriceAtTheBounds(t *testing.T) {
	eachSide(func(s int) {
		for _, p := range []int{1, 2, 9999, 10000} {
			wantCheck(t, s, []api.Level{level(p, 1)}, api.OK)
		}
		for _, p := range []int{math.MinInt, -1, 0, 10001, 1<<32 + 1, math.MaxInt} {
			wantCheck(t, s, []api.Level{level(p, 1)}, api.ErrRange)
			// It has no Rests either, or bad ones: the price is told first.
			wantCheck(t, s, []api.Level{level(p)}, api.ErrRange)
			wantCheck(t, s, []api.Level{level(p, 1, 1)}, api.ErrRange)
			wantCheck(t, s, []api.Level{{Price: p, Rests: []api.Rest{shaped}}}, api.ErrRange)
			wantCheck(t, s, []api.Level{level(p, row(1, 61)...)}, api.ErrRange)
		}
	})
}

func TestCheckTellsAFaultWhereverItStands(t *testing.T) {
	eachSide(func(s int) {
		for _, levels := range []int{1, 2, 3, 6} {
			good := flat(s, levels)
			for at := range levels {
				for _, f := range faults(good[at].Price) {
					wantCheck(t, s, changed(good, at, f.level), f.want)
				}
			}
		}
	})
}

func TestCheckTellsTheFirstLevelsFault(t *testing.T) {
	eachSide(func(s int) {
		good := flat(s, 4)
		for _, a := range faults(good[1].Price) {
			for _, b := range faults(good[2].Price) {
				wantCheck(t, s, changed(changed(good, 1, a.level), 2, b.level), a.want)
			}
		}
	})
}

// No Rests are no Rests, whatever lies behind their length.
func TestCheckLevelWithoutRests(t *testing.T) {
	eachSide(func(s int) {
		for _, none := range [][]api.Rest{nil, {}, rests(1, 2, 3)[:0]} {
			wantCheck(t, s, []api.Level{{Price: top, Rests: none}}, api.ErrShape)
		}
	})
}

func TestCheckPricesStandInOrder(t *testing.T) {
	for _, a := range []int{1, 2, 50, 51, 9999, 10000} {
		for _, b := range []int{1, 2, 50, 51, 9999, 10000} {
			buys, sells := api.ErrClash, api.ErrClash
			if a > b {
				buys = api.OK
			}
			if a < b {
				sells = api.OK
			}
			l := []api.Level{level(a, 1), level(b, 2)}
			wantCheck(t, api.Buy, l, buys)
			wantCheck(t, api.Sell, l, sells)
		}
	}
}

func TestCheckEveryLevelStandsBehindTheOneAhead(t *testing.T) {
	eachSide(func(s int) {
		good := flat(s, 6)
		for at := 1; at < len(good); at++ {
			for _, by := range []int{0, -1, -2, -3} {
				price := behind(s, good[at-1].Price, by)
				wantCheck(t, s, changed(good, at, level(price, at+1)), api.ErrClash)
			}
			swapped := copied(good)
			swapped[at-1], swapped[at] = swapped[at], swapped[at-1]
			wantCheck(t, s, swapped, api.ErrClash)
		}
	})
}

// Of one Level what is wrong with itself is told ahead of where it stands.
func TestCheckTellsALevelsFaultAheadOfItsPlace(t *testing.T) {
	eachSide(func(s int) {
		for _, f := range faults(top) {
			wantCheck(t, s, []api.Level{level(top, 1), f.level}, f.want)
		}
	})
}

// A Level at a wrong place is told ahead of what is wrong with a later one.
func TestCheckTellsAWrongPlaceAheadOfLaterLevels(t *testing.T) {
	eachSide(func(s int) {
		for _, f := range faults(behind(s, top, 1)) {
			wantCheck(t, s, []api.Level{level(top, 1), level(top, 2), f.level}, api.ErrClash)
			wantCheck(t, s, []api.Level{f.level, level(top, 1), level(top, 2)}, f.want)
		}
	})
}

func TestCheckFull(t *testing.T) {
	eachSide(func(s int) {
		for _, counts := range [][]int{{60, 1}, {1, 60}, {31, 30}, {20, 20, 20, 1}, {60, 60, 60}} {
			wantCheck(t, s, stairs(s, counts...), api.ErrFull)
		}
		for _, levels := range []int{61, 62, 500} {
			wantCheck(t, s, flat(s, levels), api.ErrFull)
		}
	})
}

func TestCheckTwice(t *testing.T) {
	eachSide(func(s int) {
		good := stairs(s, 2, 1, 3)
		for at := 1; at < len(good); at++ {
			for which := range good[at].Rests {
				for id := 1; id < good[at].Rests[0].Id; id++ {
					l := copied(good)
					l[at].Rests[which].Id = id
					wantCheck(t, s, l, api.ErrClash)
				}
			}
		}
		twice := flat(s, 60)
		twice[59].Rests[0].Id = 1
		wantCheck(t, s, twice, api.ErrClash)
	})
}

// One that is there twice is told only when there are not too many, and both only behind all Levels' faults.
func TestCheckOrderOfWhatIsWrongInAll(t *testing.T) {
	eachSide(func(s int) {
		twice := stairs(s, 60, 1)
		twice[1].Rests[0].Id = 1
		wantCheck(t, s, twice, api.ErrFull)
		early := flat(s, 63)
		early[1].Rests[0].Id = 1
		wantCheck(t, s, early, api.ErrFull)
		for _, f := range faults(early[62].Price) {
			wantCheck(t, s, changed(early, 62, f.level), f.want)
			wantCheck(t, s, changed(early[:3], 2, api.Level{Price: early[2].Price, Rests: f.level.Rests}), ofRests(f))
		}
		wantCheck(t, s, changed(early, 62, level(top, 63)), api.ErrClash)
	})
}

// ofRests is what is told of a Level's Rests alone.
func ofRests(f fault) api.Errno {
	if len(f.level.Rests) == 0 {
		return api.ErrShape
	}
	if err := queue.Check(f.level.Rests); err != nil {
		return plain.Told(err)
	}
	return api.ErrClash // of the Id that is there twice on the side
}

// TestCheckEverywhere holds Check against the promise's words, of all small sides, and of small ones with much ahead.
func TestCheckEverywhere(t *testing.T) {
	kinds := []api.Level{
		level(top, 1), level(top, 2), level(top, 2, 1), level(top+1, 2), level(top+1, 3), level(top-1, 3), level(top-1, 4, 4),
		level(top - 1), level(0, 1), {Price: top, Rests: []api.Rest{shaped}}, {Price: top + 1, Rests: []api.Rest{ranged}},
	}
	eachSide(func(s int) {
		many := []api.Level{level(behind(s, top, -9), row(100, 59)...)}
		eachList(kinds, 3, func(l []api.Level) {
			wantCheck(t, s, l, spoken(s, l))
			l = slices.Concat(many, l)
			wantCheck(t, s, l, spoken(s, l))
		})
	})
}

// eachList goes over all lists of up to so many Levels.
func eachList(kinds []api.Level, most int, do func(l []api.Level)) {
	var grow func(l []api.Level)
	grow = func(l []api.Level) {
		do(l)
		if len(l) == most {
			return
		}
		for _, k := range kinds {
			grow(slices.Concat(l, []api.Level{k}))
		}
	}
	grow(nil)
}

// spoken is what S1 says of a side that is one, word by word.
func spoken(s int, l []api.Level) api.Errno {
	var ids []int
	for i, v := range l {
		if v.Price < 1 || v.Price > 10000 {
			return api.ErrRange
		}
		if len(v.Rests) == 0 {
			return api.ErrShape
		}
		if err := queue.Check(v.Rests); err != nil {
			return plain.Told(err)
		}
		if i > 0 && (s == api.Buy && v.Price >= l[i-1].Price || s == api.Sell && v.Price <= l[i-1].Price) {
			return api.ErrClash
		}
		for _, r := range v.Rests {
			ids = append(ids, r.Id)
		}
	}
	if len(ids) > 60 {
		return api.ErrFull
	}
	slices.Sort(ids)
	if len(slices.Compact(slices.Clone(ids))) < len(ids) {
		return api.ErrClash
	}
	return api.OK
}
