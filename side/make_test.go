package side_test

import (
	"slices"

	"pitfloor/api"
)

// What the tests of package side are made of.

const top = 5000 // the best price of the sides that are made

func rest(id int) api.Rest { return api.Rest{Id: id, Who: id%9 + 1, Qty: 3, Hidden: 5, Show: 4} }

// rests have the Ids, one by one.
func rests(ids ...int) (l []api.Rest) {
	for _, id := range ids {
		l = append(l, rest(id))
	}
	return l
}

func level(price int, ids ...int) api.Level { return api.Level{Price: price, Rests: rests(ids...)} }

// row of so many Ids from one on.
func row(from, count int) (ids []int) {
	for id := from; id < from+count; id++ {
		ids = append(ids, id)
	}
	return ids
}

// behind gives the price that stands so many behind another one.
func behind(side, price, by int) int {
	if side == api.Buy {
		return price - by
	}
	return price + by
}

// stairs of Levels with so many Rests each, with Ids from 1 on, their prices two apart: nothing is wrong with them.
func stairs(side int, counts ...int) (l []api.Level) {
	next := 1
	for i, count := range counts {
		l = append(l, level(behind(side, top, 2*i), row(next, count)...))
		next += count
	}
	return l
}

// flat are so many Levels of a Rest each.
func flat(side, levels int) []api.Level {
	return stairs(side, slices.Repeat([]int{1}, levels)...)
}

func eachSide(do func(side int)) {
	do(api.Buy)
	do(api.Sell)
}

// copied deeply.
func copied(l []api.Level) []api.Level {
	l = slices.Clone(l)
	for i := range l {
		l[i].Rests = slices.Clone(l[i].Rests)
	}
	return l
}

// changed gives a side with a Level that another one stands for.
func changed(l []api.Level, at int, level api.Level) []api.Level {
	l = copied(l)
	l[at] = level
	return l
}

func same(a, b []api.Level) bool {
	return slices.EqualFunc(a, b, func(a, b api.Level) bool {
		return a.Price == b.Price && slices.Equal(a.Rests, b.Rests)
	})
}

// Rests that something is wrong with.
var (
	ranged = api.Rest{Id: 7, Who: 0, Qty: 3}            // ErrRange
	shaped = api.Rest{Id: 7, Who: 1, Qty: 3, Hidden: 1} // ErrShape
)

// fault of a Level, and what is told of it.
type fault struct {
	level api.Level
	want  api.Errno
}

// faults are Levels with one thing wrong each: a price that is none, or what rests at the one that is given.
func faults(price int) []fault {
	return []fault{
		{level(0, 8001), api.ErrRange},
		{level(10001, 8001), api.ErrRange},
		{level(price), api.ErrShape},
		{api.Level{Price: price, Rests: append(rests(8001), ranged)}, api.ErrRange},
		{api.Level{Price: price, Rests: append(rests(8001), shaped)}, api.ErrShape},
		{level(price, row(8001, 61)...), api.ErrFull},
		{level(price, 8001, 8002, 8001), api.ErrClash},
	}
}
