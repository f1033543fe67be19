package book_test

import (
	"slices"

	"pitfloor/api"
)

// What the tests of package book are made of.

const (
	bid = 4998 // the best prices of the books that are made: there are three prices between
	ask = 5002
)

func rest(id int) api.Rest { return api.Rest{Id: id, Who: id%9 + 1, Qty: 3, Hidden: 5, Show: 4} }

// rests have the Ids, one by one.
func rests(ids ...int) (l []api.Rest) {
	for _, id := range ids {
		l = append(l, rest(id))
	}
	return l
}

func level(price int, ids ...int) api.Level { return api.Level{Price: price, Rests: rests(ids...)} }

// row of so many Ids from one on.
func row(from, count int) (ids []int) {
	for id := from; id < from+count; id++ {
		ids = append(ids, id)
	}
	return ids
}

// behind gives the price that stands so many behind the best one of a side.
func behind(s, by int) int {
	if s == api.Buy {
		return bid - by
	}
	return ask + by
}

// stairs of Levels with so many Rests each, with Ids from one on, their prices two apart: nothing is wrong with them.
func stairs(s, from int, counts ...int) (l []api.Level) {
	for i, count := range counts {
		l = append(l, level(behind(s, 2*i), row(from, count)...))
		from += count
	}
	return l
}

const firstSell = 100 // the first Id of Sells; Buys have Ids from 1 on

// made of so many Rests a Level: nothing is wrong with it, if they are not too many.
func made(buys, sells []int) api.Book {
	return api.Book{Buys: stairs(api.Buy, 1, buys...), Sells: stairs(api.Sell, firstSell, sells...)}
}

func eachSide(do func(s int)) {
	do(api.Buy)
	do(api.Sell)
}

func levels(b api.Book, s int) []api.Level {
	if s == api.Buy {
		return b.Buys
	}
	return b.Sells
}

// with gives a book that has other Levels on a side.
func with(b api.Book, s int, l []api.Level) api.Book {
	if s == api.Buy {
		b.Buys = l
	} else {
		b.Sells = l
	}
	return b
}

// copiedLevels are copied deeply.
func copiedLevels(l []api.Level) []api.Level {
	l = slices.Clone(l)
	for i := range l {
		l[i].Rests = slices.Clone(l[i].Rests)
	}
	return l
}

func copied(b api.Book) api.Book {
	return api.Book{Buys: copiedLevels(b.Buys), Sells: copiedLevels(b.Sells)}
}

// changed gives a book with a Level that another one stands for.
func changed(b api.Book, s, at int, level api.Level) api.Book {
	l := copiedLevels(levels(b, s))
	l[at] = level
	return with(b, s, l)
}

func sameLevels(a, b []api.Level) bool {
	return slices.EqualFunc(a, b, func(a, b api.Level) bool {
		return a.Price == b.Price && slices.Equal(a.Rests, b.Rests)
	})
}

func same(a, b api.Book) bool { return sameLevels(a.Buys, b.Buys) && sameLevels(a.Sells, b.Sells) }

// Rests that something is wrong with.
var (
	ranged = api.Rest{Id: 7, Who: 0, Qty: 3}            // ErrRange
	shaped = api.Rest{Id: 7, Who: 1, Qty: 3, Hidden: 1} // ErrShape
)

// fault of a Level, and what is told of it.
type fault struct {
	level api.Level
	want  api.Errno
}

// faults are Levels with one thing wrong each: a price that is none, or what rests at the one that is given.
func faults(price int) []fault {
	return []fault{
		{level(0, 8001), api.ErrRange},
		{level(10001, 8001), api.ErrRange},
		{level(price), api.ErrShape},
		{api.Level{Price: price, Rests: append(rests(8001), ranged)}, api.ErrRange},
		{api.Level{Price: price, Rests: append(rests(8001), shaped)}, api.ErrShape},
		{level(price, row(8001, 61)...), api.ErrFull},
		{level(price, 8001, 8002, 8001), api.ErrClash},
	}
}

// eachBadBook goes over books that something is wrong with, and what Check tells of them.
func eachBadBook(do func(b api.Book, want api.Errno)) {
	good := made([]int{1, 2, 1}, []int{1, 2, 1})
	eachSide(func(s int) {
		for _, f := range faults(behind(s, 2)) {
			do(changed(good, s, 1, f.level), f.want)
		}
		do(with(good, s, stairs(3-s, 8001, 1, 1)), api.ErrClash)
		do(with(good, s, stairs(s, 8001, 60, 1)), api.ErrFull)
		do(with(good, s, []api.Level{level(behind(3-s, 0), 8001)}), api.ErrCross)
		do(with(good, s, stairs(s, levels(good, 3-s)[0].Rests[0].Id, 1)), api.ErrClash)
	})
	do(made([]int{31}, []int{30}), api.ErrFull)
}
