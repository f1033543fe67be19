package log_test

import (
	"fmt"
	"slices"
	"testing"

	"pitfloor/api"
	"pitfloor/floor"
	"pitfloor/log"
	"pitfloor/plain"
)

// What the tests of package log are made of.

func pay(who, n int) api.Command { return api.Command{What: api.Pay, Who: who, N: n} }

func give(who, n int) api.Command { return api.Command{What: api.Give, Who: who, N: n} }

func place(o api.Order) api.Command { return api.Command{What: api.Place, Order: o} }

func cancel(id int) api.Command { return api.Command{What: api.Cancel, Order: api.Order{Id: id}} }

func swap(id, price, qty int) api.Command {
	return api.Command{What: api.Swap, Order: api.Order{Id: id, Price: price, Qty: qty}}
}

// limit is an order that rests if it meets nobody.
func limit(id, who, side, price, qty int) api.Order {
	return api.Order{Id: id, Who: who, Side: side, Kind: api.Limit, Price: price, Qty: qty}
}

func buy(id, who, price, qty int) api.Command { return place(limit(id, who, api.Buy, price, qty)) }

func sell(id, who, price, qty int) api.Command { return place(limit(id, who, api.Sell, price, qty)) }

// sleeps till its Stop, whoever buys.
func sleeps(id, who, price, qty, stop int) api.Command {
	c := buy(id, who, price, qty)
	c.Order.Stop = stop
	return c
}

func rested(id, qty, price int) api.Event {
	return api.Event{What: api.Rested, Id: id, Qty: qty, Price: price}
}

func traded(maker, taker, from, to, price, qty int) api.Event {
	t := api.Trade{Maker: maker, Taker: taker, From: from, To: to, Price: price, Qty: qty}
	return api.Event{What: api.Traded, Trade: t}
}

func commands(l ...api.Command) []api.Command { return l }

// day of commands, each of which a Floor does, if it does those ahead of it: all that there are, with Trades, one who wakes, and one who meets itself.
func day() []api.Command {
	return commands(
		pay(1, 100000), give(2, 500), pay(3, 5000), give(3, 40),
		sell(1, 2, 101, 30), sleeps(2, 3, 103, 4, 101), buy(3, 1, 99, 12), sell(4, 3, 102, 5),
		buy(5, 1, 101, 6), swap(1, 101, 10), swap(3, 100, 12), sell(6, 3, 100, 2),
		buy(7, 3, 102, 1), sleeps(8, 1, 90, 3, 200), cancel(8), pay(9, 1), cancel(3),
		pay(4, 900), give(4, 9), buy(9, 4, 50, 3), sell(10, 4, 50, 4),
	)
}

// look at all that a Floor tells of itself.
func look(f *floor.Floor) string {
	text := fmt.Sprint(f.Book(), f.Stops(), f.Last())
	for who := 1; who <= api.MaxWho; who++ {
		has, err := f.Purse(who)
		text += fmt.Sprint(has, err)
	}
	return text
}

// floorOf is what is seen of a Floor to which commands were done.
func floorOf(t *testing.T, mode int, l ...api.Command) string {
	t.Helper()
	f, err := floor.New(mode)
	if err != nil {
		t.Fatalf("floor.New(%d): %v", mode, err)
	}
	for _, c := range l {
		if _, err := f.Do(c); err != nil {
			t.Fatalf("a Floor's Do(%+v): %v", c, err)
		}
	}
	return look(f)
}

// empty is a Log to which nothing was done.
func empty(t *testing.T, mode int) *log.Log {
	t.Helper()
	l, err := log.New(mode)
	if err != nil {
		t.Fatalf("New(%d): %v", mode, err)
	}
	return l
}

// kept is a Log that did commands.
func kept(t *testing.T, mode int, c ...api.Command) *log.Log {
	t.Helper()
	l := empty(t, mode)
	do(t, l, c...)
	return l
}

// do commands with which nothing is wrong.
func do(t *testing.T, l *log.Log, all ...api.Command) {
	t.Helper()
	for _, c := range all {
		if _, err := l.Do(c); err != nil {
			t.Fatalf("Do(%+v): %v", c, err)
		}
	}
}

// sync with which nothing is wrong.
func sync(t *testing.T, l *log.Log) {
	t.Helper()
	if err := l.Sync(); err != nil || l.Safe() != l.Bytes() {
		t.Fatalf("Sync: got %v, and %d of %d bytes are safe", err, l.Safe(), l.Bytes())
	}
}

func wantDone(t *testing.T, l *log.Log, c api.Command, want ...api.Event) {
	t.Helper()
	if got, err := l.Do(c); err != nil || !slices.Equal(got, want) {
		t.Errorf("Do(%+v): got %v %v, want %v", c, got, err, want)
	}
}

func wantBytes(t *testing.T, l *log.Log, bytes, safe int) {
	t.Helper()
	if l.Bytes() != bytes || l.Safe() != safe {
		t.Errorf("got %d bytes, %d of them safe, want %d and %d", l.Bytes(), l.Safe(), bytes, safe)
	}
}

// wantFloor of a Log: the one that comes of commands.
func wantFloor(t *testing.T, l *log.Log, mode int, c ...api.Command) {
	t.Helper()
	if got, want := look(l.Floor()), floorOf(t, mode, c...); got != want {
		t.Errorf("got the Floor %v, want %v", got, want)
	}
}

// wantRefused wants an error, nothing told beside it, and that nothing is another thing behind it.
func wantRefused(t *testing.T, l *log.Log, c api.Command, want api.Errno) {
	t.Helper()
	was, bytes, safe := look(l.Floor()), l.Bytes(), l.Safe()
	if got, err := l.Do(c); len(got) > 0 || plain.Told(err) != want {
		t.Errorf("Do(%+v): got %v %v, want %v", c, got, err, want)
	}
	if is := look(l.Floor()); is != was {
		t.Errorf("Do(%+v): %v is now %v", c, was, is)
	}
	wantBytes(t, l, bytes, safe)
}

// wantStops at a command: of its record half the bytes are there, and the Floor is as it was.
func wantStops(t *testing.T, l *log.Log, c api.Command, record int) {
	t.Helper()
	was, bytes, safe := look(l.Floor()), l.Bytes(), l.Safe()
	if got, err := l.Do(c); len(got) > 0 || plain.Told(err) != api.ErrState {
		t.Errorf("Do(%+v): got %v %v, want ErrState", c, got, err)
	}
	if is := look(l.Floor()); is != was {
		t.Errorf("Do(%+v): %v is now %v", c, was, is)
	}
	wantBytes(t, l, bytes+record/2, safe)
}

// wantNotSynced wants that a Sync does nothing but tell ErrState.
func wantNotSynced(t *testing.T, l *log.Log) {
	t.Helper()
	was, bytes, safe := look(l.Floor()), l.Bytes(), l.Safe()
	if err := l.Sync(); plain.Told(err) != api.ErrState {
		t.Errorf("Sync: got %v, want ErrState", err)
	}
	if is := look(l.Floor()); is != was {
		t.Errorf("Sync: %v is now %v", was, is)
	}
	wantBytes(t, l, bytes, safe)
}

// wantStopped wants that nothing goes any more, and that nothing is another thing behind it.
func wantStopped(t *testing.T, l *log.Log) {
	t.Helper()
	wantRefused(t, l, pay(9, 1), api.ErrState)
	wantNotSynced(t, l)
}

// records tells how many bytes the record of each command has, behind those ahead of it.
func records(t *testing.T, mode int, all ...api.Command) (sizes []int) {
	t.Helper()
	l := empty(t, mode)
	for _, c := range all {
		was := l.Bytes()
		do(t, l, c)
		sizes = append(sizes, l.Bytes()-was)
	}
	return sizes
}

func sum(l []int) (all int) {
	for _, n := range l {
		all += n
	}
	return all
}
