package log_test

import (
	"slices"
	"testing"

	"pitfloor/api"
	"pitfloor/floor"
	"pitfloor/log"
	"pitfloor/plain"
	"pitfloor/wire"
)

// L1 and L2 held against their words: a plain log that keeps the commands themselves, and knows of each how many bytes its record has.

type words struct {
	mode    int
	floor   *floor.Floor
	done    []api.Command
	sizes   []int // of their records
	half    int   // bytes of a record that was not written to its end
	safe    int   // how many of the commands are
	fail    bool
	steps   int // till it fails
	stopped bool
}

func newWords(t *testing.T, mode int) *words {
	t.Helper()
	w := &words{mode: mode}
	w.rebuild(t)
	return w
}

// rebuild the floor of the commands that are left.
func (w *words) rebuild(t *testing.T) {
	t.Helper()
	f, err := floor.New(w.mode)
	if err != nil {
		t.Fatal(err)
	}
	for _, c := range w.done {
		if _, err := f.Do(c); err != nil {
			t.Fatalf("%+v was done, and is now %v", c, err)
		}
	}
	w.floor = f
}

func (w *words) bytes() int { return sum(w.sizes) + w.half }

// step of those that are counted: is it the one that fails?
func (w *words) step() bool {
	if !w.fail {
		return false
	}
	w.stopped = w.steps == 0
	w.steps--
	return w.stopped
}

// size of a record: a byte tells how many of the command follow.
func size(t *testing.T, c api.Command) int {
	t.Helper()
	b, err := wire.Command(c)
	if err != nil {
		t.Fatal(err)
	}
	return 1 + len(b)
}

func (w *words) do(t *testing.T, c api.Command) ([]api.Event, api.Errno) {
	t.Helper()
	if w.stopped {
		return nil, api.ErrState
	}
	if err := wire.Check(c); err != nil {
		return nil, plain.Told(err)
	}
	events, err := w.floor.Do(c)
	if err != nil {
		return nil, plain.Told(err)
	}
	if w.step() {
		w.half = size(t, c) / 2
		w.rebuild(t)
		return nil, api.ErrState
	}
	w.done, w.sizes = append(w.done, c), append(w.sizes, size(t, c))
	return events, api.OK
}

func (w *words) sync() api.Errno {
	if w.stopped || w.step() {
		return api.ErrState
	}
	w.safe = len(w.done)
	return api.OK
}

func (w *words) crash(t *testing.T, keep int) {
	t.Helper()
	count := w.safe + whole(w.sizes[w.safe:], keep)
	*w = words{mode: w.mode, done: w.done[:count], sizes: w.sizes[:count], safe: count}
	w.rebuild(t)
}

// dice are numbers that look as if they came by chance, and are the same in each run.
type dice uint64

func (d *dice) below(n int) int {
	*d = *d*6364136223846793005 + 1442695040888963407
	return int(*d>>33) % n
}

// command of a few Ids, prices and traders; now and then one that is none.
func (d *dice) command() api.Command {
	id, who, price, qty := 1+d.below(40), 1+d.below(4), 96+d.below(9), 1+d.below(12)
	switch d.below(12) {
	case 0:
		return cancel(id)
	case 1:
		return swap(id, price, qty)
	case 2:
		return pay(who, 1+d.below(3000))
	case 3:
		return give(who, 1+d.below(30))
	case 4:
		return with(buy(id, who, price, qty), func(c *api.Command) { c.N = d.below(2) })
	case 5:
		return sell(id, d.below(5), price, qty)
	case 6:
		return with(sleeps(id, who, price, qty, 95+d.below(9)), func(c *api.Command) { c.Order.Side = 1 + d.below(2) })
	case 7:
		return with(buy(id, who, price, qty), func(c *api.Command) { c.Order.Kind = 3 + d.below(3) })
	}
	return place(limit(id, who, 1+d.below(2), price, qty))
}

// count what was met on the way, so that it is known that the walks come by it.
type count struct{ done, refused, halves, syncs, lost, cut int }

// wantSame of both: what they tell of themselves.
func wantSame(t *testing.T, l *log.Log, w *words) bool {
	t.Helper()
	if l.Bytes() != w.bytes() || l.Safe() != sum(w.sizes[:w.safe]) {
		t.Errorf("got %d bytes, %d of them safe, want %d and %d", l.Bytes(), l.Safe(), w.bytes(), sum(w.sizes[:w.safe]))
		return false
	}
	if got, want := look(l.Floor()), look(w.floor); got != want {
		t.Errorf("got the Floor %v, want %v", got, want)
		return false
	}
	return true
}

// turn of a walk: something is done to both.
func turn(t *testing.T, d *dice, l *log.Log, w *words, n *count) {
	t.Helper()
	switch d.below(40) {
	case 0, 1, 2, 3:
		got, want := plain.Told(l.Sync()), w.sync()
		if got != want {
			t.Errorf("Sync: got %v, want %v", got, want)
		}
		if got == api.OK {
			n.syncs++
		}
	case 4, 5:
		steps := d.below(12) - 2
		l.Fail(steps)
		w.fail, w.steps = steps >= 0, steps
	case 6:
		keep := d.below(w.bytes()-sum(w.sizes[:w.safe])+20) - 10
		was := len(w.done)
		l.Crash(keep)
		w.crash(t, keep)
		n.lost += was - len(w.done)
		if keep > 0 && was > len(w.done) && len(w.done) > 0 {
			n.cut++
		}
	default:
		turnOfDo(t, d.command(), l, w, n)
	}
}

func turnOfDo(t *testing.T, c api.Command, l *log.Log, w *words, n *count) {
	t.Helper()
	half := w.half
	want, wrong := w.do(t, c)
	got, err := l.Do(c)
	if plain.Told(err) != wrong || !slices.Equal(got, want) {
		t.Errorf("Do(%+v): got %v %v, want %v %v", c, got, err, want, wrong)
	}
	switch {
	case wrong == api.OK:
		n.done++
	case w.half != half:
		n.halves++
	default:
		n.refused++
	}
}

func TestAsTheWordsSay(t *testing.T) {
	var n count
	for walk := range 200 {
		mode, d := walk%4, dice(walk*7919+1)
		l, w := empty(t, mode), newWords(t, mode)
		for range 150 {
			turn(t, &d, l, w, &n)
			if !wantSame(t, l, w) || t.Failed() {
				t.Fatalf("walk %d", walk)
			}
		}
	}
	if min(n.done, n.refused, n.halves, n.syncs, n.lost, n.cut) < 100 {
		t.Errorf("the walks met too little: %+v", n)
	}
}
