package floor_test

import (
	"cmp"
	"slices"
	"testing"

	"pitfloor/api"
	"pitfloor/book"
	"pitfloor/floor"
	"pitfloor/plain"
)

// F1 and F2 held against a plain floor that follows their words one by one, and calls no layer of the program: what is put by is not kept there, but added up of all that needs it.

// here is an order that rests: the lower came is, the longer it stands there.
type here struct {
	api.Rest
	side, price, came int
}

// due is an order that woke, and at which price.
type due struct {
	api.Order
	at int
}

// words is the plain floor.
type words struct {
	mode, last, came int
	rests            []here
	stops            []api.Order
	woken            []due
	coming           api.Order // who is just coming, for whom what is left is still put by
	cash, stock      [traders + 1]int
	events           []api.Event
}

// copied, so that nothing is done with an error.
func (w words) copied() words {
	w.rests, w.stops = slices.Clone(w.rests), slices.Clone(w.stops)
	w.woken, w.events = nil, nil
	return w
}

// do a command: what is told, and what is wrong.
func (w *words) do(c api.Command) ([]api.Event, api.Errno) {
	next := w.copied()
	if e := next.command(c); e != api.OK {
		return nil, e
	}
	for len(next.woken) > 0 {
		if e := next.rise(); e != api.OK {
			return nil, e
		}
	}
	*w = next
	return w.events, api.OK
}

func (w *words) command(c api.Command) api.Errno {
	switch c.What {
	case api.Place:
		return w.place(c.Order)
	case api.Cancel:
		return w.cancel(c.Order.Id)
	case api.Swap:
		return w.swap(c.Order.Id, c.Order.Price, c.Order.Qty)
	case api.Pay:
		return more(&w.cash, c.Who, c.N)
	}
	return more(&w.stock, c.Who, c.N)
}

// more of what a trader has.
func more(has *[traders + 1]int, who, n int) api.Errno {
	if has[who]+n > most {
		return api.ErrFull
	}
	has[who] += n
	return api.OK
}

// worth of one of an order: what is put by for it.
func worth(o api.Order) int {
	if o.Kind == api.Market {
		return 10000
	}
	return o.Price
}

// held by a trader for all that rests, waits, woke, or is just coming.
func (w *words) held(who int) (cash, stock int) {
	add := func(side, price, qty int) {
		if side == api.Buy {
			cash += price * qty
		} else {
			stock += qty
		}
	}
	for _, r := range w.rests {
		if r.Who == who {
			add(r.side, r.price, r.Qty+r.Hidden)
		}
	}
	orders := append(slices.Clone(w.stops), w.coming)
	for _, d := range w.woken {
		orders = append(orders, d.Order)
	}
	for _, o := range orders {
		if o.Who == who {
			add(o.Side, worth(o), o.Qty)
		}
	}
	return cash, stock
}

// affords tells whether what is put by, with one order more, is not more than there is.
func (w *words) affords(o api.Order) bool {
	with := w.copied()
	with.stops = append(with.stops, o)
	cash, stock := with.held(o.Who)
	return cash <= w.cash[o.Who] && stock <= w.stock[o.Who]
}

func (w *words) resting(id int) int {
	return slices.IndexFunc(w.rests, func(r here) bool { return r.Id == id })
}

func (w *words) waiting(id int) int {
	return slices.IndexFunc(w.stops, func(o api.Order) bool { return o.Id == id })
}

func (w *words) tell(e api.Event) { w.events = append(w.events, e) }

func (w *words) place(o api.Order) api.Errno {
	if w.resting(o.Id) >= 0 || w.waiting(o.Id) >= 0 {
		return api.ErrClash
	}
	if !w.affords(o) {
		return api.ErrPoor
	}
	if o.Stop == 0 {
		_, e := w.come(o)
		return e
	}
	if len(w.stops) == 20 {
		return api.ErrFull
	}
	w.stops = append(w.stops, o)
	w.tell(sleeping(o.Id, o.Qty, o.Stop))
	return api.OK
}

func (w *words) cancel(id int) api.Errno {
	if i := w.resting(id); i >= 0 {
		r := w.rests[i]
		w.rests = slices.Delete(w.rests, i, i+1)
		w.tell(gone(id, r.Qty+r.Hidden, r.price))
		return api.OK
	}
	i := w.waiting(id)
	if i < 0 {
		return api.ErrNone
	}
	w.tell(gone(id, w.stops[i].Qty, w.stops[i].Price))
	w.stops = slices.Delete(w.stops, i, i+1)
	return api.OK
}

func (w *words) swap(id, price, qty int) api.Errno {
	i := w.resting(id)
	if i < 0 {
		return api.ErrNone
	}
	r := &w.rests[i]
	if r.price == price && qty <= r.Qty+r.Hidden {
		for r.Qty+r.Hidden > qty {
			if r.Hidden > 0 {
				r.Hidden--
			} else {
				r.Qty--
			}
		}
		w.tell(rested(id, qty, price))
		return api.OK
	}
	o := api.Order{Id: id, Who: r.Who, Side: r.side, Kind: api.Limit, Price: price, Qty: qty, Show: min(r.Show, qty)}
	w.cancel(id)
	return w.place(o)
}

// next one whom an order would take of, below 0 if there is none.
func (w *words) next(o api.Order) int {
	best := -1
	for i, r := range w.rests {
		if r.side == o.Side || o.Kind != api.Market && (o.Side == api.Buy && r.price > o.Price || o.Side == api.Sell && r.price < o.Price) {
			continue
		}
		if best < 0 || w.ahead(r, w.rests[best]) {
			best = i
		}
	}
	return best
}

// ahead: the better price, then who came first.
func (w *words) ahead(a, b here) bool {
	if a.price == b.price {
		return a.came < b.came
	}
	return (a.price < b.price) == (a.side == api.Sell)
}

// come to the book. The first answer is whether it was the book that refused it; then nothing is done.
func (w *words) come(o api.Order) (bool, api.Errno) {
	was := *w
	was.rests = slices.Clone(w.rests)
	was.events = slices.Clone(w.events)
	price, lost, e := w.meet(o)
	if e == api.OK {
		e = w.settle(lost)
	}
	if e != api.OK {
		*w = was
		return true, e
	}
	if w.overfull() {
		return false, api.ErrFull
	}
	w.coming = api.Order{}
	if price != 0 {
		w.last = price
		w.wake(price)
	}
	return false, api.OK
}

// meet all that an order can: the price of the last Trade, and how much of the order is lost by coming upon its own trader.
func (w *words) meet(o api.Order) (price, lost int, e api.Errno) {
	w.coming = o
	var went []api.Event
	for w.coming.Qty > 0 {
		i := w.next(o)
		if i < 0 {
			break
		}
		if o.Kind == api.Post {
			return 0, 0, api.ErrCross
		}
		if r := w.rests[i]; w.mode != api.Allow && r.Who == o.Who {
			if w.mode != api.DropTaker {
				went = append(went, gone(r.Id, r.Qty+r.Hidden, r.price))
				w.rests = slices.Delete(w.rests, i, i+1)
			}
			if w.mode != api.DropMaker {
				lost, w.coming.Qty = w.coming.Qty, 0
			}
			continue
		}
		price = w.rests[i].price
		w.fill(i)
	}
	w.events = append(w.events, went...)
	return price, lost, api.OK
}

// fill what is coming of one that rests.
func (w *words) fill(i int) {
	r := &w.rests[i]
	qty := min(w.coming.Qty, r.Qty)
	from, to := w.coming.Who, r.Who
	if r.side == api.Sell {
		from, to = to, from
	}
	w.tell(traded(r.Id, w.coming.Id, from, to, r.price, qty))
	w.cash[to] -= r.price * qty
	w.cash[from] += r.price * qty
	w.stock[from] -= qty
	w.stock[to] += qty
	w.coming.Qty -= qty
	r.Qty -= qty
	if r.Qty > 0 {
		return
	}
	if r.Hidden == 0 {
		w.rests = slices.Delete(w.rests, i, i+1)
		return
	}
	r.Qty = min(r.Show, r.Hidden)
	r.Hidden -= r.Qty
	w.came++
	r.came = w.came
}

// settle what is left of who is coming.
func (w *words) settle(lost int) api.Errno {
	o := w.coming
	left := o.Qty
	if o.Kind == api.Whole && left+lost > 0 {
		return api.ErrPoor
	}
	if o.Kind != api.Limit && o.Kind != api.Post {
		left, lost = 0, left+lost
	}
	if lost > 0 {
		w.tell(gone(o.Id, lost, o.Price))
	}
	if left == 0 {
		return api.OK
	}
	if len(w.rests) == 60 {
		return api.ErrFull
	}
	shown := left
	if o.Show > 0 {
		shown = min(o.Show, left)
	}
	w.came++
	w.rests = append(w.rests, here{rest(o.Id, o.Who, shown, left-shown, o.Show), o.Side, o.Price, w.came})
	w.tell(rested(o.Id, left, o.Price))
	return api.OK
}

// overfull tells whether one has more than a purse may have. What one has only grows in the course of a visit, or only becomes less.
func (w *words) overfull() bool {
	return slices.Max(w.cash[:]) > most || slices.Max(w.stock[:]) > most
}

// wake those whom a price wakes: the lowest Stop of Buy first, then the highest of Sell.
func (w *words) wake(price int) {
	var woke []api.Order
	for _, side := range []int{api.Buy, api.Sell} {
		for stop := 1; stop <= 300; stop++ {
			at := stop
			if side == api.Sell {
				at = 301 - stop
			}
			for _, o := range w.stops {
				if o.Side == side && o.Stop == at && (at == price || (at < price) == (side == api.Buy)) {
					woke = append(woke, o)
				}
			}
		}
	}
	for _, o := range woke {
		i := w.waiting(o.Id)
		w.stops = slices.Delete(w.stops, i, i+1)
		o.Stop = 0
		w.woken = append(w.woken, due{o, price})
	}
}

// rise of the first one that woke.
func (w *words) rise() api.Errno {
	o, at := w.woken[0].Order, w.woken[0].at
	w.woken = w.woken[1:]
	w.tell(woken(o.Id, o.Qty, at))
	refused, e := w.come(o)
	if refused {
		w.tell(gone(o.Id, o.Qty, o.Price))
		return api.OK
	}
	return e
}

// seen of the plain floor.
func (w *words) seen() seen {
	s := seen{stops: w.stops, last: w.last}
	for who := 1; who <= traders; who++ {
		cash, stock := w.held(who)
		s.purses[who-1] = api.Purse{Who: who, Cash: w.cash[who], Held: cash, Stock: w.stock[who], HeldStock: stock}
	}
	s.book.Buys, s.book.Sells = w.side(api.Buy), w.side(api.Sell)
	return s
}

func (w *words) side(side int) (l []api.Level) {
	rests := slices.DeleteFunc(slices.Clone(w.rests), func(r here) bool { return r.side != side })
	slices.SortFunc(rests, func(a, b here) int {
		byPrice := cmp.Compare(a.price, b.price)
		if side == api.Buy {
			byPrice = -byPrice
		}
		return cmp.Or(byPrice, cmp.Compare(a.came, b.came))
	})
	for _, r := range rests {
		if len(l) == 0 || l[len(l)-1].Price != r.price {
			l = append(l, api.Level{Price: r.price})
		}
		l[len(l)-1].Rests = append(l[len(l)-1].Rests, r.Rest)
	}
	return l
}

// dice are numbers that look as if they came by chance, and are the same in each run.
type dice struct {
	state uint64
	apart bool // most of those who buy and those who sell do not meet, so that more and more rest and wait
}

func (d *dice) below(n int) int {
	d.state = d.state*6364136223846793005 + 1442695040888963407
	return int(d.state>>33) % n
}

// order of an Id that was not there yet, or, now and then, of one that was.
func (d *dice) order(id int) api.Order {
	if d.below(12) == 0 {
		id = 1 + d.below(id)
	}
	o := api.Order{Id: id, Who: 1 + d.below(7), Side: 1 + d.below(2), Kind: api.Limit, Price: 95 + d.below(11), Qty: 1 + d.below(12)}
	if d.apart && d.below(30) > 0 {
		o.Price = 45 + 55*(o.Side-1) + d.below(11)
		return o
	}
	if d.below(3) == 0 {
		o = ofKind(o, 1+d.below(5))
	}
	if d.below(4) == 0 && (o.Kind == api.Limit || o.Kind == api.Post) {
		o.Show = 1 + d.below(o.Qty)
	}
	if d.below(3) == 0 {
		o.Stop = 93 + d.below(15)
	}
	return o
}

func (d *dice) command(id int) api.Command {
	kind := d.below(12)
	if d.apart && kind < 3 {
		kind = 11
	}
	switch kind {
	case 0:
		return cancel(1 + d.below(id))
	case 1, 2:
		return swap(1+d.below(id), 95+d.below(11), 1+d.below(12))
	case 3:
		return pay(1+d.below(5), 1+d.below(2000))
	case 4:
		return give(1+d.below(5), 1+d.below(20))
	}
	return place(d.order(id))
}

// count what was met on the way, so that it is known that the walk comes by it.
type count struct{ woken, chained, refused, fullPurse, fullBook, poor int }

func (c *count) see(was seen, events []api.Event, e api.Errno) {
	woke := 0
	for i, v := range events {
		if v.What == api.Woken {
			woke++
			c.woken++
			if v.Price != events[max(i-1, 0)].Trade.Price && woke > 1 {
				c.chained++
			}
			if i+1 < len(events) && events[i+1].What == api.Gone && events[i+1].Qty == v.Qty {
				c.refused++
			}
		}
	}
	switch {
	case e == api.ErrPoor:
		c.poor++
	case e == api.ErrFull && len(amounts(was.book)) == 60:
		c.fullBook++
	case e == api.ErrFull:
		c.fullPurse++
	}
}

// beginning of a walk: all who trade have something, and two nearly as much as may be.
func (d *dice) beginning() (l []api.Command) {
	for who := 1; who <= 5; who++ {
		l = append(l, pay(who, 2000+d.below(400000)), give(who, 20+d.below(200)))
	}
	return append(l, pay(6, most-d.below(3000)), give(6, 100), pay(7, 100000), give(7, most-d.below(30)))
}

func TestAsTheWordsSay(t *testing.T) {
	var c count
	for seed := range 4 * 60 {
		mode, d := seed%4, dice{uint64(seed*7919 + 1), seed%20 < 4}
		f, w := empty(t, mode), &words{mode: mode}
		commands := d.beginning()
		for id := 1; id <= 150; id++ {
			commands = append(commands, d.command(id))
		}
		for _, command := range commands {
			if !wantAsWords(t, f, w, command, &c) {
				return
			}
		}
	}
	if min(c.woken, c.chained, c.refused, c.fullPurse, c.fullBook, c.poor) < 200 {
		t.Errorf("the walks met too little: %+v", c)
	}
}

// wantAsWords does a command on both floors: they tell the same, and are the same, whatever is asked of them.
func wantAsWords(t *testing.T, f *floor.Floor, w *words, command api.Command, c *count) bool {
	t.Helper()
	was := look(t, f)
	want, wantErr := w.do(command)
	got, err := f.Do(command)
	c.see(was, got, plain.Told(err))
	if plain.Told(err) != wantErr || !slices.Equal(got, want) {
		t.Errorf("mode %d, %v: Do(%+v): got %v %v, want %v %v", w.mode, was, command, got, err, want, wantErr)
		return false
	}
	is := look(t, f)
	if !same(is, w.seen()) {
		t.Errorf("mode %d, %v: Do(%+v): got %v, want %v", w.mode, was, command, is, w.seen())
		return false
	}
	if err := book.Check(is.book); err != nil {
		t.Errorf("mode %d, %v: Do(%+v): %v is no book: %v", w.mode, was, command, is.book, err)
		return false
	}
	return wantKept(t, was, is, command, err) && wantTold(t, was, is, got)
}

// wantKept: nothing is made, and nothing lost.
func wantKept(t *testing.T, was, is seen, c api.Command, err error) bool {
	t.Helper()
	cash, stock := 0, 0
	for i := range is.purses {
		cash += is.purses[i].Cash - was.purses[i].Cash
		stock += is.purses[i].Stock - was.purses[i].Stock
	}
	if err == nil && c.What == api.Pay {
		cash -= c.N
	}
	if err == nil && c.What == api.Give {
		stock -= c.N
	}
	if cash != 0 || stock != 0 {
		t.Errorf("Do(%+v): %d cash and %d stock were made", c, cash, stock)
	}
	return cash == 0 && stock == 0
}

// wantTold: what was told, behind what was there, is what there is.
func wantTold(t *testing.T, was, is seen, events []api.Event) bool {
	t.Helper()
	told := amounts(was.book)
	for _, e := range events {
		switch e.What {
		case api.Rested:
			told[e.Id] = [2]int{e.Qty, e.Price}
		case api.Gone:
			delete(told, e.Id)
		case api.Traded:
			left := told[e.Trade.Maker]
			left[0] -= e.Trade.Qty
			told[e.Trade.Maker] = left
			if left[0] == 0 {
				delete(told, e.Trade.Maker)
			}
		}
	}
	there := amounts(is.book)
	for id, amount := range there {
		if told[id] != amount {
			t.Errorf("%v, %v: order %d has %v, told was %v", was.book, events, id, amount, told[id])
			return false
		}
	}
	if len(told) != len(there) {
		t.Errorf("%v, %v: told is %v, but there is %v", was.book, events, told, there)
	}
	return len(told) == len(there)
}

// amounts of each that rests, and its price.
func amounts(b api.Book) map[int][2]int {
	all := map[int][2]int{}
	for _, l := range slices.Concat(b.Buys, b.Sells) {
		for _, r := range l.Rests {
			all[r.Id] = [2]int{r.Qty + r.Hidden, l.Price}
		}
	}
	return all
}
