package wire_test

import (
	"slices"
	"testing"

	"pitfloor/api"
	"pitfloor/plain"
	"pitfloor/wire"
)

// What the tests of package wire are made of.

func place(o api.Order) api.Command { return api.Command{What: api.Place, Order: o} }

func cancel(id int) api.Command { return api.Command{What: api.Cancel, Order: api.Order{Id: id}} }

func swap(id, price, qty int) api.Command {
	return api.Command{What: api.Swap, Order: api.Order{Id: id, Price: price, Qty: qty}}
}

func pay(who, n int) api.Command { return api.Command{What: api.Pay, Who: who, N: n} }

func give(who, n int) api.Command { return api.Command{What: api.Give, Who: who, N: n} }

func commands(l ...api.Command) []api.Command { return l }

// limit is an order that is good whatever Side it has, and hides something.
func limit() api.Order {
	return api.Order{Id: 4660, Who: 7, Side: api.Sell, Kind: api.Limit, Price: 772, Qty: 513, Show: 258, Stop: 1286}
}

// each of the commands that there are: at its What less 1.
func each() []api.Command {
	return commands(place(limit()), cancel(515), swap(258, 772, 1286), pay(9, 1000000000), give(2, 16909060))
}

// bytes as a text.
func bytes(l ...byte) string { return string(l) }

// The numbers of the fields of a command, beside its What.
const (
	who = iota
	n
	orderId
	orderWho
	side
	kind
	price
	qty
	show
	stop
	fieldCount
)

func field(c *api.Command, number int) *int {
	o := &c.Order
	return [fieldCount]*int{&c.Who, &c.N, &o.Id, &o.Who, &o.Side, &o.Kind, &o.Price, &o.Qty, &o.Show, &o.Stop}[number]
}

// with gives a command another number in a field.
func with(c api.Command, number, to int) api.Command {
	*field(&c, number) = to
	return c
}

// bound of a field, from low to high.
type bound struct{ number, low, high int }

// bounds of the fields that are written of a command, in order; of Place those of each by itself.
func bounds(what int) []bound {
	switch what {
	case api.Place:
		return []bound{
			{orderId, 1, 9999}, {orderWho, 1, 9}, {side, 1, 2}, {kind, 1, 5},
			{price, 1, 10000}, {qty, 1, 10000}, {show, 0, 10000}, {stop, 0, 10000},
		}
	case api.Cancel:
		return []bound{{orderId, 1, 9999}}
	case api.Swap:
		return []bound{{orderId, 1, 9999}, {price, 1, 10000}, {qty, 1, 10000}}
	}
	return []bound{{who, 1, 9}, {n, 1, 1000000000}}
}

// others are the fields that are not written of a command.
func others(what int) (l []int) {
	for number := range fieldCount {
		if !slices.ContainsFunc(bounds(what), func(b bound) bool { return b.number == number }) {
			l = append(l, number)
		}
	}
	return l
}

// answer of all calls on a command, and on what they told.
type answer struct {
	one, packed string
	errs        [3]api.Errno // of Check, Command, Pack
}

func ask(c api.Command) (a answer) {
	var bad [3]error
	bad[0] = wire.Check(c)
	a.one, bad[1] = wire.Command(c)
	a.packed, bad[2] = wire.Pack(commands(c))
	for i, err := range bad {
		a.errs[i] = plain.Told(err)
	}
	return a
}

func refused(e api.Errno) answer { return answer{errs: [3]api.Errno{e, e, e}} }

func wantRefused(t *testing.T, c api.Command, want api.Errno) {
	t.Helper()
	if got := ask(c); got != refused(want) {
		t.Errorf("%+v: got %q, want %v", c, got, want)
	}
}

// wantBytes of a command, and the command of these bytes, both alone and packed.
func wantBytes(t *testing.T, c api.Command, want string) {
	t.Helper()
	packed := bytes(byte(len(want))) + want
	if got := ask(c); got != (answer{one: want, packed: packed}) {
		t.Errorf("%+v: got %q, want %q", c, got, want)
	}
	wantRead(t, want, c)
	wantUnpacked(t, packed, c)
}

// wantGood of a command: all calls take it, and it comes again.
func wantGood(t *testing.T, c api.Command) {
	t.Helper()
	b, err := wire.Command(c)
	if err != nil {
		t.Errorf("%+v: got %v", c, err)
		return
	}
	wantBytes(t, c, b)
}

func wantRead(t *testing.T, b string, want api.Command) {
	t.Helper()
	if got, err := wire.ReadCommand(b); err != nil || got != want {
		t.Errorf("ReadCommand(%q): got %+v %v, want %+v", b, got, err, want)
	}
}

func wantNotRead(t *testing.T, b string) {
	t.Helper()
	if got, err := wire.ReadCommand(b); got != (api.Command{}) || plain.Told(err) != api.ErrSyntax {
		t.Errorf("ReadCommand(%q): got %+v %v, want ErrSyntax", b, got, err)
	}
}

func wantPacked(t *testing.T, l []api.Command, want string) {
	t.Helper()
	if got, err := wire.Pack(l); err != nil || got != want {
		t.Errorf("Pack(%+v): got %q %v, want %q", l, got, err, want)
	}
}

func wantNotPacked(t *testing.T, l []api.Command, want api.Errno) {
	t.Helper()
	if got, err := wire.Pack(l); got != "" || plain.Told(err) != want {
		t.Errorf("Pack(%+v): got %q %v, want %v", l, got, err, want)
	}
}

func wantUnpacked(t *testing.T, b string, want ...api.Command) {
	t.Helper()
	if got, err := wire.Unpack(b); err != nil || !slices.Equal(got, want) {
		t.Errorf("Unpack(%q): got %+v %v, want %+v", b, got, err, want)
	}
}

func wantNotUnpacked(t *testing.T, b string) {
	t.Helper()
	if got, err := wire.Unpack(b); len(got) > 0 || plain.Told(err) != api.ErrSyntax {
		t.Errorf("Unpack(%q): got %+v %v, want ErrSyntax", b, got, err)
	}
}

// packed is what Pack tells of commands with which nothing is wrong.
func packed(t *testing.T, l ...api.Command) string {
	t.Helper()
	b, err := wire.Pack(l)
	if err != nil {
		t.Fatalf("Pack(%+v): %v", l, err)
	}
	return b
}

// written is what Command tells of a command with which nothing is wrong.
func written(t *testing.T, c api.Command) string {
	t.Helper()
	b, err := wire.Command(c)
	if err != nil {
		t.Fatalf("Command(%+v): %v", c, err)
	}
	return b
}
