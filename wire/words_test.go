package wire_test

import (
	"encoding/binary"
	"slices"
	"testing"

	"pitfloor/api"
	"pitfloor/floor"
	"pitfloor/order"
	"pitfloor/plain"
	"pitfloor/tick"
	"pitfloor/wire"
)

// W1 held against its words, and against floors that do what comes by wire.

func within(n, low, high int) bool { return low <= n && n <= high }

// wrong is what the promise says is wrong with a command.
func wrong(c api.Command) api.Errno {
	o := c.Order
	switch c.What {
	case api.Place:
		if err := order.Check(o); err != nil {
			return plain.Told(err)
		}
		return shaped(c.Who == 0 && c.N == 0)
	case api.Cancel:
		if !within(o.Id, 1, 9999) {
			return api.ErrRange
		}
		return shaped(c == cancel(o.Id))
	case api.Swap:
		if !within(o.Id, 1, 9999) || tick.Price(o.Price) != nil || !within(o.Qty, 1, 10000) {
			return api.ErrRange
		}
		return shaped(c == swap(o.Id, o.Price, o.Qty))
	case api.Pay, api.Give:
		if !within(c.Who, 1, 9) || !within(c.N, 1, 1000000000) {
			return api.ErrRange
		}
		return shaped(o == api.Order{})
	}
	return api.ErrRange
}

func shaped(ok bool) api.Errno {
	if ok {
		return api.OK
	}
	return api.ErrShape
}

// spoken are the bytes that the promise says a command has, with which nothing is wrong.
func spoken(c api.Command) string {
	b, o := []byte{byte(c.What)}, c.Order
	switch c.What {
	case api.Place:
		b = twos(b, o.Id, o.Who, o.Side, o.Kind, o.Price, o.Qty, o.Show, o.Stop)
	case api.Cancel:
		b = twos(b, o.Id)
	case api.Swap:
		b = twos(b, o.Id, o.Price, o.Qty)
	case api.Pay, api.Give:
		b = binary.BigEndian.AppendUint32(append(b, byte(c.Who)), uint32(c.N))
	}
	return withSum(string(b))
}

func twos(b []byte, l ...int) []byte {
	for _, n := range l {
		b = binary.BigEndian.AppendUint16(b, uint16(n))
	}
	return b
}

// meant is the command that bytes are of, by the promise, if they are of one.
func meant(b string) (api.Command, bool) {
	lengths := map[byte]int{api.Place: 18, api.Cancel: 4, api.Swap: 8, api.Pay: 7, api.Give: 7}
	if b == "" || lengths[b[0]] != len(b) {
		return api.Command{}, false
	}
	two := func(which int) int { return int(binary.BigEndian.Uint16([]byte(b[1+2*which:]))) }
	var c api.Command
	switch int(b[0]) {
	case api.Place:
		c = place(api.Order{Id: two(0), Who: two(1), Side: two(2), Kind: two(3), Price: two(4), Qty: two(5), Show: two(6), Stop: two(7)})
	case api.Cancel:
		c = cancel(two(0))
	case api.Swap:
		c = swap(two(0), two(1), two(2))
	default:
		c = api.Command{What: int(b[0]), Who: int(b[1]), N: int(binary.BigEndian.Uint32([]byte(b[2:])))}
	}
	if wrong(c) != api.OK || withSum(b[:len(b)-1]) != b {
		return api.Command{}, false
	}
	return c, true
}

func wantAsSpoken(t *testing.T, c api.Command) {
	t.Helper()
	if e := wrong(c); e != api.OK {
		wantRefused(t, c, e)
		return
	}
	wantBytes(t, c, spoken(c))
}

func wantAsMeant(t *testing.T, b string) {
	t.Helper()
	if c, ok := meant(b); ok {
		wantRead(t, b, c)
		return
	}
	wantNotRead(t, b)
}

func TestOddCommandsEverywhere(t *testing.T) {
	eachOdd(func(c api.Command) { wantAsSpoken(t, c) })
}

// TestAllIds: each Id that there is, and those next to them.
func TestAllIds(t *testing.T) {
	for id := range 1 << 16 {
		wantAsSpoken(t, cancel(id))
		b := string(twos([]byte{api.Cancel}, id))
		wantAsMeant(t, withSum(b))
		for last := range 8 {
			wantAsMeant(t, b+bytes(byte(last)))
			wantAsMeant(t, b+bytes(byte(255-last)))
		}
	}
}

// dice are numbers that look as if they came by chance, and are the same in each run.
type dice uint64

func (d *dice) below(n int) int {
	*d = *d*6364136223846793005 + 1442695040888963407
	return int(*d>>33) % n
}

// order with which nothing is wrong, of a few Ids and prices, or of any.
func (d *dice) order(ids, prices int) api.Order {
	o := api.Order{Id: 1 + d.below(ids), Who: 1 + d.below(9), Side: 1 + d.below(2), Kind: 1 + d.below(5), Qty: 1 + d.below(10000)}
	if o.Kind != api.Market {
		o.Price = 1 + d.below(prices)
	}
	if o.Kind == api.Limit || o.Kind == api.Post {
		o.Show = d.below(3) / 2 * d.below(o.Qty+1)
	}
	o.Stop = d.below(3) / 2 * d.below(prices+1)
	return o
}

// command with which nothing is wrong.
func (d *dice) command(ids, prices int) api.Command {
	switch d.below(8) {
	case 0:
		return cancel(1 + d.below(ids))
	case 1:
		return swap(1+d.below(ids), 1+d.below(prices), 1+d.below(10000))
	case 2:
		return pay(1+d.below(9), 1+d.below(100000000))
	case 3:
		return give(1+d.below(9), 1+d.below(1000000))
	}
	return place(d.order(ids, prices))
}

func (d *dice) commands(count int) (l []api.Command) {
	for range count {
		l = append(l, d.command(9999, 10000))
	}
	return l
}

func TestCommandsByChance(t *testing.T) {
	d := dice(1)
	for _, c := range d.commands(20000) {
		if e := wrong(c); e != api.OK {
			t.Fatalf("%+v: %v", c, e)
		}
		wantAsSpoken(t, c)
	}
}

// TestAByteThatIsAnother: each byte of a command is each other one, with the sum as it was, and as it is then.
func TestAByteThatIsAnother(t *testing.T) {
	d := dice(2)
	for _, c := range append(each(), d.commands(60)...) {
		b := []byte(spoken(c))
		for at := range len(b) - 1 {
			for other := range 256 {
				odd := slices.Clone(b)
				odd[at] = byte(other)
				wantAsMeant(t, string(odd))
				wantAsMeant(t, withSum(string(odd[:len(odd)-1])))
			}
		}
	}
}

// Two bytes that change places have the same sum.
func TestBytesThatChangePlaces(t *testing.T) {
	d := dice(3)
	for _, c := range append(each(), d.commands(200)...) {
		b := []byte(spoken(c))
		for one := range b {
			for other := range one {
				odd := slices.Clone(b)
				odd[one], odd[other] = odd[other], odd[one]
				wantAsMeant(t, string(odd))
			}
		}
	}
}

func TestBytesByChance(t *testing.T) {
	d := dice(4)
	for range 100000 {
		b := []byte{byte(1 + d.below(5))}
		for range []int{16, 2, 6, 5, 5}[b[0]-1] {
			b = append(b, byte(d.below(256)>>d.below(9)))
		}
		wantAsMeant(t, withSum(string(b)))
	}
}

// TestLongPacks holds packs of all lengths against the promise's words.
func TestLongPacks(t *testing.T) {
	d := dice(5)
	for count := range api.MaxTrades + 1 {
		l, want := d.commands(count), ""
		for _, c := range l {
			want += bytes(byte(len(spoken(c)))) + spoken(c)
		}
		wantPacked(t, l, want)
		wantUnpacked(t, want, l...)
	}
}

// wantSameFloor: a floor that does what comes by wire is as the one that does the commands themselves.
func wantSameFloor(t *testing.T, l []api.Command) {
	t.Helper()
	came, err := wire.Unpack(packed(t, l...))
	here, bad := floor.New(api.DropMaker)
	there, worse := floor.New(api.DropMaker)
	if err != nil || bad != nil || worse != nil || len(came) != len(l) {
		t.Fatal(err, bad, worse)
	}
	for i, c := range came {
		want, bad := here.Do(l[i])
		if got, err := there.Do(c); !slices.Equal(got, want) || plain.Told(err) != plain.Told(bad) {
			t.Errorf("%+v: got %v %v, want %v %v", c, got, err, want, bad)
		}
	}
}

func TestFloorsByWire(t *testing.T) {
	for walk := range 20 {
		d := dice(walk)
		var l []api.Command
		for who := 1; who <= 9; who++ {
			l = append(l, pay(who, 500000000), give(who, 500000000))
		}
		for len(l) < api.MaxTrades {
			l = append(l, d.command(60, 12))
		}
		wantSameFloor(t, l)
	}
}
