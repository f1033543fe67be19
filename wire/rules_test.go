package wire_test

import (
	"math"
	"slices"
	"strings"
	"testing"

	"pitfloor/api"
	"pitfloor/plain"
	"pitfloor/wire"
)

// The rules that hold everywhere (P1 to P4 of the document), asked of package wire.

// No list that is handed in is written into, nor read or written behind its length.
func TestWhatIsHandedInStaysAsItWas(t *testing.T) {
	l := append(each(), cancel(8), api.Command{}, pay(0, 0), with(cancel(1), who, 1))
	was := slices.Clone(l)
	for length := range l {
		clipped, bad := wire.Pack(slices.Clip(slices.Clone(l[:length])))
		if got, err := wire.Pack(l[:length]); got != clipped || plain.Told(err) != plain.Told(bad) {
			t.Errorf("%v: got %q %v, want %q %v", l[:length], got, err, clipped, bad)
		}
		if !slices.Equal(l, was) {
			t.Fatalf("%v is now %v", was, l)
		}
	}
}

// What comes out is the caller's: that it is written into is not seen by a later call.
func TestWhatIsUnpackedIsFresh(t *testing.T) {
	b := packed(t, each()...)
	first, err := wire.Unpack(b)
	if err != nil {
		t.Fatal(err)
	}
	for i := range first[:cap(first)] {
		first[:cap(first)][i] = api.Command{What: -1, Who: -1, N: -1}
	}
	wantUnpacked(t, b, each()...)
}

// ends of numbers, next to all bounds.
var ends = []int{
	math.MinInt, math.MinInt + 1, -1 << 32, -1, 0, 1, 2, 3, 4, 5, 6, 9, 10, 255, 256, 9999, 10000, 10001, 65536, 1000000000, 1000000001, 1<<32 + 1, math.MaxInt,
}

// wellFormed is an answer in which nothing stands beside an error, and all calls tell the same one.
func wellFormed(a answer) bool {
	if e := a.errs[0]; e != api.OK {
		return (e == api.ErrRange || e == api.ErrShape) && a == refused(e)
	}
	return a.errs == [3]api.Errno{} && a.packed == bytes(byte(len(a.one)))+a.one
}

// eachOdd goes over commands of which two fields are of any kind, and over those of any What.
func eachOdd(do func(c api.Command)) {
	for _, a := range ends {
		for _, b := range ends {
			for _, c := range each() {
				for one := range fieldCount {
					do(with(with(c, one, a), (one+1)%fieldCount, b))
				}
				c.What = a
				do(with(c, orderId, b))
			}
		}
	}
}

func TestNoCommandPanicsAndAnswersHangOnItAlone(t *testing.T) {
	eachOdd(func(c api.Command) {
		first := ask(c)
		ask(cancel(7))
		if again := ask(c); again != first || !wellFormed(first) {
			t.Errorf("%+v: first %q, then %q", c, first, again)
		}
	})
}

// reading is what bytes tell.
type reading struct {
	one  api.Command
	all  []api.Command
	errs [2]api.Errno
}

func readAll(b string) (r reading) {
	var bad [2]error
	r.one, bad[0] = wire.ReadCommand(b)
	r.all, bad[1] = wire.Unpack(b)
	r.errs = [2]api.Errno{plain.Told(bad[0]), plain.Told(bad[1])}
	return r
}

func sameReading(a, b reading) bool {
	return a.one == b.one && slices.Equal(a.all, b.all) && a.errs == b.errs
}

// wellRead is an answer in which nothing stands beside an error, which is ErrSyntax.
func wellRead(r reading) bool {
	one := r.errs[0] == api.OK || r.errs[0] == api.ErrSyntax && r.one == (api.Command{})
	return one && (r.errs[1] == api.OK || r.errs[1] == api.ErrSyntax && len(r.all) == 0)
}

func TestNoBytesPanicAndAnswersHangOnThemAlone(t *testing.T) {
	for a := range 256 {
		for b := range 256 {
			for _, text := range []string{
				bytes(byte(a), byte(b)), bytes(byte(b), byte(a), 0, 1, 3), strings.Repeat(bytes(byte(a), byte(b)), 4), strings.Repeat(bytes(byte(a), byte(b)), 300),
			} {
				first := readAll(text)
				readAll(bytes(2, 0, 1, 3))
				if again := readAll(text); !sameReading(again, first) || !wellRead(first) {
					t.Errorf("%q: first %+v, then %+v", text, first, again)
				}
			}
		}
	}
}
