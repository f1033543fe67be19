package wire

import "pitfloor/api"

const (
	byteBits  = 8
	sumModulo = 251
)

// field of a command, and in how many bytes it is written.
type field struct {
	n    *int
	size int
}

// fields of a command that are written, in order.
func fields(c *api.Command) []field {
	o, what := &c.Order, field{&c.What, 1}
	switch c.What {
	case api.Place:
		return behind(what, &o.Id, &o.Who, &o.Side, &o.Kind, &o.Price, &o.Qty, &o.Show, &o.Stop)
	case api.Cancel:
		return behind(what, &o.Id)
	case api.Swap:
		return behind(what, &o.Id, &o.Price, &o.Qty)
	case api.Pay, api.Give:
		return []field{what, {&c.Who, 1}, {&c.N, 4}}
	}
	return []field{what}
}

// behind a field others, each in two bytes.
func behind(first field, others ...*int) []field {
	l := []field{first}
	for _, n := range others {
		l = append(l, field{n, 2})
	}
	return l
}

// write a field behind bytes, the highest one first.
func (f field) write(b []byte) []byte {
	for i := f.size - 1; i >= 0; i-- {
		b = append(b, byte(*f.n>>(i*byteBits)))
	}
	return b
}

// read a field, as far as there are bytes, and tell those behind it.
func (f field) read(b string) string {
	size := min(f.size, len(b))
	*f.n = 0
	for i := range size {
		*f.n = *f.n<<byteBits | int(b[i])
	}
	return b[size:]
}

// sum of bytes.
func sum(l []byte) byte {
	all := 0
	for _, b := range l {
		all += int(b)
	}
	return byte(all % sumModulo)
}
