package wire

import (
	"strings"

	"pitfloor/api"
)

// Pack commands.
func Pack(l []api.Command) (string, error) {
	if len(l) > api.MaxTrades {
		return "", api.ErrFull
	}
	var all strings.Builder
	for _, c := range l {
		b, err := Command(c)
		if err != nil {
			return "", err
		}
		// The longest one has 18 bytes, so that a byte holds how many.
		all.WriteByte(byte(len(b)))
		all.WriteString(b)
	}
	return all.String(), nil
}

// Unpack bytes.
func Unpack(b string) ([]api.Command, error) {
	var l []api.Command
	for b != "" {
		one, others, whole := Cut(b)
		// More than may be packed are none of Pack's bytes.
		if !whole || len(l) == api.MaxTrades {
			return nil, api.ErrSyntax
		}
		c, err := ReadCommand(one)
		if err != nil {
			return nil, err
		}
		l, b = append(l, c), others
	}
	return l, nil
}

// Cut the bytes of the first command of a pack off, and tell whether all of them are there.
func Cut(b string) (one, others string, whole bool) {
	if b == "" {
		return "", "", false
	}
	end := 1 + int(b[0])
	if end > len(b) {
		return "", "", false
	}
	return b[1:end], b[end:], true
}
