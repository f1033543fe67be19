package log

import (
	"pitfloor/api"
	"pitfloor/floor"
	"pitfloor/wire"
)

// record of a command: a pack of it alone, which tells its length ahead, so that half of one is not taken for a whole one.
func record(c api.Command) (string, error) {
	return wire.Pack([]api.Command{c})
}

// again does the commands of all records that are whole, and tells how many bytes these have. None of them can be refused: each was done before, to the same Floor.
func again(mode int, b string) (*floor.Floor, int) {
	f, _ := floor.New(mode)
	others := b
	for {
		one, behind, whole := wire.Cut(others)
		if !whole {
			return f, len(b) - len(others)
		}
		c, _ := wire.ReadCommand(one)
		f.Do(c)
		others = behind
	}
}
