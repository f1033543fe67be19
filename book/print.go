package book

import (
	"strconv"
	"strings"

	"pitfloor/api"
)

// Print a book.
func Print(b api.Book) (string, error) {
	if err := Check(b); err != nil {
		return "", err
	}
	return lines("buy", b.Buys) + lines("sell", b.Sells), nil
}

// lines of a side, one a Level.
func lines(word string, l []api.Level) string {
	var text strings.Builder
	for _, level := range l {
		text.WriteString(word + " " + strconv.Itoa(level.Price))
		for _, r := range level.Rests {
			text.WriteString(" " + printed(r))
		}
		text.WriteByte('\n')
	}
	return text.String()
}

func printed(r api.Rest) string {
	text := strconv.Itoa(r.Id) + ":" + strconv.Itoa(r.Qty)
	if r.Hidden > 0 {
		text += "+" + strconv.Itoa(r.Hidden)
	}
	return text
}
