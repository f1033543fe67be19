package tape

import (
	"strconv"
	"strings"

	"pitfloor/api"
)

// The words stand at the numbers of what they name; number 0 names nothing.
var words = [api.Sleeping + 1]string{
	api.Rested: "rested", api.Traded: "traded", api.Gone: "gone", api.Woken: "woken", api.Sleeping: "sleeping",
}

// Print events.
func Print(l []api.Event) (string, error) {
	if err := Check(l); err != nil {
		return "", err
	}
	var text strings.Builder
	for _, e := range l {
		text.WriteString(words[e.What])
		for _, n := range numbers(e) {
			text.WriteString(" " + strconv.Itoa(n))
		}
		text.WriteByte('\n')
	}
	return text.String(), nil
}

// numbers that are printed of an event, in order.
func numbers(e api.Event) []int {
	switch e.What {
	case api.Rested:
		return []int{e.Id, e.Qty, e.Price}
	case api.Traded:
		return []int{e.Trade.Maker, e.Trade.Taker, e.Trade.Qty, e.Trade.Price}
	case api.Gone:
		return []int{e.Id, e.Qty}
	}
	return []int{e.Id}
}
