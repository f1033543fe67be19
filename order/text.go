package order

import (
	"slices"
	"strconv"
	"strings"

	"pitfloor/api"
)

const (
	headWords  = 5
	mostWords  = headWords + 3*2 // at PRICE show SHOW stop STOP
	mostDigits = 5
)

// The words stand at the numbers of what they name; number 0 names nothing.
var (
	sideWords = [api.Sell + 1]string{api.Buy: "buy", api.Sell: "sell"}
	kindWords = [api.Post + 1]string{
		api.Limit: "limit", api.Market: "market", api.Now: "now", api.Whole: "whole", api.Post: "post",
	}
)

// Print an order.
func Print(o api.Order) (string, error) {
	if err := Check(o); err != nil {
		return "", err
	}
	words := []string{
		strconv.Itoa(o.Id), strconv.Itoa(o.Who), sideWords[o.Side], kindWords[o.Kind], strconv.Itoa(o.Qty),
	}
	// Market alone has Price 0, so that it is left out like any other 0.
	words = appendPart(words, "at", o.Price)
	words = appendPart(words, "show", o.Show)
	words = appendPart(words, "stop", o.Stop)
	return strings.Join(words, " "), nil
}

// Parse an order.
func Parse(text string) (api.Order, error) {
	o, ok := read(text)
	if !ok {
		return api.Order{}, api.ErrSyntax
	}
	if err := Check(o); err != nil {
		return api.Order{}, err
	}
	return o, nil
}

func appendPart(words []string, name string, n int) []string {
	if n == 0 {
		return words
	}
	return append(words, name, strconv.Itoa(n))
}

// read an order whose numbers may still be out of range, but none of them is a written 0.
func read(text string) (api.Order, bool) {
	// One piece more than there may be is enough to tell that there are too many.
	words := strings.SplitN(text, " ", mostWords+1)
	if len(words) < headWords {
		return api.Order{}, false
	}
	o := api.Order{
		Id:   number(words[0]),
		Who:  number(words[1]),
		Side: first(api.Sell, func(n int) bool { return sideWords[n] == words[2] }),
		Kind: first(api.Post, func(n int) bool { return kindWords[n] == words[3] }),
		Qty:  number(words[4]),
	}
	tail := words[headWords:]
	o.Price, tail = takePart(tail, "at")
	o.Show, tail = takePart(tail, "show")
	o.Stop, tail = takePart(tail, "stop")
	headStands := !slices.Contains([]int{o.Id, o.Who, o.Side, o.Kind, o.Qty}, 0)
	priceStands := (o.Price == 0) == (o.Kind == api.Market)
	return o, headStands && priceStands && len(tail) == 0
}

// takePart takes a name and its number off the words, if they stand ahead; what is malformed stays.
func takePart(words []string, name string) (int, []string) {
	if len(words) < 2 || words[0] != name {
		return 0, words
	}
	n := number(words[1])
	if n == 0 {
		return 0, words
	}
	return n, words[2:]
}

// first number from 1 to last of which something is so, 0 if there is none.
func first(last int, so func(n int) bool) int {
	for n := 1; n <= last; n++ {
		if so(n) {
			return n
		}
	}
	return 0
}

// number that a word writes, 0 if it writes none: 0 itself is never written.
func number(word string) int {
	if len(word) > mostDigits {
		return 0
	}
	n, err := strconv.Atoi(word)
	// Atoi reads signs and needless zeros too, which Itoa would not write.
	if err != nil || n < 1 || strconv.Itoa(n) != word {
		return 0
	}
	return n
}
