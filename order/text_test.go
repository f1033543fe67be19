package order_test

import (
	"strconv"
	"strings"
	"testing"

	"pitfloor/api"
	"pitfloor/order"
	"pitfloor/plain"
)

// O2: Print and Parse.

// written orders, and their texts.
var written = []struct {
	o    api.Order
	text string
}{
	{api.Order{Id: 7, Who: 3, Side: 2, Kind: 1, Price: 99, Qty: 9}, "7 3 sell limit 9 at 99"},
	{api.Order{Id: 7, Who: 3, Side: 1, Kind: 1, Price: 99, Qty: 9, Show: 4}, "7 3 buy limit 9 at 99 show 4"},
	{api.Order{Id: 7, Who: 3, Side: 2, Kind: 1, Price: 99, Qty: 9, Stop: 100}, "7 3 sell limit 9 at 99 stop 100"},
	{api.Order{Id: 7, Who: 3, Side: 2, Kind: 1, Price: 99, Qty: 9, Show: 9, Stop: 100}, "7 3 sell limit 9 at 99 show 9 stop 100"},
	{api.Order{Id: 92, Who: 4, Side: 1, Kind: 2, Qty: 7}, "92 4 buy market 7"},
	{api.Order{Id: 92, Who: 4, Side: 2, Kind: 2, Qty: 7, Stop: 10}, "92 4 sell market 7 stop 10"},
	{api.Order{Id: 5, Who: 1, Side: 1, Kind: 3, Price: 10, Qty: 20}, "5 1 buy now 20 at 10"},
	{api.Order{Id: 5, Who: 1, Side: 2, Kind: 4, Price: 10, Qty: 20, Stop: 8}, "5 1 sell whole 20 at 10 stop 8"},
	{api.Order{Id: 5, Who: 1, Side: 1, Kind: 5, Price: 10, Qty: 20, Show: 1}, "5 1 buy post 20 at 10 show 1"},
	{api.Order{Id: 1, Who: 1, Side: 1, Kind: 1, Price: 1, Qty: 1, Show: 1, Stop: 1}, "1 1 buy limit 1 at 1 show 1 stop 1"},
	{
		api.Order{Id: 9999, Who: 9, Side: 2, Kind: 5, Price: 10000, Qty: 10000, Show: 10000, Stop: 10000},
		"9999 9 sell post 10000 at 10000 show 10000 stop 10000",
	},
}

func wantPrint(t *testing.T, o api.Order, want string, wantErr api.Errno) {
	t.Helper()
	got, err := order.Print(o)
	if got != want || plain.Told(err) != wantErr {
		t.Errorf("Print(%+v): got %q %v, want %q %v", o, got, err, want, wantErr)
	}
}

func wantParse(t *testing.T, text string, want api.Order, wantErr api.Errno) {
	t.Helper()
	got, err := order.Parse(text)
	if got != want || plain.Told(err) != wantErr {
		t.Errorf("Parse(%q): got %+v %v, want %+v %v", text, got, err, want, wantErr)
	}
}

func TestPrintAndParse(t *testing.T) {
	for _, w := range written {
		wantPrint(t, w.o, w.text, api.OK)
		wantParse(t, w.text, w.o, api.OK)
	}
}

func TestThereAndBackEverywhere(t *testing.T) {
	eachOrder(func(o api.Order) {
		want := spoken(o)
		text, err := order.Print(o)
		if plain.Told(err) != want || (text == "") != (err != nil) {
			t.Errorf("Print(%+v): got %q %v, want %v", o, text, err, want)
		}
		if err == nil {
			wantParse(t, text, o, api.OK)
		}
	})
}

func TestPrintTellsCheck(t *testing.T) {
	wantPrint(t, api.Order{}, "", api.ErrRange)
	wantPrint(t, with(good[0], kind, 6), "", api.ErrRange)
	wantPrint(t, with(good[1], price, 1), "", api.ErrRange)
	wantPrint(t, with(good[3], show, 1), "", api.ErrShape)
	wantPrint(t, with(with(good[3], show, 1), stop, -1), "", api.ErrShape)
	wantPrint(t, with(good[3], stop, -1), "", api.ErrRange)
}

func TestParseRefusesOtherTexts(t *testing.T) {
	texts := []string{
		"", " ", "7", "7 3", "7 3 sell", "7 3 sell limit", "7 3 sell limit 9", "7 3 sell limit 9 at", "7 3 sell limit 9 at ",
		" 7 3 sell limit 9 at 99", "7 3 sell limit 9 at 99 ", "7  3 sell limit 9 at 99", "7 3 sell limit 9  at 99", "7 3 sell limit 9 at  99",
		"7\t3 sell limit 9 at 99", "7 3 sell limit 9 at 99\n", "\n7 3 sell limit 9 at 99", "7 3 sell limit 9 at 99\x00", "7\u00a03 sell limit 9 at 99",
		"7 3 Sell limit 9 at 99", "7 3 SELL limit 9 at 99", "7 3 sel limit 9 at 99", "7 3 sells limit 9 at 99", "7 3 2 limit 9 at 99", "7 3  limit 9 at 99",
		"7 3 sell Limit 9 at 99", "7 3 sell lim 9 at 99", "7 3 sell limits 9 at 99", "7 3 sell 1 9 at 99", "7 3 sell  9 at 99", "7 3 sell sell 9 at 99",
		"7 3 limit sell 9 at 99", "3 sell limit 9 at 99", "7 3 sell limit at 99",
		"7 3 sell limit 9 99", "7 3 sell limit 9 At 99", "7 3 sell limit 9 to 99", "7 3 sell limit 9 at 99 at 99",
		"7 3 sell limit 9 at 99 4", "7 3 sell limit 9 at 99 show", "7 3 sell limit 9 at 99 show ", "7 3 sell limit 9 at 99 shows 4", "7 3 sell limit 9 at 99 show 4 show 4",
		"7 3 sell limit 9 at 99 stop", "7 3 sell limit 9 at 99 stop ", "7 3 sell limit 9 at 99 stop 100 stop 100", "7 3 sell limit 9 at 99 show 4 stop",
		"7 3 sell limit 9 at 99 stop 100 show 4", "7 3 sell limit 9 show 4 at 99", "7 3 sell limit 9 stop 100 at 99", "7 3 sell limit 9 show 4", "7 3 sell limit 9 stop 100",
		"7 3 sell limit 9 at 99 show 4 stop 100 x", "7 3 sell limit 9 at 99 show 4 stop 100 at 99", "7 3 sell limit 9 at 99 show 4 stop 100 ", "7 3 sell limit 9 at 99 show 4 stop 100 at 99 show 4 stop 100",
		"7,3,sell,limit,9,at,99", "7 3 sell limit 9 at 99;", "\xff", "7 3 sell limit 9 at \xff", "7 3 sell limit 9 at ٩٩",
	}
	for _, text := range texts {
		wantParse(t, text, api.Order{}, api.ErrSyntax)
	}
}

// Of Market nothing tells a price; of all others something does.
func TestParseWantsAtOfAllButMarket(t *testing.T) {
	wantParse(t, "7 3 buy market 9 at 99", api.Order{}, api.ErrSyntax)
	wantParse(t, "7 3 buy market 9 at 99 stop 100", api.Order{}, api.ErrSyntax)
	for _, k := range []string{"limit", "now", "whole", "post"} {
		wantParse(t, "7 3 buy "+k+" 9", api.Order{}, api.ErrSyntax)
		wantParse(t, "7 3 buy "+k+" 9 stop 100", api.Order{}, api.ErrSyntax)
	}
}

// places of the numbers of a text.
var places = []func(word string) string{
	func(word string) string { return word + " 3 sell limit 9 at 99 show 4 stop 100" },
	func(word string) string { return "7 " + word + " sell limit 9 at 99 show 4 stop 100" },
	func(word string) string { return "7 3 sell limit " + word + " at 99 show 4 stop 100" },
	func(word string) string { return "7 3 sell limit 9 at " + word + " show 4 stop 100" },
	func(word string) string { return "7 3 sell limit 9 at 99 show " + word + " stop 100" },
	func(word string) string { return "7 3 sell limit 9 at 99 show 4 stop " + word },
}

func TestParseNumbersThatAreNone(t *testing.T) {
	words := []string{
		"", "0", "00", "00000", "01", "00001", "09999", "000000", "100000", "123456", "999999", "9223372036854775807", "9223372036854775808",
		"18446744073709551617", strings.Repeat("9", 1000), "-1", "-0", "+1", "1.0", "1e3", "1_0", "0x1", "0b1", "x", "x3", "3x", "1,0", "１", "٣", "1\x00", "\x001", "½", "--",
	}
	for _, place := range places {
		for _, word := range words {
			wantParse(t, place(word), api.Order{}, api.ErrSyntax)
		}
	}
}

// A number of up to five digits is one, though it may be out of range.
func TestParseTellsCheck(t *testing.T) {
	for i, most := range []int{9999, 9, 10000, 10000, 9, 10000} {
		for _, n := range []int{most + 1, 99999} {
			wantParse(t, places[i](strconv.Itoa(n)), api.Order{}, api.ErrRange)
		}
	}
	wantParse(t, "7 3 sell limit 3 at 99 show 4", api.Order{}, api.ErrRange)
	wantParse(t, "7 3 sell market 3 stop 10001", api.Order{}, api.ErrRange)
	for _, text := range []string{"7 3 sell now 9 at 99 show 4", "7 3 sell whole 9 at 99 show 9", "7 3 sell market 9 show 4"} {
		wantParse(t, text, api.Order{}, api.ErrShape)
		wantParse(t, text+" stop 10001", api.Order{}, api.ErrShape)
	}
	wantParse(t, "10000 3 sell now 9 at 99 show 4", api.Order{}, api.ErrRange)
}

func TestParseTellsSyntaxFirst(t *testing.T) {
	wantParse(t, "10000 3 sell limit 9 at 99x", api.Order{}, api.ErrSyntax)
	wantParse(t, "7 10 sell limit 9 at 0", api.Order{}, api.ErrSyntax)
	wantParse(t, "7 3 sell now 9 at 99 show 4 stop 0", api.Order{}, api.ErrSyntax)
	wantParse(t, "7 3 sell market 9 at 99 show 4", api.Order{}, api.ErrSyntax)
}

// What is parsed is just what would be printed: any one byte more, less or otherwise is another order or none.
func TestParseTakesWhatPrintTellsAlone(t *testing.T) {
	for _, w := range written {
		for i := 0; i <= len(w.text); i++ {
			for b := range 256 {
				wantOwnText(t, w.text[:i]+string([]byte{byte(b)})+w.text[i:])
				if i < len(w.text) {
					wantOwnText(t, w.text[:i]+string([]byte{byte(b)})+w.text[i+1:])
				}
			}
			wantOwnText(t, w.text[:i])
			if i < len(w.text) {
				wantOwnText(t, w.text[:i]+w.text[i+1:])
			}
		}
	}
}

func wantOwnText(t *testing.T, text string) {
	t.Helper()
	o, err := order.Parse(text)
	if err != nil {
		if o != (api.Order{}) {
			t.Errorf("Parse(%q): got %+v beside %v", text, o, err)
		}
		return
	}
	wantPrint(t, o, text, api.OK)
}

func TestParseOfLongTexts(t *testing.T) {
	for _, text := range []string{
		strings.Repeat(" ", 1<<20), strings.Repeat("7", 1<<20), strings.Repeat("7 ", 1<<20),
		"7 3 sell limit 9 at 99 " + strings.Repeat("show 4 ", 1<<18),
	} {
		if o, err := order.Parse(text); o != (api.Order{}) || plain.Told(err) != api.ErrSyntax {
			t.Errorf("Parse of %d bytes from %q on: got %+v %v", len(text), text[:30], o, err)
		}
	}
}
