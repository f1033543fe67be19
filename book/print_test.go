package book_test

import (
	"fmt"
	"strings"
	"testing"

	"pitfloor/api"
	"pitfloor/book"
	"pitfloor/plain"
)

// B1: Print.

func wantPrint(t *testing.T, b api.Book, want string, wantErr api.Errno) {
	t.Helper()
	got, err := book.Print(b)
	if got != want || plain.Told(err) != wantErr {
		t.Errorf("Print(%v): got %q %v, want %q %v", b, got, err, want, wantErr)
	}
}

func TestPrint(t *testing.T) {
	one, most := api.Rest{Id: 1, Who: 1, Qty: 1}, api.Rest{Id: 9999, Who: 9, Qty: 10000, Hidden: 10000, Show: 10000}
	shows := api.Rest{Id: 30, Who: 2, Qty: 4, Show: 5} // it may hide, but hides nothing
	buys := []api.Level{{Price: 9998, Rests: []api.Rest{one}}, {Price: 1, Rests: []api.Rest{shows}}}
	sells := []api.Level{{Price: 9999, Rests: []api.Rest{{Id: 2, Who: 1, Qty: 7, Hidden: 1, Show: 7}, {Id: 3, Who: 1, Qty: 8}}}, {Price: 10000, Rests: []api.Rest{most}}}
	wantPrint(t, api.Book{}, "", api.OK)
	wantPrint(t, api.Book{Buys: []api.Level{}, Sells: sells[:0]}, "", api.OK)
	wantPrint(t, api.Book{Buys: buys}, "buy 9998 1:1\nbuy 1 30:4\n", api.OK)
	wantPrint(t, api.Book{Sells: sells}, "sell 9999 2:7+1 3:8\nsell 10000 9999:10000+10000\n", api.OK)
	wantPrint(t, api.Book{Buys: buys, Sells: sells}, "buy 9998 1:1\nbuy 1 30:4\nsell 9999 2:7+1 3:8\nsell 10000 9999:10000+10000\n", api.OK)
}

// Each Rest is told where it stands, who came first ahead.
func TestPrintKeepsTheOrder(t *testing.T) {
	b := api.Book{Buys: []api.Level{level(50, 9, 3, 5), level(49, 8)}, Sells: []api.Level{level(51, 7), level(60, 6, 2)}}
	wantPrint(t, b, "buy 50 9:3+5 3:3+5 5:3+5\nbuy 49 8:3+5\nsell 51 7:3+5\nsell 60 6:3+5 2:3+5\n", api.OK)
}

func TestPrintOfAFullBook(t *testing.T) {
	var buys, sells strings.Builder
	for i := range 30 {
		fmt.Fprintf(&buys, "buy %d %d:3+5\n", bid-2*i, 1+i)
		fmt.Fprintf(&sells, "sell %d %d:3+5\n", ask+2*i, firstSell+i)
	}
	wantPrint(t, made(flat(30), flat(30)), buys.String()+sells.String(), api.OK)
}

func ExamplePrint() {
	text, err := book.Print(api.Book{
		Buys:  []api.Level{{Price: 98, Rests: []api.Rest{{Id: 7, Who: 3, Qty: 5}, {Id: 9, Who: 1, Qty: 1}}}, {Price: 96, Rests: []api.Rest{{Id: 4, Who: 3, Qty: 2}}}},
		Sells: []api.Level{{Price: 101, Rests: []api.Rest{{Id: 8, Who: 1, Qty: 2, Hidden: 6, Show: 2}}}},
	})
	fmt.Print(text, err)
	// Output:
	// buy 98 7:5 9:1
	// buy 96 4:2
	// sell 101 8:2+6
	// <nil>
}
