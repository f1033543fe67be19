package tape

import (
	"cmp"
	"slices"

	"pitfloor/api"
)

// heard has, by Id, what rests of orders by what was told; of which nothing rests is not in it.
type heard map[int]amount

// amount that rests of an order, and at which price.
type amount struct{ qty, price int }

// Book of what was told.
func Book(l []api.Event) ([][3]int, error) {
	if err := Check(l); err != nil {
		return nil, err
	}
	h := heard{}
	for _, e := range l {
		h.hear(e)
	}
	return h.byId(), nil
}

// hear an event, behind those that were heard.
func (h heard) hear(e api.Event) {
	switch e.What {
	case api.Rested:
		h.set(e.Id, amount{e.Qty, e.Price})
	case api.Traded:
		has := h[e.Trade.Maker]
		h.set(e.Trade.Maker, amount{has.qty - e.Trade.Qty, has.price})
	case api.Gone:
		delete(h, e.Id)
	}
}

// set what rests of an Id: less than nothing is nothing.
func (h heard) set(id int, a amount) {
	if a.qty <= 0 {
		delete(h, id)
		return
	}
	h[id] = a
}

// byId lists each Id, its Qty and its Price.
func (h heard) byId() [][3]int {
	var l [][3]int
	for id, a := range h {
		l = append(l, [3]int{id, a.qty, a.price})
	}
	slices.SortFunc(l, func(a, b [3]int) int { return cmp.Compare(a[0], b[0]) })
	return l
}
