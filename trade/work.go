package trade

import (
	"slices"

	"isatis/api"
	"isatis/cellar"
	"isatis/lists"
)

// outcome stands for all truths of the cellar in which the casks bring the same
// money, as notes cannot tell them apart.
type outcome struct {
	money
	weakest []int // how strong each cask is in all of them
}

// work is a trade at work.
type work struct {
	Trade
	possible []outcome // those of all truths of the cellar
	outcomes []outcome // those in which all notes are right
}

// open is for valid trades only, whose truths are few.
func open(t Trade) *work {
	w := &work{Trade: t}
	known, places := map[showing]int{}, map[money]int{}
	for _, strengths := range cellar.Truths(w.Cellar) {
		m := w.brings(strengths, known)
		place, ok := places[m]
		if !ok {
			place = len(w.possible)
			places[m] = place
			w.possible = append(w.possible, outcome{money: m, weakest: strengths})
		}
		w.possible[place].weaken(strengths)
	}
	for _, o := range w.possible {
		if o.agree(w.Notes) {
			w.outcomes = append(w.outcomes, o)
		}
	}
	return w
}

func (o outcome) weaken(strengths []int) {
	for cask, strength := range strengths {
		o.weakest[cask] = min(o.weakest[cask], strength)
	}
}

// begin puts a trade to work for a call that needs a truth of its cellar; named
// says whether what else the call names is as it must be.
func begin(t Trade, named bool) (*work, api.Errno) {
	if e := CheckTrade(t); e != api.OK {
		return nil, e
	}
	if !named {
		return nil, api.ErrRange
	}
	w := open(t)
	if len(w.possible) == 0 {
		return nil, api.ErrFalse
	}
	return w, api.OK
}

// judge puts a trade to work for a call that needs a truth of it.
func judge(t Trade, named bool) (*work, api.Errno) {
	w, e := begin(t, named)
	if e != api.OK {
		return nil, e
	}
	if len(w.outcomes) == 0 {
		return nil, api.ErrFail
	}
	return w, api.OK
}

// bounds are those of what it is in each outcome.
func (w *work) bounds(of func(outcome) int) Range {
	var numbers []int
	for _, o := range w.outcomes {
		numbers = append(numbers, of(o))
	}
	return Range{Lo: lists.Least(numbers[0], numbers[1:]...), Hi: slices.Max(numbers)}
}

func (w *work) worths(sale []int) Range {
	return w.bounds(func(o outcome) int { return w.worth(o.money, sale) })
}

func (w *work) suits(cask, order int) bool {
	o := w.Orders[order]
	weakest := w.bounds(func(o outcome) int { return o.weakest[cask] }).Lo
	return w.weight(cask) >= o.Least && weakest >= w.Grades[o.Grade].Strength
}

func (w *work) isDelivery(list []int) bool {
	if len(list) != len(w.Orders) {
		return false
	}
	for order, cask := range list {
		if !w.hasCask(cask) || slices.Contains(list[:order], cask) || !w.suits(cask, order) {
			return false
		}
	}
	return true
}

// isShort is for an increasing list of orders.
func (w *work) isShort(orders []int) bool {
	suiting := 0
	for cask := range w.casks() {
		if slices.ContainsFunc(orders, func(order int) bool { return w.suits(cask, order) }) {
			suiting++
		}
	}
	return suiting < len(orders)
}

// spares reports whether these notes can be left out.
func (w *work) spares(notes []int) bool { return w.fit(lists.Without(w.Notes, notes)) }

// fit reports whether these notes are all right in some truth of the cellar.
func (w *work) fit(notes []Note) bool {
	return slices.ContainsFunc(w.possible, func(o outcome) bool { return o.agree(notes) })
}
