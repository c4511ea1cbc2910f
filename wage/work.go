package wage

import (
	"slices"

	"isatis/api"
	"isatis/lists"
)

// work is a ledger at work: with the truths of its field, and with their dues,
// each of them once, as they are few where truths are many.
type work struct {
	Ledger
	rows [][]int
	all  []dues
}

// open is for ledgers with no error but that they may have no allowed truth.
func open(l Ledger) *work {
	w := &work{Ledger: l}
	known := map[dues]bool{}
	for rows := range w.truths() {
		w.rows = append(w.rows, slices.Clone(rows))
		if d := w.duesOf(rows); !known[d] {
			known[d] = true
			w.all = append(w.all, d)
		}
	}
	return w
}

// begin puts a ledger to work.
func begin(l Ledger) (*work, api.Errno) {
	if e := check(l); e != api.OK {
		return nil, e
	}
	w := open(l)
	if len(w.wages(nil)) == 0 {
		return nil, api.ErrFail
	}
	return w, api.OK
}

// judge puts a ledger to work for a call that needs a truth of it, and returns
// the wages in its truths. The call names some pence; 0, if it has no money.
func judge(l Ledger, pence int) (*work, []wages, api.Errno) {
	w, e := begin(l)
	if e != api.OK {
		return nil, nil, e
	}
	if !isMoney(pence) {
		return nil, nil, api.ErrRange
	}
	list := w.wages(w.Notes)
	if len(list) == 0 {
		return nil, nil, api.ErrFalse
	}
	return w, list, api.OK
}

// wages has all dues with which there is a truth in which these notes are right.
func (w *work) wages(notes []Note) []wages {
	payable := map[earner]Range{}
	var list []wages
	for _, d := range w.all {
		g := wages{dues: d}
		for weeder := range w.Field.Weeders {
			e := earner{weeder: weeder, due: d[weeder]}
			r, known := payable[e]
			if !known {
				r = e.payable(notes)
				payable[e] = r
			}
			g.paid[weeder] = r
		}
		if g, is := g.within(w.Box); is {
			list = append(list, g)
		}
	}
	return list
}

// quantity is what is bounded: of has what it can be for a weeder, if the dues
// are these.
type quantity struct{ of func(wages, int) Range }

// bounds has them for each weeder, in a list of wages that is not empty.
func (w *work) bounds(q quantity, list []wages) []Range {
	bounds := make([]Range, w.Field.Weeders)
	for weeder := range bounds {
		var low, high []int
		for _, g := range list {
			r := q.of(g, weeder)
			low, high = append(low, r.Lo), append(high, r.Hi)
		}
		bounds[weeder] = Range{Lo: lists.Least(low[0], low[1:]...), Hi: slices.Max(high)}
	}
	return bounds
}

// sure has what is owed to each weeder at least.
func (w *work) sure(list []wages) []int {
	var least []int
	for _, r := range w.bounds(quantity{of: wages.owedTo}, list) {
		least = append(least, r.Lo)
	}
	return least
}

// settles reports whether all dues are known once these rows are. As the same
// rows make the same due, each weeder is settled then, and else one is not.
func (w *work) settles(rows []int) bool {
	known := map[sheet]dues{}
	for _, truth := range w.rows {
		seen, d := kept(truth, rows), w.duesOf(truth)
		if before, ok := known[seen]; ok && before != d {
			return false
		}
		known[seen] = d
	}
	return true
}

// spares reports whether these notes can be left out.
func (w *work) spares(notes []int) bool {
	return len(w.wages(lists.Without(w.Notes, notes))) > 0
}
