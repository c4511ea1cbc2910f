// Package weed is layer 1: see shared/doc/01-weed.md.
package weed

import (
	"slices"

	"isatis/api"
	"isatis/lists"
)

// Range: see the chapter.
type Range struct{ Lo, Hi int }

// Tally: see the chapter.
type Tally struct {
	Weeder, From, To int
	Count            Range
}

// Field: see the chapter.
type Field struct {
	Rows, Weeders int
	Left          Range
	Tallies       []Tally
}

// CheckField returns the error of the field, or OK.
func CheckField(f Field) api.Errno {
	switch {
	case f.Rows > api.MaxWeedRows || f.Weeders > api.MaxWeedWeeders || len(f.Tallies) > api.MaxWeedTallies:
		return api.ErrLimit
	case !f.valid():
		return api.ErrArg
	case f.power() > api.MaxWeedTruths:
		return api.ErrLimit
	}
	return api.OK
}

// Done returns the bounds of the number of rows that each weeder did.
func Done(f Field) ([]Range, api.Errno) {
	w, e := begin(f, true)
	if e != api.OK {
		return nil, e
	}
	bounds := make([]Range, f.Weeders)
	for weeder := range f.Weeders {
		bounds[weeder] = w.bounds(weeder)
	}
	return bounds, api.OK
}

// Who returns all that a truth of the field says of the row.
func Who(f Field, row int) ([]int, api.Errno) {
	w, e := begin(f, f.hasRow(row))
	if e != api.OK {
		return nil, e
	}
	return w.who(row), api.OK
}

// Ask returns the fewest rows that settle the weeder.
func Ask(f Field, weeder int) ([]int, api.Errno) {
	w, e := begin(f, f.hasWeeder(weeder))
	if e != api.OK {
		return nil, e
	}
	s := lists.Search[asking]{Of: w.ask(weeder), Size: f.Rows, Must: asking.settles}
	return s.Shortest(), api.OK
}

// Next returns the row to ask about first, and the questions for all truths;
// the row -1, and 0, if the weeder's number is known.
func Next(f Field, weeder int) (row, many int, e api.Errno) {
	w, e := begin(f, f.hasWeeder(weeder))
	if e != api.OK {
		return 0, 0, e
	}
	a := w.ask(weeder)
	if a.known(w.truths) {
		return -1, 0, api.OK
	}
	costs := a.costs(blank(), w.truths)
	many = lists.Least(costs[0], costs[1:]...)
	return slices.Index(costs, many), many, api.OK
}

// First returns the first wrong tally.
func First(f Field) (int, api.Errno) {
	if e := CheckField(f); e != api.OK {
		return 0, e
	}
	w := open(f)
	for n := range f.Tallies {
		if !w.agree(n + 1) {
			return n, api.OK
		}
	}
	return 0, api.ErrNone
}

// Leave returns the smallest set of tallies that can be left out.
func Leave(f Field) ([]int, api.Errno) {
	if e := CheckField(f); e != api.OK {
		return nil, e
	}
	s := lists.Search[*work]{Of: open(f), Size: len(f.Tallies), Must: (*work).spares}
	return s.Shortest(), api.OK
}

// ProveTruth reports whether the field is valid, and the list is a truth of it.
func ProveTruth(f Field, truth []int) bool {
	if CheckField(f) != api.OK || len(truth) != f.Rows || !lists.All(truth, f.canSay) {
		return false
	}
	s := blank()
	copy(s[:], truth)
	return f.allows(s) && f.wrong(s) == faults{}
}

// ProveAsk reports whether the list is an increasing one of rows that settle
// the weeder, in a field that is valid and has a truth.
func ProveAsk(f Field, weeder int, rows []int) bool {
	w, e := begin(f, f.hasWeeder(weeder))
	if e != api.OK || !lists.Rises(rows) || !lists.All(rows, f.hasRow) {
		return false
	}
	return w.ask(weeder).settles(rows)
}
