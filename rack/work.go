package rack

import (
	"slices"

	"isatis/api"
	"isatis/lists"
)

// outcomes are the losses of an order in all truths, each of them once, as they
// are few where truths are many.
type outcomes []losses

// loss is the greatest one.
func (o outcomes) loss() int {
	most := 0
	for _, l := range o {
		most = max(most, l.count())
	}
	return most
}

// ever has the lots that are lost in some truth.
func (o outcomes) ever() (all losses) {
	for _, l := range o {
		for lot, lost := range l {
			all[lot] = all[lot] || lost
		}
	}
	return all
}

func (o outcomes) unsure() int { return o.ever().count() }

// work is a yard at work, with the courses of all its truths.
type work struct {
	Yard
	courses []course
}

// begin puts a yard to work; named says whether what else the call names is as
// it must be.
func begin(y Yard, named bool) (*work, api.Errno) {
	if e := CheckYard(y); e != api.OK {
		return nil, e
	}
	if !named {
		return nil, api.ErrRange
	}
	w := &work{Yard: y}
	for t := range w.truths() {
		w.courses = append(w.courses, start(y, t))
	}
	return w, api.OK
}

func (w *work) outcomes(order [][]int) outcomes {
	var all outcomes
	for _, c := range w.courses {
		if l := w.losses(c.play(order)); !slices.Contains(all, l) {
			all = append(all, l)
		}
	}
	return all
}

// worst looks for a truth in which the most lots are lost.
func (w *work) worst(order [][]int) (many int, worst Truth) {
	many = -1 // so that there is a truth even if no lot is lost in any
looking:
	for _, c := range w.courses {
		switch lost := w.losses(c.play(order)).count(); {
		case lost == len(w.Lots):
			many, worst = lost, c.truth
			break looking
		case lost > many:
			many, worst = lost, c.truth
		}
	}
	return many, worst
}

// question is what is asked of the stay of a lot, with the day on which it is
// due.
type question struct {
	lot int
	of  func(s Stay, due int) bool
}

// some reports whether it is so in some truth.
func (w *work) some(order [][]int, q question) bool {
	return slices.ContainsFunc(w.courses, func(c course) bool {
		return q.of(c.play(order)[q.lot], w.Lots[q.lot].Due)
	})
}

func (w *work) saved(order [][]int, lot int) int {
	switch {
	case !w.some(order, question{lot: lot, of: Stay.lost}):
		return Always
	case !w.some(order, question{lot: lot, of: Stay.saved}):
		return Never
	}
	return Perhaps
}

// trial is an order that was tried, with what comes of it.
type trial struct {
	outcomes
	order [][]int
}

func (w *work) trials() []trial {
	var list []trial
	for order := range w.orders() {
		list = append(list, trial{outcomes: w.outcomes(order), order: order})
	}
	return list
}

// least returns the first order of which this number is the least, and the
// number.
func (w *work) least(of func(trial) int) ([][]int, int) {
	trials := w.trials()
	var numbers []int
	for _, x := range trials {
		numbers = append(numbers, of(x))
	}
	many := lists.Least(numbers[0], numbers[1:]...)
	return trials[slices.Index(numbers, many)].order, many
}

func (w *work) hopeless() []int {
	trials := w.trials()
	var list []int
	for lot := range w.Lots {
		if lists.All(trials, func(x trial) bool { return x.ever()[lot] }) {
			list = append(list, lot)
		}
	}
	return list
}
