package mix

import (
	"slices"

	"isatis/api"
	"isatis/lists"
)

// work is a case at work.
type work struct {
	Case
	possible []sale // those without regard to tests
	explain  []sale // those in which all tests are right
}

// open is for valid cases only, whose truths are few.
func open(c Case) *work {
	w := &work{Case: c}
	for s := range w.sales() {
		w.possible = append(w.possible, s)
		if w.passes(w.strengthOf(s)) {
			w.explain = append(w.explain, s)
		}
	}
	return w
}

// begin puts a case to work for a call that needs a truth of its cellar.
func begin(c Case) (*work, api.Errno) {
	if e := CheckCase(c); e != api.OK {
		return nil, e
	}
	w := open(c)
	if len(w.possible) == 0 {
		return nil, api.ErrFalse
	}
	return w, api.OK
}

// judge puts a case to work for a call that needs a truth of the case.
func judge(c Case) (*work, api.Errno) {
	w, e := begin(c)
	if e != api.OK {
		return nil, e
	}
	if len(w.explain) == 0 {
		return nil, api.ErrFail
	}
	return w, api.OK
}

// quantity is what is bounded: of tells how much it is in a sale.
type quantity struct{ of func(Case, sale) int }

func (w *work) bounds(q quantity) Range {
	var numbers []int
	for _, s := range w.explain {
		numbers = append(numbers, q.of(w.Case, s))
	}
	return Range{Lo: lists.Least(numbers[0], numbers[1:]...), Hi: slices.Max(numbers)}
}

func (w *work) shares() Range { return w.bounds(quantity{of: Case.shareOf}) }

func (w *work) strengths() Range { return w.bounds(quantity{of: Case.strengthOf}) }

// spares reports whether these tests can be left out.
func (w *work) spares(tests []int) bool {
	return slices.ContainsFunc(w.possible, func(s sale) bool { return w.passes(w.strengthOf(s), tests...) })
}
