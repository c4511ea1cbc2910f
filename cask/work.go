package cask

import (
	"slices"

	"isatis/api"
	"isatis/lists"
)

// work is a cellar at work.
type work struct {
	Cellar
	possible []truth // truths without regard to trials
	truths   []truth // those of the cellar
}

// open is for valid cellars only, whose truths are few.
func open(c Cellar) *work {
	w := &work{Cellar: c}
	for own := range w.allTruths() {
		w.possible = append(w.possible, own)
		if w.allRight(own, w.Trials) {
			w.truths = append(w.truths, own)
		}
	}
	return w
}

// begin puts a cellar to work for a call that needs a truth of it; named says
// whether what else the call names is as it must be.
func begin(c Cellar, named bool) (*work, api.Errno) {
	if e := CheckCellar(c); e != api.OK {
		return nil, e
	}
	if !named {
		return nil, api.ErrRange
	}
	w := open(c)
	if len(w.truths) == 0 {
		return nil, api.ErrFalse
	}
	return w, api.OK
}

func (w *work) bounds(s source) Range {
	var numbers []int
	for _, own := range w.truths {
		numbers = append(numbers, w.strength(own, s))
	}
	return span(numbers)
}

// fit reports whether these trials are all right in some truth.
func (w *work) fit(trials []Trial) bool {
	return slices.ContainsFunc(w.possible, func(own truth) bool { return w.allRight(own, trials) })
}

// spares reports whether these trials can be left out.
func (w *work) spares(trials []int) bool { return w.fit(lists.Without(w.Trials, trials)) }
