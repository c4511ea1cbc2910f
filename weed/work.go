package weed

import (
	"slices"

	"isatis/api"
	"isatis/lists"
)

// work is a field at work: with its truths, and with the faults of all allowed
// truths, each of them once, as they are few where allowed truths are many.
type work struct {
	Field
	truths []sheet
	faults []faults
}

// open is for valid fields only, whose truths are few.
func open(f Field) *work {
	w := &work{Field: f}
	for s := range w.allowed() {
		found := w.wrong(s)
		if found == (faults{}) {
			w.truths = append(w.truths, s)
		}
		if !slices.Contains(w.faults, found) {
			w.faults = append(w.faults, found)
		}
	}
	return w
}

// begin puts a field to work for a call that needs a truth of it; named says
// whether there is what else the call names.
func begin(f Field, named bool) (*work, api.Errno) {
	if e := CheckField(f); e != api.OK {
		return nil, e
	}
	if !named {
		return nil, api.ErrRange
	}
	w := open(f)
	if len(w.truths) == 0 {
		return nil, api.ErrFalse
	}
	return w, api.OK
}

func (w *work) bounds(weeder int) Range {
	var numbers []int
	for _, t := range w.truths {
		numbers = append(numbers, t.count(w.whole(weeder)))
	}
	return Range{Lo: lists.Least(numbers[0], numbers[1:]...), Hi: slices.Max(numbers)}
}

func (w *work) who(row int) []int {
	var list []int
	for said := left; said < w.Weeders; said++ {
		if slices.ContainsFunc(w.truths, func(t sheet) bool { return t[row] == said }) {
			list = append(list, said)
		}
	}
	return list
}

// agree reports whether the tallies before end are all right in some allowed
// truth; those from end on are not asked.
func (w *work) agree(end int) bool {
	return slices.ContainsFunc(w.faults, func(found faults) bool {
		return !slices.Contains(found[:end], true)
	})
}

// spares reports whether these tallies can be left out: then they count as right.
func (w *work) spares(tallies []int) bool {
	return slices.ContainsFunc(w.faults, func(found faults) bool {
		for _, i := range tallies {
			found[i] = false
		}
		return found == faults{}
	})
}
