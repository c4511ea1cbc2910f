package piece

import (
	"slices"

	"isatis/api"
	"isatis/lists"
)

// work is a job at work. It remembers the bounds of the shades of stretches, as
// the same ones come up in many plans.
type work struct {
	Job
	all   []shades // those in all truths, each of them once
	spans map[stretch]Range
}

// begin puts a job to work; named says whether what else the call names is as it
// must be.
func begin(j Job, named bool) (*work, api.Errno) {
	if e := CheckJob(j); e != api.OK {
		return nil, e
	}
	if !named {
		return nil, api.ErrRange
	}
	return open(j)
}

// open is for valid jobs only, whose truths are few.
func open(j Job) (*work, api.Errno) {
	w := &work{Job: j, spans: map[stretch]Range{}}
	known := map[shades]bool{}
	for t := range truths(j.Vat) {
		s, e := w.shades(t)
		if e != api.OK {
			return nil, e
		}
		if !known[s] {
			known[s] = true
			w.all = append(w.all, s)
		}
	}
	return w, api.OK
}

// span has the bounds of the shade of a piece, in all truths, that is dipped so.
func (w *work) span(x stretch) Range {
	r, known := w.spans[x]
	if !known {
		var sums []int
		for _, s := range w.all {
			sums = append(sums, s.sum(x))
		}
		r = Range{Lo: lists.Least(sums[0], sums[1:]...), Hi: slices.Max(sums)}
		w.spans[x] = r
	}
	return r
}

// right reports whether the piece is right always if it is dipped so.
func (w *work) right(piece int, x stretch) bool { return w.span(x).within(w.Pieces[piece]) }

// sure is the number of pieces that are right always.
func (w *work) sure(plan []Step) int {
	many := 0
	for piece, x := range w.stretches(plan) {
		if w.right(piece, x) {
			many++
		}
	}
	return many
}

// find looks for the fewest dips with which the piece is right always after the
// first one of these numbers of dips after which there are any.
func (w *work) find(piece int, befores ...int) (dips int, found bool) {
searching:
	for _, before := range befores {
		for many := range api.MaxVatDips - before + 1 {
			if w.right(piece, stretch{before: before, dips: many}) {
				dips, found = many, true
				break searching
			}
		}
	}
	return dips, found
}

// question is what is asked of the pieces in a truth: of tells within which range
// a number is then, and it is so if the number is one of those allowed.
type question struct {
	one, other   int
	old, allowed Range
	of           func(dyed, question) Range
}

func single(n int) Range { return Range{Lo: n, Hi: n} }

func (d dyed) shade(q question) Range { return single(d[q.one]) }

func (d dyed) fromOther(q question) Range { return single(d[q.one] - d[q.other]) }

// fromOld has the differences from all numbers that the old piece can have.
func (d dyed) fromOld(q question) Range {
	return Range{Lo: d[q.one] - q.old.Hi, Hi: d[q.one] - q.old.Lo}
}

func (w *work) verdict(plan []Step, q question) int {
	var answers []Range
	for _, s := range w.all {
		answers = append(answers, q.of(w.dye(plan, s), q))
	}
	switch {
	case lists.All(answers, func(r Range) bool { return r.within(q.allowed) }):
		return Always
	case slices.ContainsFunc(answers, q.allowed.meets):
		return Perhaps
	}
	return Never
}
