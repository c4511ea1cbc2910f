package vat

import (
	"slices"

	"isatis/api"
	"isatis/lists"
)

// shades are those of as many dips as there may be, one after the other.
type shades [api.MaxVatDips]int

// work is a vat at work. It remembers the shades of a bath, as the same baths
// come up in many truths.
type work struct {
	Vat
	truths  []Truth  // those of the vat
	courses []course // what becomes of the vat in them
	shown   []course // what looks can show, in all truths of whatever looks
	dyed    map[bath]shades
}

// start is for calls that need no truths.
func start(v Vat) *work { return &work{Vat: v, dyed: map[bath]shades{}} }

// open is for valid vats only, whose truths are few.
func open(v Vat) *work {
	w := start(v)
	for t := range w.allTruths() {
		c := w.play(t)
		w.shown = append(w.shown, c)
		if c.showAll(w.Looks) {
			w.truths, w.courses = append(w.truths, t), append(w.courses, c)
		}
	}
	return w
}

// begin puts a vat to work for a call that needs a truth of it; named says
// whether what else the call names is as it must be.
func begin(v Vat, named bool) (*work, api.Errno) {
	if e := CheckVat(v); e != api.OK {
		return nil, e
	}
	if !named {
		return nil, api.ErrRange
	}
	w := open(v)
	if len(w.truths) == 0 {
		return nil, api.ErrFalse
	}
	return w, api.OK
}

func (w *work) shades(b bath) shades {
	list, known := w.dyed[b]
	if !known {
		left := b
		for i := range list {
			list[i] = left.shade()
			left.blue = w.dip(left.blue)
		}
		w.dyed[b] = list
	}
	return list
}

// measure is a number that is bounded: of tells how much it is on the day, with
// so many further dips, if this becomes of the vat.
type measure struct {
	day, dips int
	of        func(*work, course, measure) int
}

func (w *work) balance(c course, m measure) int { return c.balances[m.day] }

func (w *work) blue(c course, m measure) int { return c.blues[m.day] }

// shade is the sum of the shades of the further dips.
func (w *work) shade(c course, m measure) int {
	all := w.shades(w.bath(c, m.day))
	return lists.Sum(all[:m.dips])
}

// bounds are those in all truths of the vat.
func (w *work) bounds(m measure) Range {
	var numbers []int
	for _, c := range w.courses {
		numbers = append(numbers, m.of(w, c, m))
	}
	return span(numbers)
}

func (w *work) order(day int) int {
	inOrder := func(c course) bool { return w.inOrder(c.balances[day]) }
	switch {
	case lists.All(w.courses, inOrder):
		return Always
	case slices.ContainsFunc(w.courses, inOrder):
		return Perhaps
	}
	return Never
}

// fit reports whether these looks are all right in some truth.
func (w *work) fit(looks []Look) bool {
	return slices.ContainsFunc(w.shown, func(c course) bool { return c.showAll(looks) })
}

// spares reports whether these looks can be left out.
func (w *work) spares(looks []int) bool { return w.fit(lists.Without(w.Looks, looks)) }
