package crop

import (
	"slices"

	"isatis/api"
	"isatis/lists"
)

// load is a weight that is cropped, with whether a part of it is trodden.
type load struct {
	weight  int
	trodden bool
}

// work is a field at work. It remembers what is left of a load, as the same
// loads come up in many truths and plans.
type work struct {
	Field
	truths    []Truth   // those of the field
	standings []weights // what looks can show, in all truths of whatever looks
	left      map[load]int
}

// start is for calls that need no truths.
func start(f Field) *work { return &work{Field: f, left: map[load]int{}} }

// open is for valid fields only, whose truths are few. Wet changes nothing that
// looks show, so of truths that differ only in it the first one tells all.
func open(f Field) *work {
	w := start(f)
	for t := range w.allTruths() {
		standing := w.weights(t, w.Crops)
		if n := len(w.standings); n == 0 || w.standings[n-1] != standing {
			w.standings = append(w.standings, standing)
		}
		if standing.showsAll(w.Looks) {
			w.truths = append(w.truths, t)
		}
	}
	return w
}

// begin puts a field to work for a call that needs a truth of it; named says
// whether what else the call names is as it must be.
func begin(f Field, named bool) (*work, api.Errno) {
	if e := CheckField(f); e != api.OK {
		return nil, e
	}
	if !named {
		return nil, api.ErrRange
	}
	w := open(f)
	if len(w.truths) == 0 {
		return nil, api.ErrFalse
	}
	return w, api.OK
}

func (w *work) leaves(l load) int {
	weight, known := w.left[l]
	if !known {
		weight = l.weight
		if l.trodden {
			weight -= l.weight * w.Trod / api.MaxCropHundred
		}
		w.left[l] = weight
	}
	return weight
}

func (w *work) play(t Truth, plan []int) []Crop {
	standing := w.weights(t, plan)
	crops := make([]Crop, len(plan))
	for i, week := range plan {
		weight := w.leaves(load{weight: standing[week], trodden: t.Wet[week] == wet})
		strength := w.strength(plan, i)
		crops[i] = Crop{Weight: weight, Strength: strength, Worth: weight * strength}
	}
	return crops
}

// worths are those of the plan in each truth of the field.
func (w *work) worths(plan []int) []int {
	list := make([]int, len(w.truths))
	for i, t := range w.truths {
		for _, c := range w.play(t, plan) {
			list[i] += c.Worth
		}
	}
	return list
}

// best compares plans of one worth, as plans are not tried in lexicographic
// order but by their length.
func (w *work) best() (plan []int, worth int) {
	for length := range len(w.Base) + 1 {
		for other := range lists.Increasing(w.Last+1, length) {
			sure := span(w.worths(other)).Lo
			if sure > worth || sure == worth && slices.Compare(other, plan) < 0 {
				plan, worth = slices.Clone(other), sure
			}
		}
	}
	return plan, worth
}

func (w *work) standing(week int) Range {
	var list []int
	for _, t := range w.truths {
		list = append(list, w.weights(t, w.Crops)[week])
	}
	return span(list)
}

// fit reports whether these looks are all right in some truth.
func (w *work) fit(looks []Look) bool {
	return slices.ContainsFunc(w.standings, func(standing weights) bool { return standing.showsAll(looks) })
}

// spares reports whether these looks can be left out.
func (w *work) spares(looks []int) bool { return w.fit(lists.Without(w.Looks, looks)) }

func (c Crop) weight() int { return c.Weight }

func (c Crop) worth() int { return c.Worth }

// gauge is what is bounded of a crop.
type gauge struct{ of func(Crop) int }

// bounds are for the crop i, of crops as they are in each truth.
func (g gauge) bounds(plays [][]Crop, i int) Range {
	var list []int
	for _, crops := range plays {
		list = append(list, g.of(crops[i]))
	}
	return span(list)
}

func (w *work) bounds(plan []int) []Bound {
	var plays [][]Crop
	for _, t := range w.truths {
		plays = append(plays, w.play(t, plan))
	}
	weight, worth := gauge{of: Crop.weight}, gauge{of: Crop.worth}
	list := make([]Bound, len(plan))
	for i := range plan {
		list[i] = Bound{Weight: weight.bounds(plays, i), Strength: w.strength(plan, i), Worth: worth.bounds(plays, i)}
	}
	return list
}
