package couch

import (
	"slices"

	"isatis/api"
	"isatis/lists"
)

// perRise is how much of Size times Wet makes the heap rise by 1.
const perRise = 10

// state is what the heap is at the beginning of an hour.
type state struct {
	heat   int
	turned bool
}

// work is a heap at work. It remembers what a state cools to, as the same
// states come up in many truths and turnings.
type work struct {
	Heap
	truths []Truth // those of the heap
	shown  []heats // what readings can show, in all truths of whatever readings
	cooled map[state]int
}

// start is for calls that need no truths.
func start(h Heap) *work { return &work{Heap: h, cooled: map[state]int{}} }

// open is for valid heaps only, whose truths are few. Truths that follow one
// another often show the same, and then one of them tells all.
func open(h Heap) *work {
	w := start(h)
	for t := range w.allTruths() {
		own := w.play(t, w.Turns)
		if n := len(w.shown); n == 0 || w.shown[n-1] != own {
			w.shown = append(w.shown, own)
		}
		if own.showAll(w.Readings) {
			w.truths = append(w.truths, t)
		}
	}
	return w
}

// begin puts a heap to work for a call that needs a truth of it; named says
// whether what else the call names is as it must be.
func begin(h Heap, named bool) (*work, api.Errno) {
	if e := CheckHeap(h); e != api.OK {
		return nil, e
	}
	if !named {
		return nil, api.ErrRange
	}
	w := open(h)
	if len(w.truths) == 0 {
		return nil, api.ErrFalse
	}
	return w, api.OK
}

func (w *work) cool(s state) int {
	heat, known := w.cooled[s]
	if !known {
		heat = s.heat
		if s.turned {
			heat -= s.heat * w.Cool / api.MaxCouchHundred
		}
		w.cooled[s] = heat
	}
	return heat
}

func (w *work) play(t Truth, turns []int) (all heats) {
	heat := t.Start
	for hour := range w.Last + 1 {
		heat = w.cool(state{heat: heat, turned: slices.Contains(turns, hour)})
		heat += w.Size * t.Wet[hour] / perRise
		all[hour] = heat
	}
	return all
}

// isKept reports whether the turnings keep the heap in this truth.
func (w *work) isKept(t Truth, turns []int) bool {
	all := w.play(t, turns)
	return !slices.ContainsFunc(all[:w.Last+1], w.isLost)
}

// keepsAlways lays a truth in which the heap is lost before all others, as it
// often is lost there with the turnings that are asked about next, too.
func (w *work) keepsAlways(turns []int) bool {
	for i, t := range w.truths {
		if !w.isKept(t, turns) {
			copy(w.truths[1:], w.truths[:i])
			w.truths[0] = t
			return false
		}
	}
	return true
}

func (w *work) keeps(turns []int) int {
	switch {
	case w.keepsAlways(turns):
		return Always
	case slices.ContainsFunc(w.truths, func(t Truth) bool { return w.isKept(t, turns) }):
		return Perhaps
	}
	return Never
}

// plays are the heats in each truth of the heap.
func (w *work) plays(turns []int) []heats {
	var list []heats
	for _, t := range w.truths {
		list = append(list, w.play(t, turns))
	}
	return list
}

func (w *work) bounds(turns []int) []Range {
	plays := w.plays(turns)
	list := make([]Range, w.Last+1)
	for hour := range list {
		var numbers []int
		for _, all := range plays {
			numbers = append(numbers, all[hour])
		}
		list[hour] = span(numbers)
	}
	return list
}

// question is what is asked of the heat of an hour.
type question struct {
	hour int
	of   func(Heap, int) bool
}

// some reports whether it is so in some truth of the heap.
func (w *work) some(plays []heats, q question) bool {
	return slices.ContainsFunc(plays, func(all heats) bool { return q.of(w.Heap, all[q.hour]) })
}

func (w *work) fear(turns []int) (d Danger, found bool) {
	plays := w.plays(turns)
	for hour := range w.Last + 1 {
		burns, dies := question{hour: hour, of: Heap.burns}, question{hour: hour, of: Heap.dies}
		d = Danger{Hour: hour, Burns: w.some(plays, burns), Dies: w.some(plays, dies)}
		if d.Burns || d.Dies {
			return d, true
		}
	}
	return Danger{}, false
}

// fit reports whether these readings are all right in some truth.
func (w *work) fit(readings []Reading) bool {
	return slices.ContainsFunc(w.shown, func(own heats) bool { return own.showAll(readings) })
}

// spares reports whether these readings can be left out.
func (w *work) spares(readings []int) bool { return w.fit(lists.Without(w.Readings, readings)) }
