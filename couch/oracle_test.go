package couch_test

import (
	"math/rand/v2"
	"slices"

	"isatis/couch"
	"isatis/oracle"
)

// The oracle follows the chapter word by word, so that it shares no way of
// computing with the package. It is for valid heaps.

// anyTruths are those of the heap without its readings.
func anyTruths(h couch.Heap) (truths []couch.Truth) {
	for heat := h.Start.Lo; heat <= h.Start.Hi; heat++ {
		for _, wet := range oracle.OneOfEach(h.Wet...) {
			truths = append(truths, couch.Truth{Start: heat, Wet: wet})
		}
	}
	return truths
}

func heatsOf(h couch.Heap, y couch.Truth, turns []int) (heats []int) {
	heat := y.Start
	for hour := 0; hour <= h.Last; hour++ {
		for _, turned := range turns {
			if turned == hour {
				heat = heat - heat*h.Cool/100
			}
		}
		heat = heat + h.Size*y.Wet[hour]/10
		heats = append(heats, heat)
	}
	return heats
}

func right(h couch.Heap, r couch.Reading, y couch.Truth) bool {
	heat := heatsOf(h, y, h.Turns)[r.Hour]
	if heat < r.Seen {
		return r.Seen-heat <= r.Error
	}
	return heat-r.Seen <= r.Error
}

func allRight(h couch.Heap, y couch.Truth) bool {
	return !slices.ContainsFunc(h.Readings, func(r couch.Reading) bool { return !right(h, r, y) })
}

func truthsOf(h couch.Heap) (truths []couch.Truth) {
	for _, y := range anyTruths(h) {
		if allRight(h, y) {
			truths = append(truths, y)
		}
	}
	return truths
}

func isRight(h couch.Heap) bool { return len(truthsOf(h)) > 0 }

// lostIn reports whether the heap is lost in some hour of the truth.
func lostIn(h couch.Heap, y couch.Truth, turns []int) bool {
	return slices.ContainsFunc(heatsOf(h, y, turns), func(heat int) bool { return heat > h.Burn || heat < h.Die })
}

func keepsOf(h couch.Heap, turns []int) int {
	kept, all := 0, truthsOf(h)
	for _, y := range all {
		if !lostIn(h, y, turns) {
			kept++
		}
	}
	switch kept {
	case len(all):
		return couch.Always
	case 0:
		return couch.Never
	}
	return couch.Perhaps
}

func boundsOf(h couch.Heap, turns []int) (bounds []couch.Range) {
	for _, y := range truthsOf(h) {
		heats := heatsOf(h, y, turns)
		if bounds == nil {
			for _, heat := range heats {
				bounds = append(bounds, to(heat, heat))
			}
		}
		for hour, heat := range heats {
			bounds[hour] = to(min(bounds[hour].Lo, heat), max(bounds[hour].Hi, heat))
		}
	}
	return bounds
}

// fearOf is the first danger; there is none if it neither burns nor dies.
func fearOf(h couch.Heap, turns []int) (d couch.Danger) {
	for d.Hour = 0; d.Hour <= h.Last; d.Hour++ {
		for _, y := range truthsOf(h) {
			heat := heatsOf(h, y, turns)[d.Hour]
			d.Burns = d.Burns || heat > h.Burn
			d.Dies = d.Dies || heat < h.Die
		}
		if d.Burns || d.Dies {
			return d
		}
	}
	return couch.Danger{}
}

// fewestOf are the fewest turnings, and whether there are any.
func fewestOf(h couch.Heap) ([]int, bool) {
	truths := truthsOf(h)
	for _, turns := range oracle.ShortestFirst(h.Last + 1) {
		if !slices.ContainsFunc(truths, func(y couch.Truth) bool { return lostIn(h, y, turns) }) {
			return turns, true
		}
	}
	return nil, false
}

// without is the heap with the readings alone that are not in the list.
func without(h couch.Heap, list []int) couch.Heap {
	h.Readings = oracle.Without(h.Readings, list)
	return h
}

// with is the heap with one more reading.
func with(h couch.Heap, r couch.Reading) couch.Heap {
	h.Readings = append(slices.Clone(h.Readings), r)
	return h
}

// randomReading shows what is so in the truth, within some slack; sometimes it
// has nothing to do with it.
func randomReading(r *rand.Rand, h couch.Heap, y couch.Truth) couch.Reading {
	x := couch.Reading{Hour: r.IntN(h.Last + 1), Error: r.IntN(3)}
	x.Seen = max(0, heatsOf(h, y, h.Turns)[x.Hour]+r.IntN(2*x.Error+1)-x.Error)
	if r.IntN(4) == 0 {
		x.Seen = max(0, x.Seen+r.IntN(17)-8)
	}
	return x
}

func randomTurns(r *rand.Rand, h couch.Heap) []int {
	turns := r.Perm(h.Last + 1)[:r.IntN(min(h.Last, 3)+2)]
	slices.Sort(turns)
	return turns
}

// randomHeap is a valid heap of so many hours, without readings, that has at
// most so many truths. It bears about what it becomes by some turnings in some
// truth.
func randomHeap(r *rand.Rand, hours, truths int) couch.Heap {
	h := couch.Heap{Last: hours - 1, Size: r.IntN(21), Cool: []int{0, 33, 50, 100, r.IntN(101)}[r.IntN(5)], Wet: make([]couch.Range, hours)}
	low, more := r.IntN(60), r.IntN(min(truths, 5))
	h.Start = to(low, low+more)
	truths /= 1 + more
	y := couch.Truth{Start: low + r.IntN(more+1), Wet: make([]int, hours)}
	for _, hour := range r.Perm(hours) {
		low, more := r.IntN(16), r.IntN(min(truths, 5))
		h.Wet[hour] = to(low, low+more)
		truths /= 1 + more
		y.Wet[hour] = low + r.IntN(more+1)
	}
	heats := heatsOf(h, y, randomTurns(r, h))
	h.Die = max(0, slices.Min(heats)+2-r.IntN(10))
	h.Burn = min(500, max(h.Die, slices.Max(heats)-2+r.IntN(10)))
	h.Turns = randomTurns(r, h)
	return h
}

// randomHeaps yields small heaps with at most so many readings, and with a
// number source for what else a test needs.
func randomHeaps(many, readings int) func(yield func(*rand.Rand, couch.Heap) bool) {
	return func(yield func(*rand.Rand, couch.Heap) bool) {
		r := rand.New(rand.NewPCG(4, uint64(many)))
		for range many {
			h := randomHeap(r, 1+r.IntN(6), 1+r.IntN(60))
			truths := anyTruths(h)
			y := truths[r.IntN(len(truths))]
			for range r.IntN(readings + 1) {
				h.Readings = append(h.Readings, randomReading(r, h, y))
			}
			if !yield(r, h) {
				return
			}
		}
	}
}

// bigHeaps are heaps of ten hours with many truths and one reading.
func bigHeaps() (list []couch.Heap) {
	r := rand.New(rand.NewPCG(4, 4))
	for len(list) < 6 {
		h := randomHeap(r, 10, 2000)
		if h = with(h, randomReading(r, h, anyTruths(h)[0])); isRight(h) {
			list = append(list, h)
		}
	}
	return list
}
