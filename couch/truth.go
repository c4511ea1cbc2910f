package couch

import (
	"iter"
	"slices"

	"isatis/api"
	"isatis/lists"
)

// isTruth reports whether the truth chooses from the heap's ranges; readings
// are not asked.
func (h Heap) isTruth(t Truth) bool {
	if !h.Start.holds(t.Start) || len(t.Wet) != len(h.Wet) {
		return false
	}
	for hour, r := range h.Wet {
		if !r.holds(t.Wet[hour]) {
			return false
		}
	}
	return true
}

// allTruths yields truths without regard to readings. Each is in memory of its
// own.
func (h Heap) allTruths() iter.Seq[Truth] {
	return func(yield func(Truth) bool) {
		var parts [][]int
		for _, r := range h.ranges() {
			parts = append(parts, lists.FromTo(r.Lo, r.Hi))
		}
		for numbers := range lists.Choices(parts) {
			if !yield(Truth{Start: numbers[0], Wet: slices.Clone(numbers[1:])}) {
				return
			}
		}
	}
}

// heats are those of all hours. In hours that the heap does not have they are
// 0, so that heats of one heap are equal if they are so in all of its hours.
type heats [api.MaxCouchLast + 1]int

func (all heats) show(r Reading) bool {
	near := Range{Lo: r.Seen - r.Error, Hi: r.Seen + r.Error}
	return near.holds(all[r.Hour])
}

func (all heats) showAll(readings []Reading) bool { return lists.All(readings, all.show) }
