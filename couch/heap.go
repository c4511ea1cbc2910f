package couch

import (
	"slices"

	"isatis/api"
	"isatis/lists"
)

func (r Range) holds(n int) bool { return r.Lo <= n && n <= r.Hi }

func (r Range) upTo(limit int) bool { return 0 <= r.Lo && r.Lo <= r.Hi && r.Hi <= limit }

func (r Range) isWet() bool { return r.upTo(api.MaxCouchWet) }

// span is for at least one number.
func span(numbers []int) Range {
	return Range{Lo: lists.Least(numbers[0], numbers[1:]...), Hi: slices.Max(numbers)}
}

func (h Heap) hasHour(hour int) bool { return 0 <= hour && hour <= h.Last }

func (h Heap) isTurnings(list []int) bool { return lists.Rises(list) && lists.All(list, h.hasHour) }

func (h Heap) validReading(r Reading) bool {
	return h.hasHour(r.Hour) && Range{Hi: api.MaxCouchSeen}.holds(r.Seen) && Range{Hi: api.MaxCouchError}.holds(r.Error)
}

func (h Heap) validHeats() bool {
	kept := Range{Lo: h.Die, Hi: h.Burn}
	return kept.upTo(api.MaxCouchHeat) && h.Start.upTo(api.MaxCouchHeat)
}

func (h Heap) validHours() bool {
	return h.Last >= 0 && len(h.Wet) == h.Last+1 && lists.All(h.Wet, Range.isWet) && h.isTurnings(h.Turns)
}

// valid leaves the limits to CheckHeap, as they are another error.
func (h Heap) valid() bool {
	return Range{Hi: api.MaxCouchSize}.holds(h.Size) && Range{Hi: api.MaxCouchHundred}.holds(h.Cool) &&
		h.validHeats() && h.validHours() && lists.All(h.Readings, h.validReading)
}

// ranges are what a truth chooses from: Start, and after it the Wet of each
// hour.
func (h Heap) ranges() []Range { return slices.Concat([]Range{h.Start}, h.Wet) }

// hasTooMany stops at the limit, as it need not know how many there are.
func (h Heap) hasTooMany() bool {
	many := 1
	for _, r := range h.ranges() {
		many *= r.Hi - r.Lo + 1
		if many > api.MaxCouchTruths {
			return true
		}
	}
	return false
}

func (h Heap) burns(heat int) bool { return heat > h.Burn }

func (h Heap) dies(heat int) bool { return heat < h.Die }

func (h Heap) isLost(heat int) bool { return h.burns(heat) || h.dies(heat) }
