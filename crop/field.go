package crop

import (
	"cmp"
	"slices"

	"isatis/api"
	"isatis/lists"
)

// What Wet says of a week.
const (
	dry     = 0
	wet     = 1
	unknown = 2
)

func (r Range) holds(n int) bool { return r.Lo <= n && n <= r.Hi }

func (r Range) upTo(limit int) bool { return 0 <= r.Lo && r.Lo <= r.Hi && r.Hi <= limit }

func (r Range) isGrowth() bool { return r.upTo(api.MaxCropGrowth) }

// span is for at least one number.
func span(numbers []int) Range {
	return Range{Lo: lists.Least(numbers[0], numbers[1:]...), Hi: slices.Max(numbers)}
}

func (f Field) hasWeek(week int) bool { return 0 <= week && week <= f.Last }

func (f Field) isPlan(list []int) bool {
	return len(list) <= len(f.Base) && lists.Rises(list) && lists.All(list, f.hasWeek)
}

func (f Field) validLook(l Look) bool { return f.hasWeek(l.Week) && l.Weight.upTo(api.MaxCropWeight) }

func (f Field) validWeeks() bool {
	weeks := f.Last + 1
	return f.Last >= 0 && len(f.Growth) == weeks && lists.All(f.Growth, Range.isGrowth) &&
		len(f.Wet) == weeks && lists.All(f.Wet, Range{Lo: dry, Hi: unknown}.holds)
}

func (f Field) validBase() bool {
	falling := func(a, b int) int { return cmp.Compare(b, a) }
	return len(f.Base) >= 1 && lists.All(f.Base, Range{Hi: api.MaxCropStrength}.holds) && slices.IsSortedFunc(f.Base, falling)
}

func (f Field) validCare() bool {
	return Range{Lo: 1, Hi: api.MaxCropRipe}.holds(f.Ripe) && Range{Hi: api.MaxCropLate}.holds(f.Late) && Range{Hi: api.MaxCropHundred}.holds(f.Trod)
}

// valid leaves the limits to CheckField, as they are another error.
func (f Field) valid() bool {
	return f.validWeeks() && f.validBase() && f.validCare() && f.isPlan(f.Crops) && lists.All(f.Looks, f.validLook)
}

// ranges are what a truth chooses from: those of Growth, and after them, for
// each week, what Wet leaves open.
func (f Field) ranges() []Range {
	list := slices.Clone(f.Growth)
	for _, said := range f.Wet {
		r := Range{Lo: said, Hi: said}
		if said == unknown {
			r = Range{Lo: dry, Hi: wet}
		}
		list = append(list, r)
	}
	return list
}

// hasTooMany stops at the limit, as the product of all sizes need not fit into
// an int.
func (f Field) hasTooMany() bool {
	many := 1
	for _, r := range f.ranges() {
		many *= r.Hi - r.Lo + 1
		if many > api.MaxCropTruths {
			return true
		}
	}
	return false
}
