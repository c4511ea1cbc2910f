package crop

import (
	"iter"
	"slices"

	"isatis/api"
	"isatis/lists"
)

// isTruth reports whether the truth chooses from the field's ranges; looks are
// not asked.
func (f Field) isTruth(t Truth) bool {
	if len(t.Growth) != len(f.Growth) || len(t.Wet) != len(f.Wet) {
		return false
	}
	numbers := slices.Concat(t.Growth, t.Wet)
	for i, r := range f.ranges() {
		if !r.holds(numbers[i]) {
			return false
		}
	}
	return true
}

// allTruths yields truths without regard to looks. Those that differ only in
// Wet follow one another. Each is in memory of its own.
func (f Field) allTruths() iter.Seq[Truth] {
	return func(yield func(Truth) bool) {
		var parts [][]int
		for _, r := range f.ranges() {
			parts = append(parts, lists.FromTo(r.Lo, r.Hi))
		}
		weeks := f.Last + 1
		for numbers := range lists.Choices(parts) {
			if !yield(Truth{Growth: slices.Clone(numbers[:weeks]), Wet: slices.Clone(numbers[weeks:])}) {
				return
			}
		}
	}
}

// weights are those on the field of each week. In weeks that the field does
// not have they are 0, so that weights of one field are equal if they are so in
// all of its weeks.
type weights [api.MaxCropLast + 1]int

// weights are by this plan, which need not be the field's own.
func (f Field) weights(t Truth, plan []int) (standing weights) {
	weight := 0
	for week := range f.Last + 1 {
		weight += t.Growth[week]
		standing[week] = weight
		if slices.Contains(plan, week) {
			weight = 0
		}
	}
	return standing
}

func (standing weights) shows(l Look) bool { return l.Weight.holds(standing[l.Week]) }

func (standing weights) showsAll(looks []Look) bool { return lists.All(looks, standing.shows) }

// strength is that of the crop i of the plan; it is the same in all truths.
func (f Field) strength(plan []int, i int) int {
	age := plan[i] + 1
	if i > 0 {
		age = plan[i] - plan[i-1]
	}
	late := max(0, age-f.Ripe)
	return max(0, f.Base[i]-late*f.Late)
}
