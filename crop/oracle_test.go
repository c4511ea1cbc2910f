package crop_test

import (
	"math/rand/v2"
	"slices"

	"isatis/crop"
	"isatis/oracle"
)

// The oracle follows the chapter word by word, so that it shares no way of
// computing with the package. It is for valid fields.

func within(n int, r crop.Range) bool { return r.Lo <= n && n <= r.Hi }

// wetOf are the numbers that Wet can be in a truth.
func wetOf(f crop.Field, week int) crop.Range {
	if f.Wet[week] == 2 {
		return to(0, 1)
	}
	return to(f.Wet[week], f.Wet[week])
}

// anyTruths are those of the field without its looks.
func anyTruths(f crop.Field) []crop.Truth {
	truths := []crop.Truth{{}}
	for week := 0; week <= f.Last; week++ {
		var longer []crop.Truth
		for _, y := range truths {
			for growth := f.Growth[week].Lo; growth <= f.Growth[week].Hi; growth++ {
				for wet := wetOf(f, week).Lo; wet <= wetOf(f, week).Hi; wet++ {
					longer = append(longer, crop.Truth{Growth: append(slices.Clone(y.Growth), growth), Wet: append(slices.Clone(y.Wet), wet)})
				}
			}
		}
		truths = longer
	}
	return truths
}

// onField is the weight on the field: all Growth since the crop before.
func onField(y crop.Truth, plan []int, week int) int {
	weight := 0
	for w := week; w >= 0 && (w == week || !slices.Contains(plan, w)); w-- {
		weight += y.Growth[w]
	}
	return weight
}

func right(f crop.Field, l crop.Look, y crop.Truth) bool {
	return within(onField(y, f.Crops, l.Week), l.Weight)
}

func truthsOf(f crop.Field) (truths []crop.Truth) {
	for _, y := range anyTruths(f) {
		if !slices.ContainsFunc(f.Looks, func(l crop.Look) bool { return !right(f, l, y) }) {
			truths = append(truths, y)
		}
	}
	return truths
}

func isRight(f crop.Field) bool { return len(truthsOf(f)) > 0 }

func cropsOf(f crop.Field, y crop.Truth, plan []int) (crops []crop.Crop) {
	before := -1
	for i, week := range plan {
		c := crop.Crop{Weight: onField(y, plan, week), Strength: f.Base[i]}
		if y.Wet[week] == 1 {
			c.Weight -= c.Weight * f.Trod / 100
		}
		for age := week - before; age > f.Ripe && c.Strength > 0; age-- {
			c.Strength = max(c.Strength-f.Late, 0)
		}
		c.Worth = c.Weight * c.Strength
		crops = append(crops, c)
		before = week
	}
	return crops
}

func worthOf(f crop.Field, y crop.Truth, plan []int) int {
	worth := 0
	for _, c := range cropsOf(f, y, plan) {
		worth += c.Worth
	}
	return worth
}

// rangeOf is from the minimum to the maximum of some number of each truth.
func rangeOf(truths []crop.Truth, of func(crop.Truth) int) crop.Range {
	r := to(of(truths[0]), of(truths[0]))
	for _, y := range truths {
		r = to(min(r.Lo, of(y)), max(r.Hi, of(y)))
	}
	return r
}

// plansOf are all plans of the field, in lexicographic order.
func plansOf(f crop.Field) [][]int {
	plans := slices.DeleteFunc(oracle.ShortestFirst(f.Last+1), func(l []int) bool { return len(l) > len(f.Base) })
	slices.SortFunc(plans, slices.Compare[[]int])
	return plans
}

// without is the field with the looks alone that are not in the list.
func without(f crop.Field, list []int) crop.Field {
	f.Looks = oracle.Without(f.Looks, list)
	return f
}

// with is the field with one more look.
func with(f crop.Field, l crop.Look) crop.Field {
	f.Looks = append(slices.Clone(f.Looks), l)
	return f
}

// randomLook reports what is so in the truth, within some slack; sometimes it
// has nothing to do with it.
func randomLook(r *rand.Rand, f crop.Field, y crop.Truth) crop.Look {
	week := r.IntN(f.Last + 1)
	weight := onField(y, f.Crops, week)
	if r.IntN(4) == 0 {
		weight = r.IntN(60)
	}
	return crop.Look{Week: week, Weight: to(max(0, weight-r.IntN(2)), weight+r.IntN(2))}
}

func randomPlan(r *rand.Rand, f crop.Field) []int {
	plan := r.Perm(f.Last + 1)[:r.IntN(min(f.Last+1, len(f.Base))+1)]
	slices.Sort(plan)
	return plan
}

// randomField is a valid field of so many weeks, without looks, that has at
// most so many truths.
func randomField(r *rand.Rand, weeks, truths int) crop.Field {
	f := crop.Field{Last: weeks - 1, Ripe: 1 + r.IntN(4), Late: r.IntN(9), Trod: []int{0, 33, 50, 100, r.IntN(101)}[r.IntN(5)]}
	f.Growth, f.Wet = make([]crop.Range, weeks), make([]int, weeks)
	for _, week := range r.Perm(weeks) {
		low, more, wet := r.IntN(12), r.IntN(4), r.IntN(3)
		if truths < 1+more {
			more = 0
		}
		if truths /= 1 + more; truths < 2 {
			wet = r.IntN(2)
		}
		if wet == 2 {
			truths /= 2
		}
		f.Growth[week], f.Wet[week] = to(low, low+more), wet
	}
	strength := 5 + r.IntN(20)
	for range 1 + r.IntN(3) {
		f.Base = append(f.Base, strength)
		strength = max(0, strength-r.IntN(9))
	}
	f.Crops = randomPlan(r, f)
	return f
}

// randomFields yields small fields with at most so many looks, and with a
// number source for what else a test needs.
func randomFields(many, looks int) func(yield func(*rand.Rand, crop.Field) bool) {
	return func(yield func(*rand.Rand, crop.Field) bool) {
		r := rand.New(rand.NewPCG(2, uint64(many)))
		for range many {
			f := randomField(r, 1+r.IntN(6), 1+r.IntN(60))
			truths := anyTruths(f)
			y := truths[r.IntN(len(truths))]
			for range r.IntN(looks + 1) {
				f.Looks = append(f.Looks, randomLook(r, f, y))
			}
			if !yield(r, f) {
				return
			}
		}
	}
}

// bigFields are fields of ten weeks with many truths and one look.
func bigFields() (list []crop.Field) {
	r := rand.New(rand.NewPCG(2, 2))
	for len(list) < 6 {
		f := randomField(r, 10, 2000)
		if f = with(f, randomLook(r, f, anyTruths(f)[0])); isRight(f) {
			list = append(list, f)
		}
	}
	return list
}
