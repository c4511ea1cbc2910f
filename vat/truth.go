package vat

import (
	"iter"
	"slices"

	"isatis/api"
	"isatis/lists"
)

// isTruth reports whether the truth chooses from the vat's ranges; looks are not
// asked.
func (v Vat) isTruth(t Truth) bool {
	if !v.Start.holds(t.Start) || !v.Blue.holds(t.Blue) || len(t.Drift) != len(v.Drift) {
		return false
	}
	for day, r := range v.Drift {
		if !r.holds(t.Drift[day]) {
			return false
		}
	}
	return true
}

// hasTruth reports whether the truth is one of the vat, which is valid.
func (v Vat) hasTruth(t Truth) bool { return v.isTruth(t) && v.play(t).showAll(v.Looks) }

// allTruths yields truths without regard to looks. Each is in memory of its own.
func (v Vat) allTruths() iter.Seq[Truth] {
	return func(yield func(Truth) bool) {
		var parts [][]int
		for _, r := range v.ranges() {
			parts = append(parts, lists.FromTo(r.Lo, r.Hi))
		}
		last := len(parts) - 1
		for numbers := range lists.Choices(parts) {
			if !yield(Truth{Start: numbers[0], Blue: numbers[last], Drift: slices.Clone(numbers[1:last])}) {
				return
			}
		}
	}
}

// days have a number for each day. In days that the vat does not have it is 0,
// so that they are equal if they are so in all days of the vat.
type days [api.MaxVatLast + 1]int

// course is what becomes of the vat in a truth.
type course struct{ balances, blues days }

func (c course) shows(l Look) bool {
	number := c.blues[l.Day]
	if l.Balance {
		number = c.balances[l.Day]
	}
	return l.Number.holds(number)
}

func (c course) showAll(looks []Look) bool { return lists.All(looks, c.shows) }

// play is for truths that are chosen from the vat's ranges.
func (v Vat) play(t Truth) (c course) {
	balance, blue := t.Start, t.Blue
	for day, f := range v.Feeds {
		balance += f.Lime - f.Bran + t.Drift[day]
		blue += f.Madder * v.Gain
		for range v.Dips[day] {
			blue = v.dip(blue)
		}
		c.balances[day], c.blues[day] = balance, blue
	}
	return c
}

// dip is what a dip leaves of the blue.
func (v Vat) dip(blue int) int { return max(0, blue-v.Take) }

const (
	perShade     = 10 // how much blue makes a shade in a vat that is in order
	perWeakShade = 20 // how much in one that is not
)

// bath is what a dip is made in.
type bath struct {
	blue    int
	inOrder bool
}

// bath is what further dips on the day are made in.
func (v Vat) bath(c course, day int) bath {
	return bath{blue: c.blues[day], inOrder: v.inOrder(c.balances[day])}
}

func (b bath) shade() int {
	if b.inOrder {
		return b.blue / perShade
	}
	return b.blue / perWeakShade
}
