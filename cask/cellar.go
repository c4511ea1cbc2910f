package cask

import (
	"slices"

	"isatis/api"
	"isatis/lists"
)

func (r Range) holds(n int) bool { return r.Lo <= n && n <= r.Hi }

// span is for at least one number.
func span(numbers []int) Range {
	return Range{Lo: lists.Least(numbers[0], numbers[1:]...), Hi: slices.Max(numbers)}
}

func (r Range) isStrength() bool {
	return 0 <= r.Lo && r.Lo <= r.Hi && r.Hi <= api.MaxCaskStrength
}

func isGrade(grade int) bool { return Range{Hi: api.MaxCaskStrength}.holds(grade) }

func isBlendWeight(weight int) bool { return Range{Lo: 1, Hi: api.MaxCaskSum}.holds(weight) }

func isWeight(weight int) bool { return Range{Hi: api.MaxCaskWeight}.holds(weight) }

// isStock reports whether the list has one weight for each heap.
func (c Cellar) isStock(list []int) bool {
	return len(list) == len(c.Heaps) && lists.All(list, isWeight)
}

func (c Cellar) validCask(weights []int) bool {
	return c.isStock(weights) && slices.ContainsFunc(weights, func(weight int) bool { return weight > 0 })
}

func (c Cellar) hasCask(number int) bool { return 0 <= number && number < len(c.Casks) }

func (c Cellar) hasHeap(number int) bool { return 0 <= number && number < len(c.Heaps) }

func (c Cellar) validTrial(t Trial) bool {
	has := c.hasHeap(t.Number)
	if t.Cask {
		has = c.hasCask(t.Number)
	}
	return has && t.Strength.isStrength()
}

// valid leaves the limits to CheckCellar, as they are another error.
func (c Cellar) valid() bool {
	return len(c.Heaps) > 0 && lists.All(c.Heaps, Range.isStrength) &&
		lists.All(c.Casks, c.validCask) && lists.All(c.Trials, c.validTrial)
}

func (c Cellar) hasTooManyParts() bool {
	return len(c.Heaps) > api.MaxCaskHeaps || len(c.Casks) > api.MaxCaskCasks || len(c.Trials) > api.MaxCaskTrials
}

// hasTooManyTruths is for valid cellars only, whose ranges are small.
func (c Cellar) hasTooManyTruths() bool {
	many := 1
	for _, r := range c.Heaps {
		many *= r.Hi - r.Lo + 1
	}
	return many > api.MaxCaskTruths
}

// things is how many heaps and casks there are.
func (c Cellar) things() int { return len(c.Heaps) + len(c.Casks) }

func (c Cellar) hasThing(thing int) bool { return 0 <= thing && thing < c.things() }
