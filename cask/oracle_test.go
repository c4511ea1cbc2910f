package cask_test

import (
	"math/rand/v2"
	"slices"

	"isatis/cask"
	"isatis/oracle"
)

// The oracle follows the chapter word by word, so that it shares no way of
// computing with the package. It is for valid cellars.

// anyTruths are those of the cellar without its trials.
func anyTruths(c cask.Cellar) [][]int { return oracle.OneOfEach(c.Heaps...) }

// thingOf is the strength of a thing: a heap, or else a cask.
func thingOf(c cask.Cellar, thing int, y []int) int {
	if thing < len(c.Heaps) {
		return y[thing]
	}
	return oracle.StrengthOf(c.Casks[thing-len(c.Heaps)], y)
}

func isRight(c cask.Cellar) bool { return len(oracle.TruthsOf(c)) > 0 }

// boundsOf are those of all things.
func boundsOf(c cask.Cellar) (bounds []cask.Range) {
	for thing := range len(c.Heaps) + len(c.Casks) {
		r := to(101, -1)
		for _, y := range oracle.TruthsOf(c) {
			n := thingOf(c, thing, y)
			r = to(min(r.Lo, n), max(r.Hi, n))
		}
		bounds = append(bounds, r)
	}
	return bounds
}

func gradedOf(c cask.Cellar, number, grade int) int {
	of, all := 0, oracle.TruthsOf(c)
	for _, y := range all {
		if oracle.StrengthOf(c.Casks[number], y) >= grade {
			of++
		}
	}
	switch of {
	case len(all):
		return cask.Always
	case 0:
		return cask.Never
	}
	return cask.Perhaps
}

// allThings are the strengths of all things, in each truth.
func allThings(c cask.Cellar) (all [][]int) {
	for _, y := range oracle.TruthsOf(c) {
		var l []int
		for thing := range len(c.Heaps) + len(c.Casks) {
			l = append(l, thingOf(c, thing, y))
		}
		all = append(all, l)
	}
	return all
}

// decides compares any two truths.
func decides(c cask.Cellar, grade int, things []int) bool {
	all := allThings(c)
	for _, a := range all {
		for _, b := range all {
			same := !slices.ContainsFunc(things, func(thing int) bool { return a[thing] != b[thing] })
			for k := len(c.Heaps); same && k < len(a); k++ {
				if (a[k] >= grade) != (b[k] >= grade) {
					return false
				}
			}
		}
	}
	return true
}

func fewestOf(c cask.Cellar, grade int) []int {
	all := oracle.ShortestFirst(len(c.Heaps) + len(c.Casks))
	return all[slices.IndexFunc(all, func(things []int) bool { return decides(c, grade, things) })]
}

// upTo are all lists of one number for each of the stock, in lexicographic
// order.
func upTo(stock []int) [][]int {
	var ranges []cask.Range
	for _, most := range stock {
		ranges = append(ranges, cask.Range{Hi: most})
	}
	return oracle.OneOfEach(ranges...)
}

// isBlend is for lists that are up to the stock.
func isBlend(c cask.Cellar, weight, grade int, weights []int) bool {
	return oracle.Sum(weights) == weight && !slices.ContainsFunc(oracle.TruthsOf(c), func(y []int) bool { return oracle.StrengthOf(weights, y) < grade })
}

// blendOf is the best blend, and whether there is any.
func blendOf(c cask.Cellar, stock []int, weight, grade int) ([]int, bool) {
	for _, l := range upTo(stock) {
		if isBlend(c, weight, grade, l) {
			return l, true
		}
	}
	return nil, false
}

// without is the cellar with the trials alone that are not in the list.
func without(c cask.Cellar, list []int) cask.Cellar {
	c.Trials = oracle.Without(c.Trials, list)
	return c
}

// with is the cellar with one more trial.
func with(c cask.Cellar, x cask.Trial) cask.Cellar {
	c.Trials = append(slices.Clone(c.Trials), x)
	return c
}

// trialOf is a trial of a thing.
func trialOf(c cask.Cellar, thing int, strength cask.Range) cask.Trial {
	if thing < len(c.Heaps) {
		return cask.Trial{Number: thing, Strength: strength}
	}
	return cask.Trial{Cask: true, Number: thing - len(c.Heaps), Strength: strength}
}

// randomTrial shows what is so in the truth, within some slack; sometimes it
// has nothing to do with it.
func randomTrial(r *rand.Rand, c cask.Cellar, y []int) cask.Trial {
	thing := r.IntN(len(c.Heaps) + len(c.Casks))
	n := thingOf(c, thing, y)
	if r.IntN(4) == 0 {
		n = min(100, max(0, n+r.IntN(9)-4))
	}
	return trialOf(c, thing, to(max(0, n-r.IntN(2)), min(100, n+r.IntN(3))))
}

func randomWeights(r *rand.Rand, many int) []int {
	weights := make([]int, many)
	for heap := range weights {
		weights[heap] = []int{0, r.IntN(4), r.IntN(31)}[r.IntN(3)]
	}
	if slices.Max(weights) == 0 {
		weights[r.IntN(many)] = 1 + r.IntN(30)
	}
	return weights
}

// randomCellar is a valid cellar of so many heaps and casks, without trials,
// that has at most so many truths.
func randomCellar(r *rand.Rand, heaps, casks, truths int) cask.Cellar {
	c := cask.Cellar{Heaps: make([]cask.Range, heaps)}
	middle := r.IntN(101)
	for _, heap := range r.Perm(heaps) {
		low, more := min(100, max(0, middle+r.IntN(21)-10)), r.IntN(min(truths, 15))
		c.Heaps[heap] = to(low, min(100, low+more))
		truths /= 1 + more
	}
	for range casks {
		c.Casks = append(c.Casks, randomWeights(r, heaps))
	}
	return c
}

// randomGrade is mostly one that some cask can have, or one more.
func randomGrade(r *rand.Rand, c cask.Cellar) int {
	truths := oracle.TruthsOf(c)
	if len(c.Casks) == 0 || len(truths) == 0 || r.IntN(6) == 0 {
		return r.IntN(101)
	}
	return min(100, oracle.StrengthOf(c.Casks[r.IntN(len(c.Casks))], truths[r.IntN(len(truths))])+r.IntN(2))
}

// randomCellars yields small cellars with at most so many trials, and with a
// number source for what else a test needs.
func randomCellars(many, trials int) func(yield func(*rand.Rand, cask.Cellar) bool) {
	return func(yield func(*rand.Rand, cask.Cellar) bool) {
		r := rand.New(rand.NewPCG(5, uint64(many)))
		for range many {
			c := randomCellar(r, 1+r.IntN(3), r.IntN(4), 1+r.IntN(60))
			truths := anyTruths(c)
			y := truths[r.IntN(len(truths))]
			for range r.IntN(trials + 1) {
				c.Trials = append(c.Trials, randomTrial(r, c, y))
			}
			if !yield(r, c) {
				return
			}
		}
	}
}

// bigCellars have three heaps and casks, many truths and one trial.
func bigCellars() (list []cask.Cellar) {
	r := rand.New(rand.NewPCG(5, 5))
	for len(list) < 6 {
		c := randomCellar(r, 3, 3, 2000)
		if c = with(c, randomTrial(r, c, anyTruths(c)[0])); isRight(c) && len(anyTruths(c)) > 300 {
			list = append(list, c)
		}
	}
	return list
}
