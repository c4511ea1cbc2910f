package mix_test

import (
	"math/rand/v2"
	"slices"

	"isatis/api"
	"isatis/cask"
	"isatis/mix"
	"isatis/oracle"
)

// The oracle follows the chapter word by word, so that it shares no way of
// computing with the package. It is for valid cases.

func isIn(n int, r mix.Range) bool { return r.Lo <= n && n <= r.Hi }

// fills are lists of one number for each heap, in lexicographic order.
func fills(c mix.Case) [][]int { return oracle.OneOfEach(c.Cellar.Heaps...) }

// anyTruths are those without regard to tests, in the order of their heaps, their
// share and their bad woad.
func anyTruths(c mix.Case) (truths []mix.Truth) {
	for _, heaps := range oracle.TruthsOf(c.Cellar) {
		for share := 0; share <= c.Most; share++ {
			for bad := c.Bad.Lo; bad <= c.Bad.Hi; bad++ {
				truths = append(truths, mix.Truth{Heaps: heaps, Share: share, Bad: bad})
			}
		}
	}
	return truths
}

func strengthOf(c mix.Case, y mix.Truth) int {
	weights := c.Cellar.Casks[c.Sold]
	rest := oracle.Sum(weights) - y.Share
	return oracle.Down(oracle.StrengthOf(weights, y.Heaps)*rest+y.Bad*y.Share, oracle.Sum(weights))
}

func isTruth(c mix.Case, y mix.Truth) bool {
	return !slices.ContainsFunc(c.Tests, func(r mix.Range) bool { return !isIn(strengthOf(c, y), r) })
}

func truthsOf(c mix.Case) (truths []mix.Truth) {
	for _, y := range anyTruths(c) {
		if isTruth(c, y) {
			truths = append(truths, y)
		}
	}
	return truths
}

// hasTruth is quicker than truthsOf, where many are not needed.
func hasTruth(c mix.Case) bool {
	return slices.ContainsFunc(anyTruths(c), func(y mix.Truth) bool { return isTruth(c, y) })
}

// errorOf is that of Mixed, Bounds and Mixtures.
func errorOf(c mix.Case) api.Errno {
	switch {
	case len(anyTruths(c)) == 0:
		return api.ErrFalse
	case len(truthsOf(c)) == 0:
		return api.ErrFail
	}
	return api.OK
}

func mixedOf(c mix.Case) int {
	mixed, all := 0, truthsOf(c)
	for _, y := range all {
		if y.Share > 0 {
			mixed++
		}
	}
	switch mixed {
	case len(all):
		return mix.Always
	case 0:
		return mix.Never
	}
	return mix.Perhaps
}

func boundsOf(c mix.Case) (share, strength mix.Range) {
	share, strength = to(99, -1), to(101, -1)
	for _, y := range truthsOf(c) {
		share = to(min(share.Lo, y.Share), max(share.Hi, y.Share))
		n := strengthOf(c, y)
		strength = to(min(strength.Lo, n), max(strength.Hi, n))
	}
	return share, strength
}

// mixturesOf asks of each mixture whether some truth has it.
func mixturesOf(c mix.Case) (list []mix.Mixture) {
	truths := truthsOf(c)
	for share := 0; share <= c.Most; share++ {
		for bad := c.Bad.Lo; bad <= c.Bad.Hi; bad++ {
			if slices.ContainsFunc(truths, func(y mix.Truth) bool { return y.Share == share && y.Bad == bad }) {
				list = append(list, mix.Mixture{Share: share, Bad: bad})
			}
		}
	}
	return list
}

func innocentOf(c mix.Case) ([]int, api.Errno) {
	for _, y := range truthsOf(c) {
		if y.Share == 0 {
			return y.Heaps, api.OK
		}
	}
	return nil, api.ErrNone
}

// only is the case with the first tests alone.
func only(c mix.Case, tests int) mix.Case {
	c.Tests = c.Tests[:tests]
	return c
}

func firstOf(c mix.Case) (int, api.Errno) {
	for n := range c.Tests {
		if !hasTruth(only(c, n+1)) {
			return n, api.OK
		}
	}
	return 0, api.ErrNone
}

// without is the case with the tests that are left if these are left out.
func without(c mix.Case, tests []int) mix.Case {
	c.Tests = oracle.Without(c.Tests, tests)
	return c
}

func leaveOf(c mix.Case) []int {
	all := oracle.ShortestFirst(len(c.Tests))
	return all[slices.IndexFunc(all, func(tests []int) bool { return hasTruth(without(c, tests)) })]
}

// with is the case with one more test.
func with(c mix.Case, r mix.Range) mix.Case {
	c.Tests = append(slices.Clone(c.Tests), r)
	return c
}

// tried is the case with one more trial in its cellar.
func tried(c mix.Case, x cask.Trial) mix.Case {
	c.Cellar.Trials = append(slices.Clone(c.Cellar.Trials), x)
	return c
}

func limited(n int) int { return min(100, max(0, n)) }

// around is a range within the strengths that has the number, or just misses it.
func around(r *rand.Rand, n int) mix.Range {
	low := limited(n - r.IntN(3))
	if r.IntN(4) == 0 {
		low = limited(n + 1 + r.IntN(4))
	}
	return to(low, limited(low+r.IntN(5)))
}

// randomTest mostly allows what is so in the truth.
func randomTest(r *rand.Rand, c mix.Case, y mix.Truth) mix.Range {
	return around(r, strengthOf(c, y))
}

// randomTrial mostly allows what is so in the fill.
func randomTrial(r *rand.Rand, c mix.Case, heaps []int) cask.Trial {
	if r.IntN(2) == 0 {
		number := r.IntN(len(heaps))
		return cask.Trial{Number: number, Strength: cask.Range(around(r, heaps[number]))}
	}
	number := r.IntN(len(c.Cellar.Casks))
	return cask.Trial{Cask: true, Number: number, Strength: cask.Range(around(r, oracle.StrengthOf(c.Cellar.Casks[number], heaps)))}
}

// randomWeights are mostly small, so that a share changes much.
func randomWeights(r *rand.Rand, many int) []int {
	weights := make([]int, many)
	for heap := range weights {
		weights[heap] = []int{0, r.IntN(4), r.IntN(9), r.IntN(31)}[r.IntN(4)]
	}
	if oracle.Sum(weights) == 0 {
		weights[r.IntN(many)] = 1 + r.IntN(9)
	}
	return weights
}

// randomCase has no tests and no trials, and at most so many truths.
func randomCase(r *rand.Rand, truths int) mix.Case {
	var c mix.Case
	middle := []int{0, r.IntN(101), 30 + r.IntN(40), 100}[r.IntN(4)]
	heaps := 1 + r.IntN(3)
	for range 1 + r.IntN(3) {
		c.Cellar.Casks = append(c.Cellar.Casks, randomWeights(r, heaps))
	}
	c.Sold = r.IntN(len(c.Cellar.Casks))
	c.Most = min(oracle.Sum(c.Cellar.Casks[c.Sold]), r.IntN(min(9, truths)))
	truths /= c.Most + 1
	for range heaps {
		low, more := limited(middle+r.IntN(21)-10), r.IntN(min(truths, 6))
		c.Cellar.Heaps = append(c.Cellar.Heaps, cask.Range{Lo: low, Hi: limited(low + more)})
		truths /= more + 1
	}
	bad := []int{0, limited(middle - 10 - r.IntN(20)), r.IntN(101)}[r.IntN(3)]
	c.Bad = to(bad, limited(bad+r.IntN(min(truths, 5))))
	return c
}

// randomCases yields small cases with at most so many tests, and with a number
// source for what else a test needs. A few of the cellars have no truth.
func randomCases(many, tests int) func(yield func(*rand.Rand, mix.Case) bool) {
	return func(yield func(*rand.Rand, mix.Case) bool) {
		r := rand.New(rand.NewPCG(8, uint64(many)))
		for range many {
			c := randomCase(r, 1+r.IntN(200))
			truths := anyTruths(c)
			y := truths[r.IntN(len(truths))]
			if r.IntN(3) == 0 {
				y.Share = 0
			}
			for range r.IntN(3) {
				c = tried(c, randomTrial(r, c, y.Heaps))
			}
			for range r.IntN(tests + 1) {
				c = with(c, randomTest(r, c, y))
			}
			if !yield(r, c) {
				return
			}
		}
	}
}

// bigCases have many truths, three heaps or one, and a test.
func bigCases() []mix.Case {
	three := mix.Case{
		Cellar: cask.Cellar{
			Heaps: []cask.Range{{Lo: 30, Hi: 33}, {Lo: 55, Hi: 59}, {Lo: 80, Hi: 84}},
			Casks: [][]int{{1, 2, 3}, {9, 0, 4}, {30, 30, 30}},
		},
		Sold: 2, Most: 3, Bad: to(10, 14), Tests: []mix.Range{to(50, 54)},
	}
	one := mix.Case{
		Cellar: cask.Cellar{Heaps: []cask.Range{{Lo: 0, Hi: 100}}, Casks: [][]int{{18}}},
		Most:   18, Bad: to(0, 0), Tests: []mix.Range{to(40, 60)},
	}
	bad := one
	bad.Cellar.Heaps, bad.Bad = []cask.Range{{Lo: 77, Hi: 77}}, to(0, 100)
	return []mix.Case{three, one, bad}
}
