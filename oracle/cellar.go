package oracle

import (
	"slices"

	"isatis/cask"
)

// Down divides, rounded down, by adding as long as there is enough.
func Down(sum, parts int) int {
	n := 0
	for (n+1)*parts <= sum {
		n++
	}
	return n
}

// StrengthOf is that of weights, which are more than 0 together, with these
// strengths of the heaps. It takes the parts one by one.
func StrengthOf(weights, heaps []int) int {
	sum, parts := 0, 0
	for heap, weight := range weights {
		for range weight {
			sum += heaps[heap]
			parts++
		}
	}
	return Down(sum, parts)
}

func isRight(c cask.Cellar, x cask.Trial, heaps []int) bool {
	var n int
	if x.Cask {
		n = StrengthOf(c.Casks[x.Number], heaps)
	} else {
		n = heaps[x.Number]
	}
	return x.Strength.Lo <= n && n <= x.Strength.Hi
}

// AllRight reports whether all trials of a valid cellar are right, with these
// strengths of the heaps.
func AllRight(c cask.Cellar, heaps []int) bool {
	return !slices.ContainsFunc(c.Trials, func(x cask.Trial) bool { return !isRight(c, x, heaps) })
}

// TruthsOf are those of a valid cellar, in lexicographic order.
func TruthsOf(c cask.Cellar) (truths [][]int) {
	for _, heaps := range OneOfEach(c.Heaps...) {
		if AllRight(c, heaps) {
			truths = append(truths, heaps)
		}
	}
	return truths
}
