// Package cellar has what layers share that ask a cellar (layer 5) for its truths.
package cellar

import (
	"iter"

	"isatis/api"
	"isatis/cask"
	"isatis/lists"
)

// Truths yields those of a valid cellar, in lexicographic order, each with the
// strength of each cask. A list of heaps is valid until the next one is yielded.
func Truths(c cask.Cellar) iter.Seq2[[]int, []int] {
	return func(yield func([]int, []int) bool) {
		var parts [][]int
		for _, r := range c.Heaps {
			parts = append(parts, lists.FromTo(r.Lo, r.Hi))
		}
		for heaps := range lists.Choices(parts) {
			casks, e := cask.Play(c, heaps)
			if e == api.OK && cask.ProveTruth(c, heaps) && !yield(heaps, casks) {
				return
			}
		}
	}
}
