package cask

import (
	"iter"

	"isatis/lists"
)

// isGood reports whether weights, which are more than 0 together, are of the
// grade always.
func (g grading) isGood(weights []int) bool {
	return lists.All(g.truths, func(own truth) bool { return own.strength(weights) >= g.grade })
}

// fillings yields the lists with one number for each heap, up to that of the
// stock, whose sum is the weight, in lexicographic order. A list is valid until
// the next one is yielded.
func fillings(stock []int, weight int) iter.Seq[[]int] {
	return func(yield func([]int) bool) {
		list := make([]int, len(stock))
		var choose func(heap, rest int) bool
		choose = func(heap, rest int) bool {
			if heap == len(stock) {
				return rest > 0 || yield(list)
			}
			for n := range min(stock[heap], rest) + 1 {
				list[heap] = n
				if !choose(heap+1, rest-n) {
					return false
				}
			}
			return true
		}
		choose(0, weight)
	}
}

// isFilling reports whether fillings yields the list.
func isFilling(stock []int, weight int, list []int) bool {
	if len(list) != len(stock) {
		return false
	}
	for heap, n := range list {
		if n < 0 || n > stock[heap] {
			return false
		}
		weight -= n
	}
	return weight == 0
}
