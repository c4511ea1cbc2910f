// Package oracle has what the oracles of several layers' tests share. The program
// does not use it.
package oracle

import "slices"

// ShortestFirst has all increasing lists of numbers below size: shorter ones are
// before longer ones, and those of a length are in lexicographic order. It sorts
// them, so that it shares no way of computing with package lists.
func ShortestFirst(size int) [][]int {
	var list [][]int
	for mask := range 1 << size {
		l := []int{}
		for n := range size {
			if mask>>n&1 == 1 {
				l = append(l, n)
			}
		}
		list = append(list, l)
	}
	slices.SortFunc(list, func(a, b []int) int {
		if len(a) != len(b) {
			return len(a) - len(b)
		}
		return slices.Compare(a, b)
	})
	return list
}
