// Package oracle has what the oracles of several layers' tests share. The program
// does not use it.
package oracle

import "slices"

// ShortestFirst has all increasing lists of numbers below size: shorter ones are
// before longer ones, and those of a length are in lexicographic order. It sorts
// them, so that it shares no way of computing with package lists.
func ShortestFirst(size int) [][]int {
	var list [][]int
	for mask := range 1 << size {
		l := []int{}
		for n := range size {
			if mask>>n&1 == 1 {
				l = append(l, n)
			}
		}
		list = append(list, l)
	}
	slices.SortFunc(list, func(a, b []int) int {
		if len(a) != len(b) {
			return len(a) - len(b)
		}
		return slices.Compare(a, b)
	})
	return list
}

// OneOfEach has all lists of one number from each range, in lexicographic order.
// It makes longer lists from shorter ones, without a closure as package lists has.
func OneOfEach[R ~struct{ Lo, Hi int }](ranges ...R) [][]int {
	list := [][]int{{}}
	for _, r := range ranges {
		ends := struct{ Lo, Hi int }(r)
		var longer [][]int
		for _, l := range list {
			for n := ends.Lo; n <= ends.Hi; n++ {
				longer = append(longer, append(slices.Clone(l), n))
			}
		}
		list = longer
	}
	return list
}

// Without has what is left of the list if the elements at these places are left
// out.
func Without[T any](list []T, places []int) []T {
	var kept []T
	for i, x := range list {
		if !slices.Contains(places, i) {
			kept = append(kept, x)
		}
	}
	return kept
}

func Sum(list []int) (sum int) {
	for _, n := range list {
		sum += n
	}
	return sum
}
