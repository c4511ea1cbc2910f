package weed

import "iter"

func all[T any](list []T, test func(T) bool) bool {
	for _, x := range list {
		if !test(x) {
			return false
		}
	}
	return true
}

// rises is stricter than slices.IsSorted: no number may come twice.
func rises(list []int) bool {
	for i := 1; i < len(list); i++ {
		if list[i] <= list[i-1] {
			return false
		}
	}
	return true
}

// least has a first number apart, so that there is always a minimum.
func least(first int, more ...int) int {
	for _, n := range more {
		first = min(first, n)
	}
	return first
}

// search looks for a list of numbers below size that is what it must be.
type search[T any] struct {
	of   T
	size int
	must func(T, []int) bool
}

// shortest tries increasing lists in an order in which the first one found is
// the shortest, and of these the one that is lexicographically first.
func (s search[T]) shortest() []int {
	var found []int
looking:
	for length := range s.size + 1 {
		for list := range increasing(s.size, length) {
			if s.must(s.of, list) {
				found = append(found, list...)
				break looking
			}
		}
	}
	return found
}

// increasing yields the increasing lists of so many numbers below size, in
// lexicographic order. A list is valid until the next one is yielded.
func increasing(size, length int) iter.Seq[[]int] {
	return func(yield func([]int) bool) {
		list := make([]int, length)
		var choose func(at, from int) bool
		choose = func(at, from int) bool {
			if at == length {
				return yield(list)
			}
			for n := from; n < size; n++ {
				list[at] = n
				if !choose(at+1, n+1) {
					return false
				}
			}
			return true
		}
		choose(0, 0)
	}
}
