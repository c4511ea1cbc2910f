// Package lists has what all layers do with lists: it tests them, chooses them,
// and looks for the shortest increasing one.
package lists

import (
	"iter"
	"slices"
)

// All reports whether each element passes the test.
func All[T any](list []T, test func(T) bool) bool {
	for _, x := range list {
		if !test(x) {
			return false
		}
	}
	return true
}

// Rises is stricter than slices.IsSorted: no number may come twice.
func Rises(list []int) bool {
	for i := 1; i < len(list); i++ {
		if list[i] <= list[i-1] {
			return false
		}
	}
	return true
}

// Least has a first number apart, so that there is always a minimum.
func Least(first int, more ...int) int {
	for _, n := range more {
		first = min(first, n)
	}
	return first
}

func Sum(list []int) int {
	all := 0
	for _, n := range list {
		all += n
	}
	return all
}

// Without has what is left of the list if the elements at these places are left
// out.
func Without[T any](list []T, places []int) []T {
	var rest []T
	for i, x := range list {
		if !slices.Contains(places, i) {
			rest = append(rest, x)
		}
	}
	return rest
}

// Search looks for a list of numbers below Size that is what it must be. Must
// may not keep a list that it is given.
type Search[T any] struct {
	Of   T
	Size int
	Must func(T, []int) bool
}

// Shortest tries increasing lists in an order in which the first one found is
// the shortest, and of these the one that is lexicographically first. It returns
// an empty one if no list is what it must be.
func (s Search[T]) Shortest() []int {
	var found []int
looking:
	for length := range s.Size + 1 {
		for list := range Increasing(s.Size, length) {
			if s.Must(s.Of, list) {
				found = append(found, list...)
				break looking
			}
		}
	}
	return found
}

// Increasing yields the increasing lists of so many numbers below size, in
// lexicographic order. A list is valid until the next one is yielded.
func Increasing(size, length int) iter.Seq[[]int] {
	return func(yield func([]int) bool) {
		list := make([]int, length)
		var choose func(at, from int) bool
		choose = func(at, from int) bool {
			if at == length {
				return yield(list)
			}
			for n := from; n < size; n++ {
				list[at] = n
				if !choose(at+1, n+1) {
					return false
				}
			}
			return true
		}
		choose(0, 0)
	}
}

// FromTo is empty if low is above high.
func FromTo(low, high int) []int {
	var list []int
	for n := low; n <= high; n++ {
		list = append(list, n)
	}
	return list
}

// Choices yields the lists with one element of each part, in lexicographic
// order of the places that the elements have in their parts. A list is valid
// until the next one is yielded.
func Choices[T any](parts [][]T) iter.Seq[[]T] {
	return func(yield func([]T) bool) {
		list := make([]T, len(parts))
		var choose func(at int) bool
		choose = func(at int) bool {
			if at == len(parts) {
				return yield(list)
			}
			for _, x := range parts[at] {
				list[at] = x
				if !choose(at + 1) {
					return false
				}
			}
			return true
		}
		choose(0)
	}
}
