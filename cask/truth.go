package cask

import (
	"iter"

	"isatis/api"
	"isatis/lists"
)

// truth has the strengths of all heaps. Those of heaps that the cellar does not
// have are 0, so that truths of one cellar are equal if they are so in all of
// its heaps.
type truth [api.MaxCaskHeaps]int

// strength is that of weights, which are more than 0 together.
func (own truth) strength(weights []int) int {
	sum, total := 0, 0
	for heap, weight := range weights {
		sum += weight * own[heap]
		total += weight
	}
	return sum / total
}

// isTruth reports whether the list chooses from the heaps' ranges; trials are
// not asked.
func (c Cellar) isTruth(list []int) bool {
	if len(list) != len(c.Heaps) {
		return false
	}
	for heap, r := range c.Heaps {
		if !r.holds(list[heap]) {
			return false
		}
	}
	return true
}

// truthOf is for a list that isTruth.
func truthOf(list []int) (own truth) {
	copy(own[:], list)
	return own
}

// allTruths yields truths without regard to trials, in lexicographic order.
func (c Cellar) allTruths() iter.Seq[truth] {
	return func(yield func(truth) bool) {
		var own, last truth
		for heap, r := range c.Heaps {
			own[heap], last[heap] = r.Lo, r.Hi
		}
		for yield(own) && own != last {
			own = c.next(own)
		}
	}
}

// next is for all truths but the last one.
func (c Cellar) next(own truth) truth {
	heap := len(c.Heaps) - 1
	for own[heap] == c.Heaps[heap].Hi {
		own[heap] = c.Heaps[heap].Lo
		heap--
	}
	own[heap]++
	return own
}

// source is a heap or a cask; of tells the strength that the one with the
// number has in a truth.
type source struct {
	number int
	of     func(Cellar, truth, int) int
}

func (c Cellar) ofHeap(own truth, number int) int { return own[number] }

func (c Cellar) ofCask(own truth, number int) int { return own.strength(c.Casks[number]) }

func heapSource(number int) source { return source{number: number, of: Cellar.ofHeap} }

func caskSource(number int) source { return source{number: number, of: Cellar.ofCask} }

func (t Trial) source() source {
	if t.Cask {
		return caskSource(t.Number)
	}
	return heapSource(t.Number)
}

// source is what the thing is.
func (c Cellar) source(thing int) source {
	if c.hasHeap(thing) {
		return heapSource(thing)
	}
	return caskSource(thing - len(c.Heaps))
}

func (c Cellar) strength(own truth, s source) int { return s.of(c, own, s.number) }

// allRight reports whether these trials are all right in this truth.
func (c Cellar) allRight(own truth, trials []Trial) bool {
	return lists.All(trials, func(t Trial) bool { return t.Strength.holds(c.strength(own, t.source())) })
}
