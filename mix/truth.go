package mix

import (
	"cmp"
	"iter"

	"isatis/api"
	"isatis/cask"
	"isatis/cellar"
)

// filled is the strength of the cask that was filled so. It has an error if the
// list has not one number of each heap.
func (c Case) filled(heaps []int) (int, api.Errno) {
	casks, e := cask.Play(c.Cellar, heaps)
	if e != api.OK {
		return 0, e
	}
	return casks[c.Sold], api.OK
}

// fills yields the truths of the cellar, in lexicographic order, each with the
// strength of the cask that was filled so. A list is valid until the next one is
// yielded.
func (c Case) fills() iter.Seq2[[]int, int] {
	return func(yield func([]int, int) bool) {
		for heaps, casks := range cellar.Truths(c.Cellar) {
			if !yield(heaps, casks[c.Sold]) {
				return
			}
		}
	}
}

// pour is a fill's strength with a share.
type pour struct{ fill, share int }

// sale stands for all truths whose fills have the same strength, as tests cannot
// tell them apart.
type sale struct {
	pour
	bad int
}

func (s sale) mixture() Mixture { return Mixture{Share: s.share, Bad: s.bad} }

func (m Mixture) compare(other Mixture) int {
	return cmp.Or(cmp.Compare(m.Share, other.Share), cmp.Compare(m.Bad, other.Bad))
}

// sales yields them without regard to tests, each of them once.
func (c Case) sales() iter.Seq[sale] {
	return func(yield func(sale) bool) {
		known := map[pour]bool{}
		for _, fill := range c.fills() {
			for share := range c.Most + 1 {
				p := pour{fill: fill, share: share}
				if !known[p] && !c.pours(p, yield) {
					return
				}
				known[p] = true
			}
		}
	}
}

// pours yields the sales with each kind of bad woad, and reports whether more are
// asked for.
func (c Case) pours(p pour, yield func(sale) bool) bool {
	for bad := c.Bad.Lo; bad <= c.Bad.Hi; bad++ {
		if !yield(sale{pour: p, bad: bad}) {
			return false
		}
	}
	return true
}

func (c Case) shareOf(s sale) int { return s.share }

func (c Case) strengthOf(s sale) int {
	weight := c.weight()
	return (s.fill*(weight-s.share) + s.bad*s.share) / weight
}

// faults has for each test whether it is not right: never for tests that the case
// does not have.
type faults [api.MaxMixTests]bool

func (c Case) faults(strength int) (f faults) {
	for n, test := range c.Tests {
		f[n] = !test.holds(strength)
	}
	return f
}

func (f faults) without(tests []int) faults {
	for _, n := range tests {
		f[n] = false
	}
	return f
}

// passes reports whether all tests but those that are left out are right.
func (c Case) passes(strength int, left ...int) bool {
	return c.faults(strength).without(left) == faults{}
}
