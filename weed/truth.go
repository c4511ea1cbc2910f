package weed

import (
	"iter"

	"isatis/api"
)

// What a sheet says of a row besides the number of a weeder.
const (
	left    = -1
	unasked = -2
)

// sheet has what is said of each row. Rows that the field does not have stay
// unasked, so that sheets of one field are equal if they say the same.
type sheet [api.MaxWeedRows]int

func blank() (s sheet) {
	for row := range s {
		s[row] = unasked
	}
	return s
}

func (s sheet) kept(rows []int) sheet {
	k := blank()
	for _, row := range rows {
		k[row] = s[row]
	}
	return k
}

// stretch is what a tally reports of, without what it reports: several tallies
// can report of the same.
type stretch struct{ weeder, from, to int }

func (t Tally) stretch() stretch { return stretch{t.Weeder, t.From, t.To} }

func (f Field) whole(weeder int) stretch { return stretch{weeder, 0, f.Rows - 1} }

// count serves for what was left, too: as if left were a weeder.
func (s sheet) count(t stretch) int {
	many := 0
	for _, said := range s[t.from : t.to+1] {
		if said == t.weeder {
			many++
		}
	}
	return many
}

func (f Field) allows(s sheet) bool { return f.Left.holds(s.count(f.whole(left))) }

// allowed yields truths one by one, as most of them need not be kept.
func (f Field) allowed() iter.Seq[sheet] {
	return func(yield func(sheet) bool) {
		s := blank()
		var choose func(row int) bool
		choose = func(row int) bool {
			if row == f.Rows {
				return !f.allows(s) || yield(s)
			}
			for said := left; said < f.Weeders; said++ {
				s[row] = said
				if !choose(row + 1) {
					return false
				}
			}
			return true
		}
		choose(0)
	}
}

// faults has for each tally whether it is wrong. Tallies that the field does
// not have are never wrong, so that a truth of the field has the zero faults.
type faults [api.MaxWeedTallies]bool

// wrong counts a stretch once, however many tallies report of it.
func (f Field) wrong(s sheet) (found faults) {
	counts := map[stretch]int{}
	for i, t := range f.Tallies {
		many, counted := counts[t.stretch()]
		if !counted {
			many = s.count(t.stretch())
			counts[t.stretch()] = many
		}
		found[i] = !t.Count.holds(many)
	}
	return found
}
