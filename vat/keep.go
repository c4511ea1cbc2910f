package vat

import (
	"slices"

	"isatis/api"
)

// before is the number of the day before the first one in a proof.
const before = -1

// bare has the bare balances of a truth.
type bare struct {
	Truth
	balances days
}

func (v Vat) bare(t Truth) bare {
	b := bare{Truth: t}
	balance := t.Start
	for day, drift := range t.Drift {
		balance += drift
		b.balances[day] = balance
	}
	return b
}

// keeper is a vat at work on feedings. Their room on a day is told by the
// greatest and the smallest bare balance.
type keeper struct {
	*work
	bares []bare
}

// keeper takes one truth alone of those that follow one another and have the
// same balances, as one of them tells all.
func (w *work) keeper() keeper {
	k := keeper{work: w}
	for _, t := range w.truths {
		b := w.bare(t)
		if n := len(k.bares); n == 0 || k.bares[n-1].balances != b.balances {
			k.bares = append(k.bares, b)
		}
	}
	return k
}

// most is one with the greatest bare balance on the day; any one, before the
// first day.
func (k keeper) most(day int) bare {
	if day == before {
		return k.bares[0]
	}
	return slices.MaxFunc(k.bares, func(a, b bare) int { return a.balances[day] - b.balances[day] })
}

// least is one with the smallest bare balance on the day; any one, before the
// first day.
func (k keeper) least(day int) bare {
	if day == before {
		return k.bares[0]
	}
	return slices.MinFunc(k.bares, func(a, b bare) int { return a.balances[day] - b.balances[day] })
}

// room has what may have been fed altogether by the day, so that the vat is in
// order on it always. If nothing may, Lo is above Hi.
func (k keeper) room(day int) Range {
	return Range{Lo: -k.Band - k.least(day).balances[day], Hi: k.Band - k.most(day).balances[day]}
}

// fed has for each of the most days what can have been fed altogether by it, if
// the vat is in order up to it always.
func (k keeper) fed() []Range {
	var list []Range
	var last Range
	for day := range k.Last + 1 {
		r := k.room(day)
		last = Range{Lo: max(r.Lo, last.Lo-api.MaxVatFeed), Hi: min(r.Hi, last.Hi+api.MaxVatFeed)}
		if last.Lo > last.Hi {
			break
		}
		list = append(list, last)
	}
	return list
}

// feedingOf goes back from the last day, as what is fed by a day may leave too
// little room on a later one.
func feedingOf(fed []Range) []int {
	if len(fed) == 0 {
		return nil
	}
	list := make([]int, len(fed))
	last := len(fed) - 1
	sum := fed[last].Lo
	for day := last; day > 0; day-- {
		earlier := max(fed[day-1].Lo, sum-api.MaxVatFeed)
		list[day] = sum - earlier
		sum = earlier
	}
	list[0] = sum
	return list
}

func (k keeper) keeps(feeding []int) bool {
	sum := 0
	for day, n := range feeding {
		sum += n
		if !k.room(day).holds(sum) {
			return false
		}
	}
	return true
}

// isProof reports whether the proof has days and truths of the vat, which is
// valid; not whether it shows anything.
func (v Vat) isProof(p Proof) bool {
	all := Range{Lo: before, Hi: v.Last}
	return all.holds(p.Over) && all.holds(p.Under) && max(p.Over, p.Under) != before &&
		v.hasTruth(p.Most) && v.hasTruth(p.Least)
}

func (v Vat) need(p Proof) int {
	need := 0
	if p.Over != before {
		need += v.bare(p.Most).balances[p.Over] - v.Band
	}
	if p.Under != before {
		need += -v.Band - v.bare(p.Least).balances[p.Under]
	}
	return need
}

func (p Proof) reach() int { return api.MaxVatFeed * (max(p.Over, p.Under) - min(p.Over, p.Under)) }

func (v Vat) shows(p Proof) bool { return v.need(p) > p.reach() }

// proof has the truths by which these days show the most, in memory of their
// own.
func (k keeper) proof(over, under int) Proof {
	most, least := k.most(over).Truth, k.least(under).Truth
	most.Drift, least.Drift = slices.Clone(most.Drift), slices.Clone(least.Drift)
	return Proof{Over: over, Under: under, Most: most, Least: least}
}

// show is for the first day on which no feeding keeps the vat in order. What can
// have been fed by it is empty then, as two ends of a room, one of them on this
// day, are too far apart; so there is a proof with the day of the other one.
func (k keeper) show(day int) (found Proof) {
searching:
	for other := before; other <= day; other++ {
		for _, p := range []Proof{k.proof(day, other), k.proof(other, day)} {
			if k.shows(p) {
				found = p
				break searching
			}
		}
	}
	return found
}
