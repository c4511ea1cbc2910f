package wage

import (
	"cmp"
	"iter"
	"slices"

	"isatis/api"
	"isatis/lists"
	"isatis/weed"
)

// truths yields those of the field, in lexicographic order. A list is valid until
// the next one is yielded.
func (l Ledger) truths() iter.Seq[[]int] {
	return func(yield func([]int) bool) {
		said := lists.FromTo(-1, l.Field.Weeders-1)
		for rows := range lists.Choices(slices.Repeat([][]int{said}, l.Field.Rows)) {
			if weed.ProveTruth(l.Field, rows) && !yield(rows) {
				return
			}
		}
	}
}

// dues has one for each weeder: always nothing for those that the field does not
// have.
type dues [api.MaxWeedWeeders]int

func (l Ledger) duesOf(rows []int) (d dues) {
	for _, weeder := range rows {
		if weeder >= 0 {
			d[weeder] += l.Rate
		}
	}
	return d
}

// sheet has what a truth of the field says of some of its rows.
type sheet [api.MaxWeedRows]int

func kept(truth, rows []int) (s sheet) {
	for i, row := range rows {
		s[i] = truth[row]
	}
	return s
}

// earner is a weeder with a due.
type earner struct{ weeder, due int }

// payable has what the earner can have been paid, if the box is not asked.
func (e earner) payable(notes []Note) Range {
	r := upTo(e.due)
	for _, n := range notes {
		if n.Weeder == e.weeder {
			r = r.both(n.Pence)
		}
	}
	return r
}

// wages are dues with what each weeder can have been paid.
type wages struct {
	dues
	paid [api.MaxWeedWeeders]Range
}

func (g wages) earnedBy(weeder int) Range {
	return Range{Lo: g.dues[weeder], Hi: g.dues[weeder]}
}

func (g wages) paidTo(weeder int) Range { return g.paid[weeder] }

func (g wages) owedTo(weeder int) Range {
	return Range{Lo: g.dues[weeder] - g.paid[weeder].Hi, Hi: g.dues[weeder] - g.paid[weeder].Lo}
}

// within keeps of what can be paid that which leaves the others a payment with
// which the box is right. It reports whether there is any.
func (g wages) within(box Range) (wages, bool) {
	var together Range
	for _, r := range g.paid {
		if r.isEmpty() {
			return wages{}, false
		}
		together = Range{Lo: together.Lo + r.Lo, Hi: together.Hi + r.Hi}
	}
	for weeder, r := range g.paid {
		others := Range{Lo: together.Lo - r.Lo, Hi: together.Hi - r.Hi}
		g.paid[weeder] = r.both(Range{Lo: box.Lo - others.Hi, Hi: box.Hi - others.Lo})
	}
	return g, !together.both(box).isEmpty()
}

// shared shares money by numbers that are together more than 0. The pence that
// are left over are always fewer than the numbers.
func shared(money int, numbers []int) []int {
	all := lists.Sum(numbers)
	shares := make([]int, len(numbers))
	for i, n := range numbers {
		shares[i] = money * n / all
	}
	greatestFirst := lists.FromTo(0, len(numbers)-1)
	slices.SortStableFunc(greatestFirst, func(i, j int) int {
		return cmp.Compare(money*numbers[j]%all, money*numbers[i]%all)
	})
	for _, i := range greatestFirst[:money-lists.Sum(shares)] {
		shares[i]++
	}
	return shares
}
