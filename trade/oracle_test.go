package trade_test

import (
	"math/rand/v2"
	"slices"

	"isatis/api"
	"isatis/cask"
	"isatis/oracle"
	"isatis/trade"
)

// The oracle follows the chapter word by word: it asks each truth by itself, so
// that it shares no way of computing with the package. It is for valid trades.

func isIn(n int, r trade.Range) bool { return r.Lo <= n && n <= r.Hi }

func weightOf(d trade.Trade, number int) int { return oracle.Sum(d.Cellar.Casks[number]) }

func strengthOf(d trade.Trade, number int, heaps []int) int {
	return oracle.StrengthOf(d.Cellar.Casks[number], heaps)
}

func moneyOf(d trade.Trade, number int, heaps []int) int {
	i := slices.IndexFunc(d.Grades, func(g trade.Grade) bool { return strengthOf(d, number, heaps) >= g.Strength })
	if i < 0 {
		return 0
	}
	return d.Grades[i].Price * weightOf(d, number)
}

// allMoney is that of each cask.
func allMoney(d trade.Trade, heaps []int) (list []int) {
	for number := range d.Cellar.Casks {
		list = append(list, moneyOf(d, number, heaps))
	}
	return list
}

// keep has those of the truths in which all notes but these are right.
func keep(d trade.Trade, truths [][]int, but ...int) (kept [][]int) {
	for _, heaps := range truths {
		right := true
		for n, x := range d.Notes {
			right = right && (slices.Contains(but, n) || isIn(moneyOf(d, x.Cask, heaps), x.Money))
		}
		if right {
			kept = append(kept, heaps)
		}
	}
	return kept
}

func truthsOf(d trade.Trade) [][]int { return keep(d, oracle.TruthsOf(d.Cellar)) }

func hasTruth(d trade.Trade) bool { return len(truthsOf(d)) > 0 }

// errorOf is that of Bounds, Worth and Best.
func errorOf(d trade.Trade) api.Errno {
	switch {
	case len(oracle.TruthsOf(d.Cellar)) == 0:
		return api.ErrFalse
	case !hasTruth(d):
		return api.ErrFail
	}
	return api.OK
}

// boundsOf are those of what each truth has, of which there is one at least.
func boundsOf(truths [][]int, of func(heaps []int) int) trade.Range {
	r := to(of(truths[0]), of(truths[0]))
	for _, heaps := range truths {
		r = to(min(r.Lo, of(heaps)), max(r.Hi, of(heaps)))
	}
	return r
}

func worthOf(d trade.Trade, heaps, sale []int) int {
	all := 0
	for number := range d.Cellar.Casks {
		if slices.Contains(sale, number) {
			all += moneyOf(d, number, heaps)
		} else {
			all += weightOf(d, number) * d.Flat
		}
	}
	return all
}

// sales are all of them, in lexicographic order.
func sales(d trade.Trade) [][]int {
	list := oracle.ShortestFirst(len(d.Cellar.Casks))
	slices.SortFunc(list, slices.Compare)
	return list
}

func bestOf(d trade.Trade) (best []int, worth int) {
	truths := truthsOf(d)
	worth = -1
	for _, sale := range sales(d) {
		if n := boundsOf(truths, func(heaps []int) int { return worthOf(d, heaps, sale) }).Lo; n > worth {
			best, worth = sale, n
		}
	}
	return best, worth
}

// suits asks the truths, which are those of the trade.
func suits(d trade.Trade, truths [][]int, number int, o trade.Order) bool {
	return weightOf(d, number) >= o.Least && !slices.ContainsFunc(truths, func(heaps []int) bool {
		return strengthOf(d, number, heaps) < d.Grades[o.Grade].Strength
	})
}

// assignments are all lists with one cask for each order, in lexicographic order,
// also those with a cask twice.
func assignments(d trade.Trade) [][]int {
	casks := to(0, len(d.Cellar.Casks)-1)
	return oracle.OneOfEach(slices.Repeat([]trade.Range{casks}, len(d.Orders))...)
}

// isDelivery is for assignments.
func isDelivery(d trade.Trade, truths [][]int, list []int) bool {
	used := map[int]bool{}
	for order, number := range list {
		if used[number] || !suits(d, truths, number, d.Orders[order]) {
			return false
		}
		used[number] = true
	}
	return true
}

// deliveryOf is the first delivery, and whether there is any.
func deliveryOf(d trade.Trade) ([]int, bool) {
	truths := truthsOf(d)
	for _, list := range assignments(d) {
		if isDelivery(d, truths, list) {
			return list, true
		}
	}
	return nil, false
}

func isShort(d trade.Trade, truths [][]int, orders []int) bool {
	casks := map[int]bool{}
	for _, order := range orders {
		for number := range d.Cellar.Casks {
			if suits(d, truths, number, d.Orders[order]) {
				casks[number] = true
			}
		}
	}
	return len(casks) < len(orders)
}

// shortOf is the smallest proof, and whether there is any.
func shortOf(d trade.Trade) ([]int, bool) {
	truths := truthsOf(d)
	for _, orders := range oracle.ShortestFirst(len(d.Orders)) {
		if isShort(d, truths, orders) {
			return orders, true
		}
	}
	return nil, false
}

// only is the trade with the first notes alone.
func only(d trade.Trade, notes int) trade.Trade {
	d.Notes = d.Notes[:notes]
	return d
}

// without is the trade with the notes that are left if these are left out.
func without(d trade.Trade, notes []int) trade.Trade {
	d.Notes = oracle.Without(d.Notes, notes)
	return d
}

func with(d trade.Trade, x trade.Note) trade.Trade {
	d.Notes = append(slices.Clone(d.Notes), x)
	return d
}

func firstOf(d trade.Trade) (int, api.Errno) {
	truths := oracle.TruthsOf(d.Cellar)
	for n := range d.Notes {
		if len(keep(only(d, n+1), truths)) == 0 {
			return n, api.OK
		}
	}
	return 0, api.ErrNone
}

func leaveOf(d trade.Trade) []int {
	truths := oracle.TruthsOf(d.Cellar)
	sets := oracle.ShortestFirst(len(d.Notes))
	return sets[slices.IndexFunc(sets, func(but []int) bool { return len(keep(d, truths, but...)) > 0 })]
}

func limited(n, most int) int { return min(most, max(0, n)) }

// randomWeights are mostly small, so that casks and orders are often as heavy.
func randomWeights(r *rand.Rand, many int) []int {
	weights := make([]int, many)
	for heap := range weights {
		weights[heap] = []int{0, r.IntN(4), r.IntN(9), r.IntN(31)}[r.IntN(4)]
	}
	if slices.Max(weights) == 0 {
		weights[r.IntN(many)] = 1 + r.IntN(9)
	}
	return weights
}

// randomCellar has at most so many truths, and no trials.
func randomCellar(r *rand.Rand, casks, truths int) cask.Cellar {
	var c cask.Cellar
	middle, heaps := []int{0, r.IntN(101), 30 + r.IntN(40), 100}[r.IntN(4)], 1+r.IntN(3)
	for range heaps {
		low, more := limited(middle+r.IntN(17)-8, 100), r.IntN(min(truths, 9))
		c.Heaps = append(c.Heaps, cask.Range{Lo: low, Hi: limited(low+more, 100)})
		truths /= more + 1
	}
	for range casks {
		c.Casks = append(c.Casks, randomWeights(r, heaps))
	}
	return c
}

// randomTrial mostly allows what is so with these strengths of the heaps.
func randomTrial(r *rand.Rand, c cask.Cellar, heaps []int) cask.Trial {
	x := cask.Trial{Number: r.IntN(len(heaps))}
	n := heaps[x.Number]
	if len(c.Casks) > 0 && r.IntN(2) == 0 {
		x = cask.Trial{Cask: true, Number: r.IntN(len(c.Casks))}
		n = oracle.StrengthOf(c.Casks[x.Number], heaps)
	}
	if r.IntN(5) == 0 {
		n += 1 + r.IntN(4)
	}
	x.Strength = cask.Range{Lo: limited(n-r.IntN(3), 100), Hi: limited(n+r.IntN(3), 100)}
	return x
}

// randomGrades are about strengths that casks can have.
func randomGrades(r *rand.Rand, c cask.Cellar, truths [][]int) []trade.Grade {
	var strengths, prices []int
	for range 1 + r.IntN(3) {
		n := r.IntN(101)
		if len(c.Casks) > 0 && r.IntN(5) > 0 {
			n = oracle.StrengthOf(c.Casks[r.IntN(len(c.Casks))], truths[r.IntN(len(truths))]) + r.IntN(3) - 1
		}
		strengths, prices = append(strengths, limited(n, 100)), append(prices, r.IntN(9))
	}
	slices.Sort(strengths)
	slices.Sort(prices)
	strengths = slices.Compact(strengths)
	var grades []trade.Grade
	for i := len(strengths) - 1; i >= 0; i-- {
		grades = append(grades, trade.Grade{Strength: strengths[i], Price: prices[i]})
	}
	return grades
}

// randomOrder is mostly one that some cask is heavy enough for.
func randomOrder(r *rand.Rand, d trade.Trade) trade.Order {
	least := 1 + r.IntN(90)
	if len(d.Cellar.Casks) > 0 && r.IntN(5) > 0 {
		least = weightOf(d, r.IntN(len(d.Cellar.Casks))) - r.IntN(3)*r.IntN(9)
	}
	return trade.Order{Grade: r.IntN(len(d.Grades)), Least: max(1, least)}
}

// randomNote is for a trade with casks. It is mostly right with these strengths of
// the heaps.
func randomNote(r *rand.Rand, d trade.Trade, heaps []int) trade.Note {
	number := r.IntN(len(d.Cellar.Casks))
	n, slack := moneyOf(d, number, heaps), weightOf(d, number)
	if r.IntN(3) == 0 {
		n += r.IntN(2*slack+1) - slack
	}
	return note(number, max(0, n-r.IntN(slack+1)), max(0, n+r.IntN(slack+1)))
}

// randomTrade has so many casks, at most so many truths, and neither trials nor
// notes. The flat price is near that of a grade, so that the best sale is seldom
// that of all casks, or of none.
func randomTrade(r *rand.Rand, casks, truths int) trade.Trade {
	d := trade.Trade{Cellar: randomCellar(r, casks, truths)}
	d.Grades = randomGrades(r, d.Cellar, oracle.TruthsOf(d.Cellar))
	d.Flat = max(0, d.Grades[r.IntN(len(d.Grades))].Price+r.IntN(3)-1)
	for range r.IntN(4) {
		d.Orders = append(d.Orders, randomOrder(r, d))
	}
	return d
}

// randomTrades yields small valid trades with at most so many notes, and with a
// number source for what else a test needs. A few of the cellars have no truth.
func randomTrades(many, notes int) func(yield func(*rand.Rand, trade.Trade) bool) {
	return func(yield func(*rand.Rand, trade.Trade) bool) {
		r := rand.New(rand.NewPCG(10, uint64(many)))
		for range many {
			d := randomTrade(r, 3-r.IntN(2)*r.IntN(4), 1+r.IntN(80))
			truths := oracle.TruthsOf(d.Cellar)
			heaps := truths[r.IntN(len(truths))]
			for range r.IntN(2) * r.IntN(4) {
				d.Cellar.Trials = append(d.Cellar.Trials, randomTrial(r, d.Cellar, heaps))
			}
			for range r.IntN(notes+1) * min(1, len(d.Cellar.Casks)) {
				d = with(d, randomNote(r, d, heaps))
			}
			if !yield(r, d) {
				return
			}
		}
	}
}

// bigTrades have three casks, many truths, and a note.
func bigTrades() (list []trade.Trade) {
	r := rand.New(rand.NewPCG(10, 10))
	for len(list) < 6 {
		d := randomTrade(r, 3, 2000)
		truths := oracle.TruthsOf(d.Cellar)
		if d = with(d, randomNote(r, d, truths[r.IntN(len(truths))])); len(truths) > 200 && hasTruth(d) {
			list = append(list, d)
		}
	}
	return list
}
